/-
  The document's own arena: Put, Get, Read, Write, Fill, Move, Same, Whole.
-/
import Derived.Test.YtknhoncnaigogaaBa
import Derived.Test.YtknhoncnaigogaaI
namespace Go.Proofs.Ytknhoncnaigogaa
open Go.RowKit
set_option linter.unusedVariables false

set_option maxHeartbeats 1000000 in
theorem rput_yes {w : World} {b g ps : Nat} {zs : List Int} (h : IsR w b g ps zs) (x k v : Int) (hk : 1 ≤ k ∧ k ≤ 8) (hv : 0 ≤ v ∧ v < 18446744073709551616) (ht : There ps zs.length x k) :
    Calls Try.prog 37 #[.pointer (some ⟨b, 0, none⟩), .int .i64 x, .int .i64 k, .int .u64 v] w fun e w' => e = .returned (.int .i64 0) ∧ w.grownBy w' (some g) ∧ IsR w' b g ps (putL zs x.toNat k.toNat v) := by
  have hN := h.hN
  obtain ⟨t1, t2, t3, t4⟩ := ht
  have hlt : b < w.heap.size := (Array.getElem?_eq_some_iff.1 h.hb).1
  have hHH := h
  have HH : Hid (IsR w b g ps zs) := hHH
  clear hHH
  go_enter Try.func37, Try.ntmps37
  go_wp2_with (go_at_call 71; go_must (refine (h.there_yes x k ⟨t1, t2, t3, t4⟩).mono ?_); rintro e w' ⟨rfl, q, rfl⟩)
  go_loopw [3, 9] (fun r i wr => ∃ (j : Nat) (n : Int) (ys : List Int), (j : Int) ≤ k ∧ i = .int .i64 ((j : Int) - 1) ∧ r = .int .u64 n ∧ 0 ≤ n ∧ n < 18446744073709551616 ∧ ys.length = zs.length ∧ Hid (putL ys x.toNat j n = putL zs x.toNat k.toNat v) ∧ Hid (∀ z ∈ ys, 0 ≤ z ∧ z < 256) ∧ wr.heap[g]? = some (.cells (vals ys) 5 (0, 0)) ∧ w.grownBy wr (some g)) (fun _ i _ => (intOf i + 1).toNat)
  case atStart => exact ⟨k.toNat, v, zs, by omega, by go_num, rfl, by omega, by omega, rfl, rfl, h.hz, h.hg, gb_drewN (gb_refl _ _) _⟩
  case round =>
    clear h
    obtain ⟨j, n, ys, hj, rfl, rfl, hn0, hn1, hl, HP, hzz, hgr, hfr⟩ := hrel
    have hR : IsR wr b g ps ys := HH.out.turned hfr hgr hl hzz.out
    have c1 := hR.c1
    rw [hl] at c1
    by_cases hlt2 : 0 < j
    · obtain ⟨j, rfl⟩ : ∃ i, j = i + 1 := ⟨j - 1, by omega⟩
      have hcell := cell_of_vals hgr (x.toNat + j) (by omega)
      have hfz := frozen_of_row wr g (x.toNat + j) _ _ hgr
      have HG : Hid (wr.heap[g]? = some (.cells (vals ys) 5 (0, 0))) := hgr
      have hxx : (x + (j : Int)).toNat = x.toNat + j := by omega
      clear hgr hR
      go_wp2
      go_roundw
      case rel => exact ⟨j, n / 256, ys.set (x.toNat + j) (n % 256), by omega, rfl, rfl, by omega, by omega, by simpa using hl, HP.out, putL_mem _ 1 ys n hzz.out, by first | exact set_vals HG.out _ _ | (rw [hxx]; exact set_vals HG.out _ _), by first | exact gb_setCell hfr _ | (rw [hxx]; exact gb_setCell hfr _)⟩
      case measure => first | (simp [intOf]; done) | (simp [intOf]; omega)
    · obtain rfl : j = 0 := by omega
      clear hgr c1
      go_wp2
      go_ret
      refine ⟨rfl, hfr, ?_⟩
      have := HP.out
      rw [← this]
      exact hR

theorem rput_no {w : World} {b g ps : Nat} {zs : List Int} (h : IsR w b g ps zs) (x k v : Int) (hx : x ≤ 9223372036854775807) (ht : ¬ There ps zs.length x k) :
    Calls Try.prog 37 #[.pointer (some ⟨b, 0, none⟩), .int .i64 x, .int .i64 k, .int .u64 v] w fun e w' => e = .returned (.int .i64 20) ∧ w.grownBy w' none := by
  go_enter Try.func37, Try.ntmps37
  go_wp2_with (go_at_call 71; go_must (refine (h.there_no x k hx ht).mono ?_); rintro e w' ⟨rfl, q, rfl⟩)
  go_ret
  exact ⟨rfl, gb_drewN (gb_refl _ _) _⟩

set_option maxHeartbeats 1000000 in
theorem rget_yes {w : World} {b g ps : Nat} {zs : List Int} (h : IsR w b g ps zs) (x k : Int) (hk : 1 ≤ k ∧ k ≤ 8) (ht : There ps zs.length x k) :
    Calls Try.prog 44 #[.pointer (some ⟨b, 0, none⟩), .int .i64 x, .int .i64 k] w fun e w' => e = .returned (.tuple #[.int .u64 (getL zs x.toNat k.toNat 0 0), .int .i64 0]) ∧ w.grownBy w' none := by
  have hN := h.hN
  obtain ⟨t1, t2, t3, t4⟩ := ht
  have c1 := h.c1
  go_enter Try.func44, Try.ntmps44
  go_wp2_with (go_at_call 71; go_must (refine (h.there_yes x k ⟨t1, t2, t3, t4⟩).mono ?_); rintro e w' ⟨rfl, q, rfl⟩)
  go_loop [8, 9] (fun r c => ∃ (i : Nat) (s : Int), (i : Int) ≤ k ∧ c = .int .i64 i ∧ r = .int .u64 s ∧ 0 ≤ s ∧ Hid (s < pw i) ∧ Hid (getL zs x.toNat (k.toNat - i) i s = getL zs x.toNat k.toNat 0 0)) (fun _ c => k.toNat - (intOf c).toNat)
  case atStart => exact ⟨0, 0, by omega, rfl, rfl, by omega, (show (0 : Int) < 1 by decide), rfl⟩
  case round =>
    obtain ⟨i, s, hi, rfl, rfl, hs0, hs1, hp⟩ := hrel
    by_cases hlt : (i : Int) < k
    · have hcell := cell_of_vals h.hg (x.toNat + i) (by omega)
      have hz := h.hz (zs.getD (x.toNat + i) 0) (getD_mem (by omega))
      obtain ⟨z, hz'⟩ : ∃ z, z = zs.getD (x.toNat + i) 0 := ⟨_, rfl⟩
      have HP : Hid (getL zs x.toNat (k.toNat - (i + 1)) (i + 1) (256 * s + z) = getL zs x.toNat k.toNat 0 0) := by
        have := hp.out
        rw [getL_go zs _ _ _ _ (by omega), ← hz'] at this
        exact this
      rw [← hz'] at hcell hz
      have hst := pow_step i s z (by omega) hs1.out hz.2
      have hb2 := hst.1
      have HB : Hid (256 * s + z < pw (i + 1)) := hst.2
      have hxx : (x + (i : Int)).toNat = x.toNat + i := by omega
      clear hz' hst
      go_wp2
      go_round
      case rel => exact ⟨i + 1, 256 * s + z, by omega, by go_num, rfl, by omega, HB, HP⟩
      case measure => simp [intOf]; omega
    · have e : Hid (getL zs x.toNat k.toNat 0 0 = s) := by
        have := hp.out
        rw [getL_stop zs _ _ _ _ (by omega)] at this
        exact this.symm
      clear hp
      go_wp2
      go_ret2
      refine ⟨?_, gb_drewN (gb_refl _ _) _⟩
      rw [e.out]
      rfl

theorem rget_no {w : World} {b g ps : Nat} {zs : List Int} (h : IsR w b g ps zs) (x k : Int) (hx : x ≤ 9223372036854775807) (ht : ¬ There ps zs.length x k) :
    Calls Try.prog 44 #[.pointer (some ⟨b, 0, none⟩), .int .i64 x, .int .i64 k] w fun e w' => e = .returned (.tuple #[.int .u64 0, .int .i64 20]) ∧ w.grownBy w' none := by
  go_enter Try.func44, Try.ntmps44
  go_wp2_with (go_at_call 71; go_must (refine (h.there_no x k hx ht).mono ?_); rintro e w' ⟨rfl, q, rfl⟩)
  go_ret2
  exact ⟨rfl, gb_drewN (gb_refl _ _) _⟩

theorem IsR.has {w : World} {b g ps : Nat} {zs : List Int} (h : IsR w b g ps zs) {x n : Int} (ht : There ps zs.length x n) {o : Nat} (ho : 0 < n → o = x.toNat) : Has w (some ⟨g, o, none⟩) n.toNat (cut zs x.toNat n.toNat) := by
  obtain ⟨h1, h2, h3, h4⟩ := ht
  refine ⟨length_cut (by omega), fun hn => ⟨g, o, rfl, fun i hi => ?_⟩⟩
  rw [ho (by omega), getD_cut hi]
  exact cell_of_vals h.hg _ (by omega)

set_option maxHeartbeats 1000000 in
theorem rread_yes {w : World} {b g ps : Nat} {zs : List Int} (h : IsR w b g ps zs) (x n : Int) (ht : There ps zs.length x n) :
    Calls Try.prog 45 #[.pointer (some ⟨b, 0, none⟩), .int .i64 x, .int .i64 n] w fun e w' => ∃ ao cap, e = .returned (.tuple #[.slice ao n.toNat cap, .int .i64 0]) ∧ w.grownBy w' none ∧ Own w.heap.size w' ao cap (cut zs x.toNat n.toNat) := by
  have hN := h.hN
  have c1 := h.c1
  have hTT := ht
  obtain ⟨t1, t2, t3, t4⟩ := ht
  have hl : (x + n).toNat - x.toNat = n.toNat := by omega
  by_cases hx : zs.length = x.toNat
  · have hx' : zs.length - x.toNat = 0 := by omega
    have hk := h.has hTT (o := 0) (fun h => by omega)
    clear hx
    go_enter Try.func45, Try.ntmps45
    go_wp2_with (first | (go_at_call 71; go_must (refine (h.there_yes x n hTT).mono ?_); rintro e w' ⟨rfl, q, rfl⟩) | fail)
    refine (copy_any (hk.drewN q) _ (by simp) (by omega)).mono ?_
    rintro e w2 ⟨ao, cap, rfl, hown, hf⟩
    go_wp2
    go_ret2
    exact ⟨ao, cap, rfl, gb_trans (gb_drewN (gb_refl _ _) q) hf, hown⟩
  · have hk := h.has hTT (o := x.toNat) (fun h => rfl)
    go_enter Try.func45, Try.ntmps45
    go_wp2_with (first | (go_at_call 71; go_must (refine (h.there_yes x n hTT).mono ?_); rintro e w' ⟨rfl, q, rfl⟩) | fail)
    refine (copy_any (hk.drewN q) _ (by simp) (by omega)).mono ?_
    rintro e w2 ⟨ao, cap, rfl, hown, hf⟩
    go_wp2
    go_ret2
    exact ⟨ao, cap, rfl, gb_trans (gb_drewN (gb_refl _ _) q) hf, hown⟩

theorem rread_no {w : World} {b g ps : Nat} {zs : List Int} (h : IsR w b g ps zs) (x n : Int) (hx : x ≤ 9223372036854775807) (ht : ¬ There ps zs.length x n) :
    Calls Try.prog 45 #[.pointer (some ⟨b, 0, none⟩), .int .i64 x, .int .i64 n] w fun e w' => e = .returned (.tuple #[.slice none 0 0, .int .i64 20]) ∧ w.grownBy w' none := by
  go_enter Try.func45, Try.ntmps45
  go_wp2_with (go_at_call 71; go_must (refine (h.there_no x n hx ht).mono ?_); rintro e w' ⟨rfl, q, rfl⟩)
  go_ret2
  exact ⟨rfl, gb_drewN (gb_refl _ _) _⟩

set_option maxHeartbeats 1000000 in
theorem rsame_yes {w : World} {b g ps : Nat} {zs : List Int} (h : IsR w b g ps zs) (x : Int) (a : Option Addr) (n c : Nat) (ys : List Int) (hy : Has w a n ys) (hb : isBytes ys) (hn : (n : Int) ≤ 9223372036854775807) (ht : There ps zs.length x n) :
    Calls Try.prog 47 #[.pointer (some ⟨b, 0, none⟩), .int .i64 x, .slice a n c] w fun e w' => e = .returned (.bool (decide (cut zs x.toNat n = ys))) ∧ w.grownBy w' none := by
  have hN := h.hN
  have c1 := h.c1
  have hTT := ht
  obtain ⟨t1, t2, t3, t4⟩ := ht
  have hl : (x + (n : Int)).toNat - x.toNat = n := by omega
  by_cases hx : zs.length = x.toNat
  · have hx' : zs.length - x.toNat = 0 := by omega
    have hk := h.has hTT (o := 0) (fun h => by omega)
    clear hx
    go_enter Try.func47, Try.ntmps47
    go_wp2_with (first | (go_at_call 71; go_must (refine (h.there_yes x n hTT).mono ?_); rintro e w' ⟨rfl, q, rfl⟩) | fail)
    refine (equal_34 (hk.drewN q) (hy.drewN q) (isBytes_cut h.hz _ _) hb _ _).mono ?_
    rintro e w2 ⟨rfl, rfl⟩
    go_wp2
    go_ret
    exact ⟨rfl, gb_drewN (gb_refl _ _) _⟩
  · have hk := h.has hTT (o := x.toNat) (fun h => rfl)
    go_enter Try.func47, Try.ntmps47
    go_wp2_with (first | (go_at_call 71; go_must (refine (h.there_yes x n hTT).mono ?_); rintro e w' ⟨rfl, q, rfl⟩) | fail)
    refine (equal_34 (hk.drewN q) (hy.drewN q) (isBytes_cut h.hz _ _) hb _ _).mono ?_
    rintro e w2 ⟨rfl, rfl⟩
    go_wp2
    go_ret
    exact ⟨rfl, gb_drewN (gb_refl _ _) _⟩

theorem rsame_no {w : World} {b g ps : Nat} {zs : List Int} (h : IsR w b g ps zs) (x : Int) (a : Option Addr) (n c : Nat) (hx : x ≤ 9223372036854775807) (hn : (n : Int) ≤ 9223372036854775807) (ht : ¬ There ps zs.length x n) :
    Calls Try.prog 47 #[.pointer (some ⟨b, 0, none⟩), .int .i64 x, .slice a n c] w fun e w' => e = .returned (.bool false) ∧ w.grownBy w' none := by
  go_enter Try.func47, Try.ntmps47
  go_wp2_with (go_at_call 71; go_must (refine (h.there_no x n hx ht).mono ?_); rintro e w' ⟨rfl, q, rfl⟩)
  go_ret
  exact ⟨rfl, gb_drewN (gb_refl _ _) _⟩

set_option maxHeartbeats 1000000 in
theorem rfill_yes {w : World} {b g ps : Nat} {zs : List Int} (h : IsR w b g ps zs) (x n v : Int) (hv : 0 ≤ v ∧ v < 256) (ht : There ps zs.length x n) :
    Calls Try.prog 42 #[.pointer (some ⟨b, 0, none⟩), .int .i64 x, .int .i64 n, .int .u8 v] w fun e w' => e = .returned (.int .i64 0) ∧ w.grownBy w' (some g) ∧ IsR w' b g ps (lay zs x.toNat (List.replicate n.toNat v)) := by
  have hN := h.hN
  have hTT := ht
  obtain ⟨t1, t2, t3, t4⟩ := ht
  obtain ⟨m, rfl⟩ := Int.eq_ofNat_of_zero_le t1
  simp only [Int.toNat_natCast]
  have HH : Hid (IsR w b g ps zs) := h
  go_enter Try.func42, Try.ntmps42
  go_wp2_with (go_at_call 71; go_must (refine (h.there_yes x m hTT).mono ?_); rintro e w' ⟨rfl, q, rfl⟩)
  go_loopw [9] (fun c wr => ∃ (i : Nat) (ys : List Int), i ≤ m ∧ c = .int .i64 i ∧ Hid (ys = lay zs x.toNat (List.replicate i v)) ∧ ys.length = zs.length ∧ Hid (∀ z ∈ ys, 0 ≤ z ∧ z < 256) ∧ wr.heap[g]? = some (.cells (vals ys) 5 (0, 0)) ∧ w.grownBy wr (some g)) (fun c _ => m - (intOf c).toNat)
  case atStart => exact ⟨0, zs, by omega, rfl, by show _ = _; simp [lay], rfl, h.hz, h.hg, gb_drewN (gb_refl _ _) _⟩
  case round =>
    clear h hTT
    obtain ⟨i, ys, hi, rfl, hys, hl, hzz, hgr, hfr⟩ := hrel
    have hR : IsR wr b g ps ys := HH.out.turned hfr hgr hl hzz.out
    by_cases hlt : i < m
    · have c1 := hR.c1
      rw [hl] at c1
      have hcell := cell_of_vals hgr (x.toNat + i) (by omega)
      have hfz := frozen_of_row wr g (x.toNat + i) _ _ hgr
      have HG : Hid (wr.heap[g]? = some (.cells (vals ys) 5 (0, 0))) := hgr
      have HY : Hid (ys.set (x.toNat + i) v = lay zs x.toNat (List.replicate (i + 1) v)) := by
        have e := hys.out
        have := lay_snoc (zs := zs) (us := List.replicate i v) (x := x.toNat) v (by simp; omega)
        rw [List.length_replicate] at this
        show _ = _
        rw [e, this, List.replicate_succ']
      have hzz2 : Hid (∀ z ∈ ys.set (x.toNat + i) v, 0 ≤ z ∧ z < 256) := by
        intro z hz
        rcases List.mem_or_eq_of_mem_set hz with h1 | h1
        · exact hzz.out z h1
        · subst h1; exact hv
      have hxx : (x + (i : Int)).toNat = x.toNat + i := by omega
      clear hgr hR
      go_wp2
      go_roundw
      case rel => exact ⟨i + 1, ys.set (x.toNat + i) v, by omega, by go_num, HY, by simpa using hl, hzz2, by first | exact set_vals HG.out _ _ | (rw [hxx]; exact set_vals HG.out _ _), by first | exact gb_setCell hfr _ | (rw [hxx]; exact gb_setCell hfr _)⟩
      case measure => first | (simp [intOf]; done) | (simp [intOf]; omega)
    · obtain rfl : i = m := by omega
      clear hgr
      go_wp2
      go_ret
      have e := hys.out
      exact ⟨rfl, hfr, by rw [← e]; exact hR⟩

theorem rfill_no {w : World} {b g ps : Nat} {zs : List Int} (h : IsR w b g ps zs) (x n v : Int) (hx : x ≤ 9223372036854775807) (ht : ¬ There ps zs.length x n) :
    Calls Try.prog 42 #[.pointer (some ⟨b, 0, none⟩), .int .i64 x, .int .i64 n, .int .u8 v] w fun e w' => e = .returned (.int .i64 20) ∧ w.grownBy w' none := by
  go_enter Try.func42, Try.ntmps42
  go_wp2_with (go_at_call 71; go_must (refine (h.there_no x n hx ht).mono ?_); rintro e w' ⟨rfl, q, rfl⟩)
  go_ret
  exact ⟨rfl, gb_drewN (gb_refl _ _) _⟩

end Go.Proofs.Ytknhoncnaigogaa
