/-
  The document's own arena: Write, Move, Whole.
-/
import Derived.Test.YtknhoncnaigogaaBb
namespace Go.Proofs.Ytknhoncnaigogaa
open Go.RowKit
set_option linter.unusedVariables false

theorem take_getD {ys : List Int} {i : Nat} (h : i < ys.length) : ys.take i ++ [ys.getD i 0] = ys.take (i + 1) := by
  rw [List.take_succ_eq_append_getElem h]
  simp [List.getD, h]

set_option maxHeartbeats 1000000 in
theorem rwrite_yes {w : World} {b g ps : Nat} {zs : List Int} (h : IsR w b g ps zs) (x : Int) (a : Option Addr) (n c : Nat) (ys : List Int) (hy : Has w a n ys) (hb : isBytes ys) (hne : 0 < n → ∀ k, a.map (·.block) = some k → k ≠ g) (hn : (n : Int) ≤ 9223372036854775807) (ht : There ps zs.length x n) :
    Calls Try.prog 41 #[.pointer (some ⟨b, 0, none⟩), .int .i64 x, .slice a n c] w fun e w' => e = .returned (.int .i64 0) ∧ w.grownBy w' (some g) ∧ IsR w' b g ps (lay zs x.toNat ys) := by
  have hN := h.hN
  have hTT := ht
  obtain ⟨t1, t2, t3, t4⟩ := ht
  have hly := hy.1
  have HH : Hid (IsR w b g ps zs) := h
  go_enter Try.func41, Try.ntmps41
  go_wp2_with (go_at_call 71; go_must (refine (h.there_yes x n hTT).mono ?_); rintro e w' ⟨rfl, q, rfl⟩)
  go_loopw [7] (fun c wr => ∃ (i : Nat) (us : List Int), i ≤ n ∧ c = .int .i64 i ∧ Hid (us = lay zs x.toNat (ys.take i)) ∧ us.length = zs.length ∧ Hid (∀ z ∈ us, 0 ≤ z ∧ z < 256) ∧ wr.heap[g]? = some (.cells (vals us) 5 (0, 0)) ∧ w.grownBy wr (some g)) (fun c _ => n - (intOf c).toNat)
  case atStart => exact ⟨0, zs, by omega, rfl, by show _ = _; simp [lay], rfl, h.hz, h.hg, gb_drewN (gb_refl _ _) _⟩
  case round =>
    clear h hTT
    obtain ⟨i, us, hi, rfl, hus, hl, hzz, hgr, hfr⟩ := hrel
    have hR : IsR wr b g ps us := HH.out.turned hfr hgr hl hzz.out
    by_cases hlt : i < n
    · have c1 := hR.c1
      rw [hl] at c1
      obtain ⟨sb, so, rfl, hcs⟩ := (hy.kept hfr (by intro k hk e; cases e; exact hne (by omega) _ hk rfl)).2 (by omega)
      have hsrc := hcs i hlt
      have hzb := hb (ys.getD i 0) (getD_mem (by omega))
      obtain ⟨z, hz'⟩ : ∃ z, z = ys.getD i 0 := ⟨_, rfl⟩
      have HY : Hid (us.set (x.toNat + i) z = lay zs x.toNat (ys.take (i + 1))) := by
        have e := hus.out
        have hti : (ys.take i).length = i := by simp; omega
        have := lay_snoc (zs := zs) (us := ys.take i) (x := x.toNat) (ys.getD i 0) (by rw [hti]; omega)
        rw [hti, take_getD (by omega)] at this
        show _ = _
        rw [e, hz', this]
      rw [← hz'] at hsrc hzb
      have hcell := cell_of_vals hgr (x.toNat + i) (by omega)
      have hfz := frozen_of_row wr g (x.toNat + i) _ _ hgr
      have HG : Hid (wr.heap[g]? = some (.cells (vals us) 5 (0, 0))) := hgr
      have hzz2 : Hid (∀ z' ∈ us.set (x.toNat + i) z, 0 ≤ z' ∧ z' < 256) := by
        intro z' hz1
        rcases List.mem_or_eq_of_mem_set hz1 with h1 | h1
        · exact hzz.out z' h1
        · subst h1; exact hzb
      have hxx : (x + (i : Int)).toNat = x.toNat + i := by omega
      have hii : (0 : Int) ≤ (i : Int) := by omega
      have hin : (i : Int) < (n : Int) := by omega
      have hx0 : (0 : Int) ≤ x + (i : Int) := by omega
      have hxn : x + (i : Int) < (zs.length : Int) := by omega
      have hwr : IntKind.i64.wrap (x + (i : Int)) = x + (i : Int) := by rw [IntKind.wrap_i64]; omega
      clear hgr hR hz' hcs hy hne
      go_wp2
      go_region
      go_wp2
      go_roundw
      case rel => exact ⟨i + 1, us.set (x.toNat + i) z, by omega, by go_num, HY, by simpa using hl, hzz2, set_vals HG.out _ _, gb_drew (gb_setCell hfr _)⟩
      case measure => first | (simp [intOf]; done) | (simp [intOf]; omega)
    · obtain rfl : i = n := by omega
      clear hgr
      go_wp2
      go_ret
      have e := hus.out
      rw [List.take_of_length_le (by omega)] at e
      exact ⟨rfl, hfr, by rw [← e]; exact hR⟩

theorem rwrite_no {w : World} {b g ps : Nat} {zs : List Int} (h : IsR w b g ps zs) (x : Int) (a : Option Addr) (n c : Nat) (hx : x ≤ 9223372036854775807) (hn : (n : Int) ≤ 9223372036854775807) (ht : ¬ There ps zs.length x n) :
    Calls Try.prog 41 #[.pointer (some ⟨b, 0, none⟩), .int .i64 x, .slice a n c] w fun e w' => e = .returned (.int .i64 20) ∧ w.grownBy w' none := by
  go_enter Try.func41, Try.ntmps41
  go_wp2_with (go_at_call 71; go_must (refine (h.there_no x n hx ht).mono ?_); rintro e w' ⟨rfl, q, rfl⟩)
  go_ret
  exact ⟨rfl, gb_drewN (gb_refl _ _) _⟩

set_option maxHeartbeats 1000000 in
theorem rmove_yes {w : World} {b g ps : Nat} {zs : List Int} (h : IsR w b g ps zs) (y x n : Int) (ht : There ps zs.length x n) (hu : There ps zs.length y n) :
    Calls Try.prog 43 #[.pointer (some ⟨b, 0, none⟩), .int .i64 y, .int .i64 x, .int .i64 n] w fun e w' => e = .returned (.int .i64 0) ∧ w.grownBy w' (some g) ∧ IsR w' b g ps (lay zs y.toNat (cut zs x.toNat n.toNat)) := by
  have hN := h.hN
  obtain ⟨m, rfl⟩ := Int.eq_ofNat_of_zero_le ht.1
  go_enter Try.func43, Try.ntmps43
  go_wp2_with fail
  refine (h.there_yes y m hu).mono ?_
  rintro e w' ⟨rfl, q, rfl⟩
  have h2 := h.kept (row := none) (gb_drewN (gb_refl w none) q) (by simp) (by simp)
  have hF2 := gb_drewN (gb_refl w none) q
  go_wp2_with fail
  refine (h2.there_yes x m ht).mono ?_
  rintro e w' ⟨rfl, r, rfl⟩
  have h3 := h2.kept (row := none) (gb_drewN (gb_refl (w.drewN q) none) r) (by simp) (by simp)
  have hF3 := gb_drewN hF2 r
  rw [World.drewN_drewN] at h3 hF3
  clear h2 hF2
  go_wp2_with fail
  generalize w.drewN (q + r) = V at *
  refine (rread_yes h3 x m ht).mono ?_
  rintro e u1 ⟨ao, cap, rfl, hg1, hown⟩
  have h4 := h3.kept hg1 (by simp) (by simp)
  have hF4 := gb_trans hF3 hg1
  have hHs := hown.has
  have hlc : (cut zs x.toNat (m : Int).toNat).length = (m : Int).toNat := length_cut (by obtain ⟨_, _, _, _⟩ := ht; omega)
  rw [hlc] at hHs
  have hgl : g < V.heap.size := (Array.getElem?_eq_some_iff.1 h3.hg).1
  have hlt := hown.lt
  simp only [Int.toNat_natCast] at *
  go_wp2_with fail
  refine (rwrite_yes h4 y ao m cap _ hHs (isBytes_cut h.hz _ _) (by intro _ k hk e; have := hlt k hk; omega) (by obtain ⟨_, _, _, _⟩ := hu; omega) hu).mono ?_
  rintro e u2 ⟨rfl, hg2, h5⟩
  go_wp2
  go_ret
  exact ⟨rfl, gb_trans (gb_none _ hF4) hg2, h5⟩

theorem rmove_no {w : World} {b g ps : Nat} {zs : List Int} (h : IsR w b g ps zs) (y x n : Int) (hx : x ≤ 9223372036854775807) (hy : y ≤ 9223372036854775807) (ht : ¬ There ps zs.length x n ∨ ¬ There ps zs.length y n) :
    Calls Try.prog 43 #[.pointer (some ⟨b, 0, none⟩), .int .i64 y, .int .i64 x, .int .i64 n] w fun e w' => e = .returned (.int .i64 20) ∧ w.grownBy w' none := by
  by_cases hu : There ps zs.length y n
  · have hu2 : ¬ There ps zs.length x n := by
      rcases ht with h1 | h1
      · exact h1
      · exact absurd hu h1
    clear ht
    go_enter Try.func43, Try.ntmps43
    go_wp2_with fail
    refine (h.there_yes y n hu).mono ?_
    rintro e w' ⟨rfl, q, rfl⟩
    have h2 := h.kept (row := none) (gb_drewN (gb_refl w none) q) (by simp) (by simp)
    go_wp2_with fail
    refine (h2.there_no x n hx hu2).mono ?_
    rintro e w' ⟨rfl, r, rfl⟩
    go_wp2
    go_ret
    exact ⟨rfl, gb_drewN (gb_refl _ _) _⟩
  · clear ht
    go_enter Try.func43, Try.ntmps43
    go_wp2_with fail
    refine (h.there_no y n hy hu).mono ?_
    rintro e w' ⟨rfl, q, rfl⟩
    go_wp2
    go_ret
    exact ⟨rfl, gb_drewN (gb_refl _ _) _⟩

set_option maxHeartbeats 1000000 in
theorem rwhole_no {w : World} {b g ps m : Nat} {zs : List Int} (h : IsR w b g ps zs) (hm : zs.length = ps * m) (hmb : m ≤ 1024) (i : Int) (hi : i < 0 ∨ m ≤ i) :
    Calls Try.prog 49 #[.pointer (some ⟨b, 0, none⟩), .int .i64 i] w fun e w' => e = .returned (.tuple #[.slice none 0 0, .int .i64 20]) ∧ w.grownBy w' none := by
  have hN := h.hN
  have hps := h.hps
  have c0 := h.c0
  have c1 := h.c1
  have hdiv : (zs.length : Int) / (ps : Int) = m := by
    rw [hm, Int.natCast_mul]
    exact Int.mul_ediv_cancel_left _ (by omega)
  have HM : Hid (zs.length = ps * m) := hm
  clear hm
  by_cases h0 : i < 0
  · have hd : decide (i < 0) = true := by simp; omega
    clear hi
    go_enter Try.func49, Try.ntmps49
    go_wp2
    go_quiet (fail)
    go_wp2
    go_ret2
    exact ⟨rfl, gb_drewN (gb_refl _ _) _⟩
  · have hd : decide (i < 0) = false := by simp; omega
    have h1 : (m : Int) ≤ i := by omega
    clear hi
    go_enter Try.func49, Try.ntmps49
    go_wp2
    go_quiet (fail)
    go_wp2
    go_ret2
    exact ⟨rfl, gb_drewN (gb_refl _ _) _⟩

set_option maxHeartbeats 1000000 in
theorem rwhole_yes {w : World} {b g ps m : Nat} {zs : List Int} (h : IsR w b g ps zs) (hm : zs.length = ps * m) (hmb : m ≤ 1024) (i : Int) (h0 : 0 ≤ i) (h1 : i < m) :
    Calls Try.prog 49 #[.pointer (some ⟨b, 0, none⟩), .int .i64 i] w fun e w' => ∃ ao cap, e = .returned (.tuple #[.slice ao ps cap, .int .i64 0]) ∧ w.grownBy w' none ∧ Own w.heap.size w' ao cap (cut zs (i.toNat * ps) ps) := by
  have hN := h.hN
  have hps := h.hps
  have c0 := h.c0
  have c1 := h.c1
  have hdiv : (zs.length : Int) / (ps : Int) = m := by
    rw [hm, Int.natCast_mul]
    exact Int.mul_ediv_cancel_left _ (by omega)
  obtain ⟨k, rfl⟩ := Int.eq_ofNat_of_zero_le h0
  have hmp : (k + 1) * ps ≤ m * ps := Nat.mul_le_mul_right _ (by omega)
  rw [Nat.mul_comm ps m] at hm
  rw [Nat.add_mul, Nat.one_mul] at hmp
  obtain ⟨x, hx⟩ : ∃ x, x = k * ps := ⟨_, rfl⟩
  have hxi : (k : Int) * ps = x := by rw [hx]; simp
  have hle : x + ps ≤ zs.length := by rw [hm, hx]; exact hmp
  have hmod : (x : Int) % ps = 0 := by rw [← hxi]; exact Int.mul_emod_left _ _
  have hd : decide ((k : Int) < 0) = false := by simp
  have hwx : IntKind.i64.wrap (x : Int) = x := by rw [IntKind.wrap_i64]; omega
  simp only [Int.toNat_natCast]
  rw [← hx]
  clear hmp hm hx
  go_enter Try.func49, Try.ntmps49
  go_wp2
  go_quiet (fail)
  have hV := h.kept (row := none) (gb_drewN (gb_refl w none) nq) (by simp) (by simp)
  have hFV := gb_drewN (gb_refl w none) nq
  have hsz : (w.drewN nq).heap.size = w.heap.size := rfl
  go_wp2
  generalize w.drewN nq = V at *
  have hAd := hV.kept (row := none) (gb_drew (gb_refl V none)) (by simp) (by simp)
  have hread := (rread_yes hAd x ps ⟨by omega, by omega, by omega, by rw [hmod]; omega⟩).mono (R' := fun e w' => (∃ ao cap, e = .returned (.tuple #[.slice ao ps cap, .int .i64 0]) ∧ w.grownBy w' none ∧
      Own w.heap.size w' ao cap (cut zs x ps)) ∧ w'.cell? ⟨b, 0, none⟩ = some (.int .i64 ps)) (by
    rintro e w' ⟨ao, cap, rfl, hf, hg⟩
    have hsz' : V.drew.heap.size = w.heap.size := hsz
    rw [hsz'] at hg
    exact ⟨⟨ao, cap, by simp only [Int.toNat_natCast], gb_trans (gb_drew hFV) hf, by simpa only [Int.toNat_natCast] using hg⟩, (hAd.kept hf (by simp) (by simp)).c0⟩)
  have c0V := hV.c0
  clear hAd hV hmod h c1 hdiv c0
  go_region_held3 (fun w' => w'.cell? ⟨b, 0, none⟩ = some (.int .i64 ps)) (go_keep) ((go_at_call 45; refine hread.mono ?_; rintro e w' ⟨⟨ao, cap, rfl, hf, hg⟩, hc⟩))
  go_wp2
  go_ret2
  exact ⟨ao, cap, rfl, hf, hg⟩

end Go.Proofs.Ytknhoncnaigogaa
