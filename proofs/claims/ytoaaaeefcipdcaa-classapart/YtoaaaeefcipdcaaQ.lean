/-
  Read, Page and Fill.
-/
import Derived.Test.YtoaaaeefcipdcaaF
import Derived.Test.YtoaaaeefcipdcaaP
import Derived.Deep.RegionHeld3
namespace Go.Proofs.Ytoaaaeefcipdcaa
open Go.RowKit
set_option linter.unusedVariables false

theorem Has.alloc {w : World} {a : Option Addr} {n : Nat} {xs : List Int} (h : Has w a n xs) (o : Obj) : Has (w.alloc o) a n xs := by
  refine ⟨h.1, fun hn => ?_⟩
  obtain ⟨b, o', e1, e2⟩ := h.2 hn
  refine ⟨b, o', e1, fun i hi => ?_⟩
  have := e2 i hi
  rw [World.cell?_alloc_lt _ _ _ (World.block_lt_of_cell? _ _ this)]
  exact this
theorem gb_mine {a b c : World} {g : Nat} (h : a.grownBy b none) (k : b.grownBy c (some g)) (hg : a.heap.size ≤ g) : a.grownBy c none :=
  ⟨k.os.trans h.os, k.tape.trans h.tape, k.output.trans h.output, Nat.le_trans h.size k.size, fun i hi _ => (k.block i (Nat.lt_of_lt_of_le hi h.size) (by simp; omega)).trans (h.block i hi (by simp))⟩
theorem lay_all {n : Nat} {ys : List Int} (h : ys.length = n) : lay (List.replicate n 0) 0 ys = ys := by
  simp [lay, h]

theorem read_yes {w : World} {b g ps pages : Nat} {zs : List Int} (hA : IsA w b g ps pages zs) (x n : Int) (ht : There ps zs.length x n) :
    Calls Try.prog 77 #[.pointer (some ⟨b, 0, none⟩), .int .i64 x, .int .i64 n] w fun e w' => e = .returned (.tuple #[.slice (some ⟨w.heap.size, 0, none⟩) n.toNat n.toNat, .int .i64 0]) ∧ w.grownBy w' none ∧
      w'.heap[w.heap.size]? = some (.cells (vals (cut zs x.toNat n.toNat)) 5 (0, 0)) := by
  have hbd := hA.bounds
  have hx : x.toNat + n.toNat ≤ zs.length := by obtain ⟨_, _, h3, _⟩ := ht; omega
  have hn0 : 0 ≤ n := ht.1
  obtain ⟨m, rfl⟩ := Int.eq_ofNat_of_zero_le hn0
  simp only [Int.toNat_natCast] at hx ⊢
  have hmk := run_make_bytes m (by omega)
  go_enter Try.func77, Try.ntmps77
  go_wp2_with fail
  refine (hA.part_yes x m ht).mono ?_
  rintro e w' ⟨⟨o, rfl, ho⟩, q, rfl⟩
  have hcp := run_copy (w := (w.drewN q).alloc (.cells (vals (List.replicate m 0)) 5)) (g := w.heap.size) (zs := List.replicate m 0) (x := 0) (o := 0) (cap := m) (c := zs.length - x.toNat) (heap_alloc_new (w.drewN q) _)
    (((hA.has ht ho).drewN q).alloc _) (fun _ => rfl) (by simp) 3
  simp only [Int.toNat_natCast] at hcp
  rw [lay_all (length_cut hx)] at hcp
  go_wp2
  go_ret2
  refine ⟨rfl, gb_mine (gb_alloc (gb_drewN (gb_refl _ _) q) _) (gb_setRow (gb_refl _ _) _) (Nat.le_refl _), ?_⟩
  exact setRow_heap _ _ _ _ _ _ (heap_alloc_new (w.drewN q) _)

theorem read_no {w : World} {b g ps pages : Nat} {zs : List Int} (hA : IsA w b g ps pages zs) (x n : Int) (hx : x ≤ 9223372036854775807) (ht : ¬ There ps zs.length x n) :
    Calls Try.prog 77 #[.pointer (some ⟨b, 0, none⟩), .int .i64 x, .int .i64 n] w fun e w' => e = .returned (.tuple #[.slice none 0 0, .int .i64 20]) ∧ w.grownBy w' none := by
  go_enter Try.func77, Try.ntmps77
  go_wp2_with (go_at_call 116; go_must (refine (hA.part_no x n (by omega) ht).mono ?_); rintro e w' ⟨rfl, q, rfl⟩)
  go_ret2
  exact ⟨rfl, gb_drewN (gb_refl _ _) _⟩

theorem lay_snoc {zs us : List Int} {x : Nat} (v : Int) (h : x + us.length < zs.length) : (lay zs x us).set (x + us.length) v = lay zs x (us ++ [v]) := by
  have e : zs.drop (x + us.length) = zs[x + us.length] :: zs.drop (x + us.length + 1) := List.drop_eq_getElem_cons h
  have hx : (zs.take x ++ us).length = x + us.length := by simp; omega
  unfold lay
  rw [e, List.set_append_right _ _ (by rw [hx]; exact Nat.le_refl _), hx]
  simp [Nat.add_assoc]

set_option maxHeartbeats 1000000 in
theorem fill_yes {w : World} {b g ps pages : Nat} {zs : List Int} (hA : IsA w b g ps pages zs) (x n v : Int) (hv : 0 ≤ v ∧ v < 256) (ht : There ps zs.length x n) :
    Calls Try.prog 82 #[.pointer (some ⟨b, 0, none⟩), .int .i64 x, .int .i64 n, .int .u8 v] w fun e w' => e = .returned (.int .i64 0) ∧ w.grownBy w' (some g) ∧ IsA w' b g ps pages (lay zs x.toNat (List.replicate n.toNat v)) := by
  have hbd := hA.bounds
  have hx : x.toNat + n.toNat ≤ zs.length := by obtain ⟨_, _, h3, _⟩ := ht; omega
  have hn0 : 0 ≤ n := ht.1
  obtain ⟨m, rfl⟩ := Int.eq_ofNat_of_zero_le hn0
  simp only [Int.toNat_natCast] at hx ⊢
  go_enter Try.func82, Try.ntmps82
  go_wp2_with fail
  refine (hA.part_yes x m ht).mono ?_
  rintro e w' ⟨⟨o, rfl, ho⟩, q, rfl⟩
  have ho' : 0 < m → o = x.toNat := fun h => ho (by omega)
  clear ho
  have HO : Hid (0 < m → o = x.toNat) := ho'
  clear ho'
  go_wp2
  go_loopw [23] (fun c wr => ∃ (i : Nat) (ys : List Int), i ≤ m ∧ c = .int .i64 i ∧ Hid (ys = lay zs x.toNat (List.replicate i v)) ∧ ys.length = zs.length ∧ wr.heap[g]? = some (.cells (vals ys) 5 (0, 0)) ∧ w.grownBy wr (some g)) (fun c _ => m - (intOf c).toNat)
  case atStart => exact ⟨0, zs, by omega, rfl, by show _ = _; simp [lay], rfl, hA.hg, gb_drewN (gb_refl _ _) _⟩
  case round =>
    obtain ⟨i, ys, hi, rfl, hys, hl, hgr, hfr⟩ := hrel
    by_cases hlt : i < m
    · have hoo : o = x.toNat := HO.out (by omega)
      subst hoo
      have hcell := cell_of_vals hgr (x.toNat + i) (by omega)
      have hfz := frozen_of_row wr g (x.toNat + i) _ _ hgr
      have HG : Hid (wr.heap[g]? = some (.cells (vals ys) 5 (0, 0))) := hgr
      have HY : Hid (ys.set (x.toNat + i) v = lay zs x.toNat (List.replicate (i + 1) v)) := by
        have e := hys.out
        have := lay_snoc (zs := zs) (us := List.replicate i v) (x := x.toNat) v (by simp; omega)
        rw [List.length_replicate] at this
        show _ = _
        rw [e, this, List.replicate_succ']
      clear hgr
      go_wp2
      go_roundw
      case rel => exact ⟨i + 1, ys.set (x.toNat + i) v, by omega, by go_num, HY, by simpa using hl, set_vals HG.out _ _, gb_setCell hfr _⟩
      case measure => first | (simp [intOf]; done) | (simp [intOf]; omega)
    · obtain rfl : i = m := by omega
      have HG : Hid (wr.heap[g]? = some (.cells (vals ys) 5 (0, 0))) := hgr
      clear hgr
      go_wp2
      go_ret
      have e := hys.out
      refine ⟨rfl, hfr, hA.turned hfr (by rw [← e]; exact HG.out) (length_lay (by simp; omega)) (isBytes_lay hA.hz ?_)⟩
      intro z hz
      have := List.eq_of_mem_replicate hz
      omega

theorem fill_no {w : World} {b g ps pages : Nat} {zs : List Int} (hA : IsA w b g ps pages zs) (x n v : Int) (hx : x ≤ 9223372036854775807) (ht : ¬ There ps zs.length x n) :
    Calls Try.prog 82 #[.pointer (some ⟨b, 0, none⟩), .int .i64 x, .int .i64 n, .int .u8 v] w fun e w' => e = .returned (.int .i64 20) ∧ w.grownBy w' none := by
  go_enter Try.func82, Try.ntmps82
  go_wp2_with (go_at_call 116; go_must (refine (hA.part_no x n (by omega) ht).mono ?_); rintro e w' ⟨rfl, q, rfl⟩)
  go_ret
  exact ⟨rfl, gb_drewN (gb_refl _ _) _⟩

end Go.Proofs.Ytoaaaeefcipdcaa
