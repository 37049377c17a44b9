import Derived.Test.YtoaaaeefcipdcaaC
/-
  Put of numbers of all widths (by program: one text a function).
-/
namespace Go.Proofs.Ytoaaaeefcipdcaa
open Go.RowKit
set_option linter.unusedVariables false

set_option maxHeartbeats 1000000 in
theorem put_84 {w : World} {b g ps pages : Nat} {zs : List Int} (hA : IsA w b g ps pages zs) (x v : Int) (hv : 0 ≤ v ∧ v < 4294967296) (ht : There ps zs.length x 4) :
    Calls Try.prog 118 #[.pointer (some ⟨b, 0, none⟩), .int .i64 x, .int .u32 v] w fun e w' => e = .returned (.int .i64 0) ∧ w.grownBy w' (some g) ∧ w'.heap[g]? = some (.cells (vals (putL zs x.toNat 4 v)) 5 (0, 0)) := by
  have hbd := hA.bounds
  obtain ⟨t1, t2, t3, t4⟩ := ht
  have hmod := hA.mod x
  go_enter Try.func118, Try.ntmps118
  go_wp2_with (first | (go_at_call 137; refine (width_90 _).mono ?_; rintro e w' ⟨rfl, rfl⟩) | (go_at_call 116; go_must (refine (hA.part_yes x 4 ⟨by omega, t2, t3, t4⟩).mono ?_); rintro e w' ⟨⟨o, rfl, ho⟩, q, rfl⟩))
  have hg := hA.hg
  go_loopw [9, 10] (fun r i wr => ∃ (j : Nat) (n : Int) (ys : List Int), j ≤ 4 ∧ i = .int .i64 ((j : Int) - 1) ∧ r = .int .u64 n ∧ 0 ≤ n ∧ n < 18446744073709551616 ∧ ys.length = zs.length ∧ putL ys x.toNat j n = putL zs x.toNat 4 v ∧ wr.heap[g]? = some (.cells (vals ys) 5 (0, 0)) ∧ w.grownBy wr (some g)) (fun _ i _ => (intOf i + 1).toNat)
  case atStart => exact ⟨4, v, zs, by omega, rfl, rfl, by omega, by omega, rfl, rfl, hg, gb_drewN (gb_refl _ _) _⟩
  case round =>
    obtain ⟨j, n, ys, hj, rfl, rfl, hn0, hn1, hl, hp, hgr, hfr⟩ := hrel
    by_cases hlt : 0 < j
    · obtain ⟨j, rfl⟩ : ∃ i, j = i + 1 := ⟨j - 1, by omega⟩
      have HP : Hid (putL ys x.toNat (j + 1) n = putL zs x.toNat 4 v) := hp
      have hcell := cell_of_vals hgr (x.toNat + j) (by omega)
      have hfz := frozen_of_row wr g (x.toNat + j) _ _ hgr
      have HG : Hid (wr.heap[g]? = some (.cells (vals ys) 5 (0, 0))) := hgr
      clear hp hgr hg
      go_wp2
      go_roundw
      case rel => exact ⟨j, n / 256, ys.set (x.toNat + j) (n % 256), by omega, rfl, rfl, by omega, by omega, by simpa using hl, HP.out, set_vals HG.out _ _, gb_setCell hfr _⟩
      case measure => first | (simp [intOf]; done) | (simp [intOf]; omega)
    · obtain rfl : j = 0 := by omega
      have HP : Hid (putL ys x.toNat 0 n = putL zs x.toNat 4 v) := hp
      have HG : Hid (wr.heap[g]? = some (.cells (vals ys) 5 (0, 0))) := hgr
      clear hp hgr hg
      go_wp2
      go_ret
      refine ⟨rfl, hfr, ?_⟩
      have := HP.out
      rw [← this]
      exact HG.out

theorem put_84_no {w : World} {b g ps pages : Nat} {zs : List Int} (hA : IsA w b g ps pages zs) (x v : Int) (hx : x ≤ 9223372036854775807) (ht : ¬ There ps zs.length x 4) :
    Calls Try.prog 118 #[.pointer (some ⟨b, 0, none⟩), .int .i64 x, .int .u32 v] w fun e w' => e = .returned (.int .i64 20) ∧ w.grownBy w' none := by
  go_enter Try.func118, Try.ntmps118
  go_wp2_with (first | (go_at_call 137; refine (width_90 _).mono ?_; rintro e w' ⟨rfl, rfl⟩) | (go_at_call 116; go_must (refine (hA.part_no x 4 (by omega) ht).mono ?_); rintro e w' ⟨rfl, q, rfl⟩))
  go_ret
  exact ⟨rfl, gb_drewN (gb_refl _ _) _⟩

theorem put_84_nil (w : World) (x v : Int) :
    Calls Try.prog 118 #[.pointer none, .int .i64 x, .int .u32 v] w fun e w' => e = .returned (.int .i64 1) ∧ w = w' := by
  go_enter Try.func118, Try.ntmps118
  go_wp2
  go_ret
  exact ⟨rfl, rfl⟩

end Go.Proofs.Ytoaaaeefcipdcaa
