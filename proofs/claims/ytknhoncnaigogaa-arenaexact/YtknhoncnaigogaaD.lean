/-
  Put of numbers of all widths (by program: one text a function).
-/
import Derived.Test.YtknhoncnaigogaaC
namespace Go.Proofs.Ytknhoncnaigogaa
open Go.RowKit
set_option linter.unusedVariables false

set_option maxHeartbeats 1000000 in
theorem put_57 {w : World} {b g ps pages : Nat} {zs : List Int} (hA : IsA w b g ps pages zs) (x v : Int) (hv : 0 ≤ v ∧ v < 256) (ht : There ps zs.length x 1) :
    Calls Try.prog 57 #[.pointer (some ⟨b, 0, none⟩), .int .i64 x, .int .u8 v] w fun e w' => e = .returned (.int .i64 0) ∧ w.grownBy w' (some g) ∧ w'.heap[g]? = some (.cells (vals (putL zs x.toNat 1 v)) 5 (0, 0)) := by
  have hbd := hA.bounds
  obtain ⟨t1, t2, t3, t4⟩ := ht
  have hmod := hA.mod x
  go_enter Try.func57, Try.ntmps57
  go_wp2_with (first | (go_at_call 75; refine (width_75 _).mono ?_; rintro e w' ⟨rfl, rfl⟩) | (go_at_call 55; go_must (refine (hA.part_yes x 1 ⟨by omega, t2, t3, t4⟩).mono ?_); rintro e w' ⟨⟨o, rfl, ho⟩, q, rfl⟩))
  have hg := hA.hg
  go_loopw [9, 10] (fun r i wr => ∃ (j : Nat) (n : Int) (ys : List Int), j ≤ 1 ∧ i = .int .i64 ((j : Int) - 1) ∧ r = .int .u64 n ∧ 0 ≤ n ∧ n < 18446744073709551616 ∧ ys.length = zs.length ∧ putL ys x.toNat j n = putL zs x.toNat 1 v ∧ wr.heap[g]? = some (.cells (vals ys) 5 (0, 0)) ∧ w.grownBy wr (some g)) (fun _ i _ => (intOf i + 1).toNat)
  case atStart => exact ⟨1, v, zs, by omega, rfl, rfl, by omega, by omega, rfl, rfl, hg, gb_drewN (gb_refl _ _) _⟩
  case round =>
    obtain ⟨j, n, ys, hj, rfl, rfl, hn0, hn1, hl, hp, hgr, hfr⟩ := hrel
    by_cases hlt : 0 < j
    · obtain ⟨j, rfl⟩ : ∃ i, j = i + 1 := ⟨j - 1, by omega⟩
      have HP : Hid (putL ys x.toNat (j + 1) n = putL zs x.toNat 1 v) := hp
      have hcell := cell_of_vals hgr (x.toNat + j) (by omega)
      have hfz := frozen_of_row wr g (x.toNat + j) _ _ hgr
      have HG : Hid (wr.heap[g]? = some (.cells (vals ys) 5 (0, 0))) := hgr
      clear hp hgr hg
      go_wp2
      go_roundw
      case rel => exact ⟨j, n / 256, ys.set (x.toNat + j) (n % 256), by omega, rfl, rfl, by omega, by omega, by simpa using hl, HP.out, set_vals HG.out _ _, gb_setCell hfr _⟩
      case measure => first | (simp [intOf]; done) | (simp [intOf]; omega)
    · obtain rfl : j = 0 := by omega
      have HP : Hid (putL ys x.toNat 0 n = putL zs x.toNat 1 v) := hp
      have HG : Hid (wr.heap[g]? = some (.cells (vals ys) 5 (0, 0))) := hgr
      clear hp hgr hg
      go_wp2
      go_ret
      refine ⟨rfl, hfr, ?_⟩
      have := HP.out
      rw [← this]
      exact HG.out

theorem put_57_no {w : World} {b g ps pages : Nat} {zs : List Int} (hA : IsA w b g ps pages zs) (x v : Int) (hx : x ≤ 9223372036854775807) (ht : ¬ There ps zs.length x 1) :
    Calls Try.prog 57 #[.pointer (some ⟨b, 0, none⟩), .int .i64 x, .int .u8 v] w fun e w' => e = .returned (.int .i64 20) ∧ w.grownBy w' none := by
  go_enter Try.func57, Try.ntmps57
  go_wp2_with (first | (go_at_call 75; refine (width_75 _).mono ?_; rintro e w' ⟨rfl, rfl⟩) | (go_at_call 55; go_must (refine (hA.part_no x 1 (by omega) ht).mono ?_); rintro e w' ⟨rfl, q, rfl⟩))
  go_ret
  exact ⟨rfl, gb_drewN (gb_refl _ _) _⟩

theorem put_57_nil (w : World) (x v : Int) :
    Calls Try.prog 57 #[.pointer none, .int .i64 x, .int .u8 v] w fun e w' => e = .returned (.int .i64 1) ∧ w = w' := by
  go_enter Try.func57, Try.ntmps57
  go_wp2
  go_ret
  exact ⟨rfl, rfl⟩

set_option maxHeartbeats 1000000 in
theorem put_58 {w : World} {b g ps pages : Nat} {zs : List Int} (hA : IsA w b g ps pages zs) (x v : Int) (hv : 0 ≤ v ∧ v < 256) (ht : There ps zs.length x 1) :
    Calls Try.prog 58 #[.pointer (some ⟨b, 0, none⟩), .int .i64 x, .int .u8 v] w fun e w' => e = .returned (.int .i64 0) ∧ w.grownBy w' (some g) ∧ w'.heap[g]? = some (.cells (vals (putL zs x.toNat 1 v)) 5 (0, 0)) := by
  have hbd := hA.bounds
  obtain ⟨t1, t2, t3, t4⟩ := ht
  have hmod := hA.mod x
  go_enter Try.func58, Try.ntmps58
  go_wp2_with (first | (go_at_call 76; refine (width_76 _).mono ?_; rintro e w' ⟨rfl, rfl⟩) | (go_at_call 55; go_must (refine (hA.part_yes x 1 ⟨by omega, t2, t3, t4⟩).mono ?_); rintro e w' ⟨⟨o, rfl, ho⟩, q, rfl⟩))
  have hg := hA.hg
  go_loopw [9, 10] (fun r i wr => ∃ (j : Nat) (n : Int) (ys : List Int), j ≤ 1 ∧ i = .int .i64 ((j : Int) - 1) ∧ r = .int .u64 n ∧ 0 ≤ n ∧ n < 18446744073709551616 ∧ ys.length = zs.length ∧ putL ys x.toNat j n = putL zs x.toNat 1 v ∧ wr.heap[g]? = some (.cells (vals ys) 5 (0, 0)) ∧ w.grownBy wr (some g)) (fun _ i _ => (intOf i + 1).toNat)
  case atStart => exact ⟨1, v, zs, by omega, rfl, rfl, by omega, by omega, rfl, rfl, hg, gb_drewN (gb_refl _ _) _⟩
  case round =>
    obtain ⟨j, n, ys, hj, rfl, rfl, hn0, hn1, hl, hp, hgr, hfr⟩ := hrel
    by_cases hlt : 0 < j
    · obtain ⟨j, rfl⟩ : ∃ i, j = i + 1 := ⟨j - 1, by omega⟩
      have HP : Hid (putL ys x.toNat (j + 1) n = putL zs x.toNat 1 v) := hp
      have hcell := cell_of_vals hgr (x.toNat + j) (by omega)
      have hfz := frozen_of_row wr g (x.toNat + j) _ _ hgr
      have HG : Hid (wr.heap[g]? = some (.cells (vals ys) 5 (0, 0))) := hgr
      clear hp hgr hg
      go_wp2
      go_roundw
      case rel => exact ⟨j, n / 256, ys.set (x.toNat + j) (n % 256), by omega, rfl, rfl, by omega, by omega, by simpa using hl, HP.out, set_vals HG.out _ _, gb_setCell hfr _⟩
      case measure => first | (simp [intOf]; done) | (simp [intOf]; omega)
    · obtain rfl : j = 0 := by omega
      have HP : Hid (putL ys x.toNat 0 n = putL zs x.toNat 1 v) := hp
      have HG : Hid (wr.heap[g]? = some (.cells (vals ys) 5 (0, 0))) := hgr
      clear hp hgr hg
      go_wp2
      go_ret
      refine ⟨rfl, hfr, ?_⟩
      have := HP.out
      rw [← this]
      exact HG.out

theorem put_58_no {w : World} {b g ps pages : Nat} {zs : List Int} (hA : IsA w b g ps pages zs) (x v : Int) (hx : x ≤ 9223372036854775807) (ht : ¬ There ps zs.length x 1) :
    Calls Try.prog 58 #[.pointer (some ⟨b, 0, none⟩), .int .i64 x, .int .u8 v] w fun e w' => e = .returned (.int .i64 20) ∧ w.grownBy w' none := by
  go_enter Try.func58, Try.ntmps58
  go_wp2_with (first | (go_at_call 76; refine (width_76 _).mono ?_; rintro e w' ⟨rfl, rfl⟩) | (go_at_call 55; go_must (refine (hA.part_no x 1 (by omega) ht).mono ?_); rintro e w' ⟨rfl, q, rfl⟩))
  go_ret
  exact ⟨rfl, gb_drewN (gb_refl _ _) _⟩

theorem put_58_nil (w : World) (x v : Int) :
    Calls Try.prog 58 #[.pointer none, .int .i64 x, .int .u8 v] w fun e w' => e = .returned (.int .i64 1) ∧ w = w' := by
  go_enter Try.func58, Try.ntmps58
  go_wp2
  go_ret
  exact ⟨rfl, rfl⟩

set_option maxHeartbeats 1000000 in
theorem put_59 {w : World} {b g ps pages : Nat} {zs : List Int} (hA : IsA w b g ps pages zs) (x v : Int) (hv : 0 ≤ v ∧ v < 65536) (ht : There ps zs.length x 2) :
    Calls Try.prog 59 #[.pointer (some ⟨b, 0, none⟩), .int .i64 x, .int .u16 v] w fun e w' => e = .returned (.int .i64 0) ∧ w.grownBy w' (some g) ∧ w'.heap[g]? = some (.cells (vals (putL zs x.toNat 2 v)) 5 (0, 0)) := by
  have hbd := hA.bounds
  obtain ⟨t1, t2, t3, t4⟩ := ht
  have hmod := hA.mod x
  go_enter Try.func59, Try.ntmps59
  go_wp2_with (first | (go_at_call 77; refine (width_77 _).mono ?_; rintro e w' ⟨rfl, rfl⟩) | (go_at_call 55; go_must (refine (hA.part_yes x 2 ⟨by omega, t2, t3, t4⟩).mono ?_); rintro e w' ⟨⟨o, rfl, ho⟩, q, rfl⟩))
  have hg := hA.hg
  go_loopw [9, 10] (fun r i wr => ∃ (j : Nat) (n : Int) (ys : List Int), j ≤ 2 ∧ i = .int .i64 ((j : Int) - 1) ∧ r = .int .u64 n ∧ 0 ≤ n ∧ n < 18446744073709551616 ∧ ys.length = zs.length ∧ putL ys x.toNat j n = putL zs x.toNat 2 v ∧ wr.heap[g]? = some (.cells (vals ys) 5 (0, 0)) ∧ w.grownBy wr (some g)) (fun _ i _ => (intOf i + 1).toNat)
  case atStart => exact ⟨2, v, zs, by omega, rfl, rfl, by omega, by omega, rfl, rfl, hg, gb_drewN (gb_refl _ _) _⟩
  case round =>
    obtain ⟨j, n, ys, hj, rfl, rfl, hn0, hn1, hl, hp, hgr, hfr⟩ := hrel
    by_cases hlt : 0 < j
    · obtain ⟨j, rfl⟩ : ∃ i, j = i + 1 := ⟨j - 1, by omega⟩
      have HP : Hid (putL ys x.toNat (j + 1) n = putL zs x.toNat 2 v) := hp
      have hcell := cell_of_vals hgr (x.toNat + j) (by omega)
      have hfz := frozen_of_row wr g (x.toNat + j) _ _ hgr
      have HG : Hid (wr.heap[g]? = some (.cells (vals ys) 5 (0, 0))) := hgr
      clear hp hgr hg
      go_wp2
      go_roundw
      case rel => exact ⟨j, n / 256, ys.set (x.toNat + j) (n % 256), by omega, rfl, rfl, by omega, by omega, by simpa using hl, HP.out, set_vals HG.out _ _, gb_setCell hfr _⟩
      case measure => first | (simp [intOf]; done) | (simp [intOf]; omega)
    · obtain rfl : j = 0 := by omega
      have HP : Hid (putL ys x.toNat 0 n = putL zs x.toNat 2 v) := hp
      have HG : Hid (wr.heap[g]? = some (.cells (vals ys) 5 (0, 0))) := hgr
      clear hp hgr hg
      go_wp2
      go_ret
      refine ⟨rfl, hfr, ?_⟩
      have := HP.out
      rw [← this]
      exact HG.out

theorem put_59_no {w : World} {b g ps pages : Nat} {zs : List Int} (hA : IsA w b g ps pages zs) (x v : Int) (hx : x ≤ 9223372036854775807) (ht : ¬ There ps zs.length x 2) :
    Calls Try.prog 59 #[.pointer (some ⟨b, 0, none⟩), .int .i64 x, .int .u16 v] w fun e w' => e = .returned (.int .i64 20) ∧ w.grownBy w' none := by
  go_enter Try.func59, Try.ntmps59
  go_wp2_with (first | (go_at_call 77; refine (width_77 _).mono ?_; rintro e w' ⟨rfl, rfl⟩) | (go_at_call 55; go_must (refine (hA.part_no x 2 (by omega) ht).mono ?_); rintro e w' ⟨rfl, q, rfl⟩))
  go_ret
  exact ⟨rfl, gb_drewN (gb_refl _ _) _⟩

theorem put_59_nil (w : World) (x v : Int) :
    Calls Try.prog 59 #[.pointer none, .int .i64 x, .int .u16 v] w fun e w' => e = .returned (.int .i64 1) ∧ w = w' := by
  go_enter Try.func59, Try.ntmps59
  go_wp2
  go_ret
  exact ⟨rfl, rfl⟩

set_option maxHeartbeats 1000000 in
theorem put_52 {w : World} {b g ps pages : Nat} {zs : List Int} (hA : IsA w b g ps pages zs) (x v : Int) (hv : 0 ≤ v ∧ v < 65536) (ht : There ps zs.length x 2) :
    Calls Try.prog 52 #[.pointer (some ⟨b, 0, none⟩), .int .i64 x, .int .u16 v] w fun e w' => e = .returned (.int .i64 0) ∧ w.grownBy w' (some g) ∧ w'.heap[g]? = some (.cells (vals (putL zs x.toNat 2 v)) 5 (0, 0)) := by
  have hbd := hA.bounds
  obtain ⟨t1, t2, t3, t4⟩ := ht
  have hmod := hA.mod x
  go_enter Try.func52, Try.ntmps52
  go_wp2_with (first | (go_at_call 73; refine (width_73 _).mono ?_; rintro e w' ⟨rfl, rfl⟩) | (go_at_call 55; go_must (refine (hA.part_yes x 2 ⟨by omega, t2, t3, t4⟩).mono ?_); rintro e w' ⟨⟨o, rfl, ho⟩, q, rfl⟩))
  have hg := hA.hg
  go_loopw [9, 10] (fun r i wr => ∃ (j : Nat) (n : Int) (ys : List Int), j ≤ 2 ∧ i = .int .i64 ((j : Int) - 1) ∧ r = .int .u64 n ∧ 0 ≤ n ∧ n < 18446744073709551616 ∧ ys.length = zs.length ∧ putL ys x.toNat j n = putL zs x.toNat 2 v ∧ wr.heap[g]? = some (.cells (vals ys) 5 (0, 0)) ∧ w.grownBy wr (some g)) (fun _ i _ => (intOf i + 1).toNat)
  case atStart => exact ⟨2, v, zs, by omega, rfl, rfl, by omega, by omega, rfl, rfl, hg, gb_drewN (gb_refl _ _) _⟩
  case round =>
    obtain ⟨j, n, ys, hj, rfl, rfl, hn0, hn1, hl, hp, hgr, hfr⟩ := hrel
    by_cases hlt : 0 < j
    · obtain ⟨j, rfl⟩ : ∃ i, j = i + 1 := ⟨j - 1, by omega⟩
      have HP : Hid (putL ys x.toNat (j + 1) n = putL zs x.toNat 2 v) := hp
      have hcell := cell_of_vals hgr (x.toNat + j) (by omega)
      have hfz := frozen_of_row wr g (x.toNat + j) _ _ hgr
      have HG : Hid (wr.heap[g]? = some (.cells (vals ys) 5 (0, 0))) := hgr
      clear hp hgr hg
      go_wp2
      go_roundw
      case rel => exact ⟨j, n / 256, ys.set (x.toNat + j) (n % 256), by omega, rfl, rfl, by omega, by omega, by simpa using hl, HP.out, set_vals HG.out _ _, gb_setCell hfr _⟩
      case measure => first | (simp [intOf]; done) | (simp [intOf]; omega)
    · obtain rfl : j = 0 := by omega
      have HP : Hid (putL ys x.toNat 0 n = putL zs x.toNat 2 v) := hp
      have HG : Hid (wr.heap[g]? = some (.cells (vals ys) 5 (0, 0))) := hgr
      clear hp hgr hg
      go_wp2
      go_ret
      refine ⟨rfl, hfr, ?_⟩
      have := HP.out
      rw [← this]
      exact HG.out

theorem put_52_no {w : World} {b g ps pages : Nat} {zs : List Int} (hA : IsA w b g ps pages zs) (x v : Int) (hx : x ≤ 9223372036854775807) (ht : ¬ There ps zs.length x 2) :
    Calls Try.prog 52 #[.pointer (some ⟨b, 0, none⟩), .int .i64 x, .int .u16 v] w fun e w' => e = .returned (.int .i64 20) ∧ w.grownBy w' none := by
  go_enter Try.func52, Try.ntmps52
  go_wp2_with (first | (go_at_call 73; refine (width_73 _).mono ?_; rintro e w' ⟨rfl, rfl⟩) | (go_at_call 55; go_must (refine (hA.part_no x 2 (by omega) ht).mono ?_); rintro e w' ⟨rfl, q, rfl⟩))
  go_ret
  exact ⟨rfl, gb_drewN (gb_refl _ _) _⟩

theorem put_52_nil (w : World) (x v : Int) :
    Calls Try.prog 52 #[.pointer none, .int .i64 x, .int .u16 v] w fun e w' => e = .returned (.int .i64 1) ∧ w = w' := by
  go_enter Try.func52, Try.ntmps52
  go_wp2
  go_ret
  exact ⟨rfl, rfl⟩

set_option maxHeartbeats 1000000 in
theorem put_60 {w : World} {b g ps pages : Nat} {zs : List Int} (hA : IsA w b g ps pages zs) (x v : Int) (hv : 0 ≤ v ∧ v < 4294967296) (ht : There ps zs.length x 4) :
    Calls Try.prog 60 #[.pointer (some ⟨b, 0, none⟩), .int .i64 x, .int .u32 v] w fun e w' => e = .returned (.int .i64 0) ∧ w.grownBy w' (some g) ∧ w'.heap[g]? = some (.cells (vals (putL zs x.toNat 4 v)) 5 (0, 0)) := by
  have hbd := hA.bounds
  obtain ⟨t1, t2, t3, t4⟩ := ht
  have hmod := hA.mod x
  go_enter Try.func60, Try.ntmps60
  go_wp2_with (first | (go_at_call 78; refine (width_78 _).mono ?_; rintro e w' ⟨rfl, rfl⟩) | (go_at_call 55; go_must (refine (hA.part_yes x 4 ⟨by omega, t2, t3, t4⟩).mono ?_); rintro e w' ⟨⟨o, rfl, ho⟩, q, rfl⟩))
  have hg := hA.hg
  go_loopw [9, 10] (fun r i wr => ∃ (j : Nat) (n : Int) (ys : List Int), j ≤ 4 ∧ i = .int .i64 ((j : Int) - 1) ∧ r = .int .u64 n ∧ 0 ≤ n ∧ n < 18446744073709551616 ∧ ys.length = zs.length ∧ putL ys x.toNat j n = putL zs x.toNat 4 v ∧ wr.heap[g]? = some (.cells (vals ys) 5 (0, 0)) ∧ w.grownBy wr (some g)) (fun _ i _ => (intOf i + 1).toNat)
  case atStart => exact ⟨4, v, zs, by omega, rfl, rfl, by omega, by omega, rfl, rfl, hg, gb_drewN (gb_refl _ _) _⟩
  case round =>
    obtain ⟨j, n, ys, hj, rfl, rfl, hn0, hn1, hl, hp, hgr, hfr⟩ := hrel
    by_cases hlt : 0 < j
    · obtain ⟨j, rfl⟩ : ∃ i, j = i + 1 := ⟨j - 1, by omega⟩
      have HP : Hid (putL ys x.toNat (j + 1) n = putL zs x.toNat 4 v) := hp
      have hcell := cell_of_vals hgr (x.toNat + j) (by omega)
      have hfz := frozen_of_row wr g (x.toNat + j) _ _ hgr
      have HG : Hid (wr.heap[g]? = some (.cells (vals ys) 5 (0, 0))) := hgr
      clear hp hgr hg
      go_wp2
      go_roundw
      case rel => exact ⟨j, n / 256, ys.set (x.toNat + j) (n % 256), by omega, rfl, rfl, by omega, by omega, by simpa using hl, HP.out, set_vals HG.out _ _, gb_setCell hfr _⟩
      case measure => first | (simp [intOf]; done) | (simp [intOf]; omega)
    · obtain rfl : j = 0 := by omega
      have HP : Hid (putL ys x.toNat 0 n = putL zs x.toNat 4 v) := hp
      have HG : Hid (wr.heap[g]? = some (.cells (vals ys) 5 (0, 0))) := hgr
      clear hp hgr hg
      go_wp2
      go_ret
      refine ⟨rfl, hfr, ?_⟩
      have := HP.out
      rw [← this]
      exact HG.out

theorem put_60_no {w : World} {b g ps pages : Nat} {zs : List Int} (hA : IsA w b g ps pages zs) (x v : Int) (hx : x ≤ 9223372036854775807) (ht : ¬ There ps zs.length x 4) :
    Calls Try.prog 60 #[.pointer (some ⟨b, 0, none⟩), .int .i64 x, .int .u32 v] w fun e w' => e = .returned (.int .i64 20) ∧ w.grownBy w' none := by
  go_enter Try.func60, Try.ntmps60
  go_wp2_with (first | (go_at_call 78; refine (width_78 _).mono ?_; rintro e w' ⟨rfl, rfl⟩) | (go_at_call 55; go_must (refine (hA.part_no x 4 (by omega) ht).mono ?_); rintro e w' ⟨rfl, q, rfl⟩))
  go_ret
  exact ⟨rfl, gb_drewN (gb_refl _ _) _⟩

theorem put_60_nil (w : World) (x v : Int) :
    Calls Try.prog 60 #[.pointer none, .int .i64 x, .int .u32 v] w fun e w' => e = .returned (.int .i64 1) ∧ w = w' := by
  go_enter Try.func60, Try.ntmps60
  go_wp2
  go_ret
  exact ⟨rfl, rfl⟩

set_option maxHeartbeats 1000000 in
theorem put_61 {w : World} {b g ps pages : Nat} {zs : List Int} (hA : IsA w b g ps pages zs) (x v : Int) (hv : 0 ≤ v ∧ v < 4294967296) (ht : There ps zs.length x 4) :
    Calls Try.prog 61 #[.pointer (some ⟨b, 0, none⟩), .int .i64 x, .int .u32 v] w fun e w' => e = .returned (.int .i64 0) ∧ w.grownBy w' (some g) ∧ w'.heap[g]? = some (.cells (vals (putL zs x.toNat 4 v)) 5 (0, 0)) := by
  have hbd := hA.bounds
  obtain ⟨t1, t2, t3, t4⟩ := ht
  have hmod := hA.mod x
  go_enter Try.func61, Try.ntmps61
  go_wp2_with (first | (go_at_call 79; refine (width_79 _).mono ?_; rintro e w' ⟨rfl, rfl⟩) | (go_at_call 55; go_must (refine (hA.part_yes x 4 ⟨by omega, t2, t3, t4⟩).mono ?_); rintro e w' ⟨⟨o, rfl, ho⟩, q, rfl⟩))
  have hg := hA.hg
  go_loopw [9, 10] (fun r i wr => ∃ (j : Nat) (n : Int) (ys : List Int), j ≤ 4 ∧ i = .int .i64 ((j : Int) - 1) ∧ r = .int .u64 n ∧ 0 ≤ n ∧ n < 18446744073709551616 ∧ ys.length = zs.length ∧ putL ys x.toNat j n = putL zs x.toNat 4 v ∧ wr.heap[g]? = some (.cells (vals ys) 5 (0, 0)) ∧ w.grownBy wr (some g)) (fun _ i _ => (intOf i + 1).toNat)
  case atStart => exact ⟨4, v, zs, by omega, rfl, rfl, by omega, by omega, rfl, rfl, hg, gb_drewN (gb_refl _ _) _⟩
  case round =>
    obtain ⟨j, n, ys, hj, rfl, rfl, hn0, hn1, hl, hp, hgr, hfr⟩ := hrel
    by_cases hlt : 0 < j
    · obtain ⟨j, rfl⟩ : ∃ i, j = i + 1 := ⟨j - 1, by omega⟩
      have HP : Hid (putL ys x.toNat (j + 1) n = putL zs x.toNat 4 v) := hp
      have hcell := cell_of_vals hgr (x.toNat + j) (by omega)
      have hfz := frozen_of_row wr g (x.toNat + j) _ _ hgr
      have HG : Hid (wr.heap[g]? = some (.cells (vals ys) 5 (0, 0))) := hgr
      clear hp hgr hg
      go_wp2
      go_roundw
      case rel => exact ⟨j, n / 256, ys.set (x.toNat + j) (n % 256), by omega, rfl, rfl, by omega, by omega, by simpa using hl, HP.out, set_vals HG.out _ _, gb_setCell hfr _⟩
      case measure => first | (simp [intOf]; done) | (simp [intOf]; omega)
    · obtain rfl : j = 0 := by omega
      have HP : Hid (putL ys x.toNat 0 n = putL zs x.toNat 4 v) := hp
      have HG : Hid (wr.heap[g]? = some (.cells (vals ys) 5 (0, 0))) := hgr
      clear hp hgr hg
      go_wp2
      go_ret
      refine ⟨rfl, hfr, ?_⟩
      have := HP.out
      rw [← this]
      exact HG.out

theorem put_61_no {w : World} {b g ps pages : Nat} {zs : List Int} (hA : IsA w b g ps pages zs) (x v : Int) (hx : x ≤ 9223372036854775807) (ht : ¬ There ps zs.length x 4) :
    Calls Try.prog 61 #[.pointer (some ⟨b, 0, none⟩), .int .i64 x, .int .u32 v] w fun e w' => e = .returned (.int .i64 20) ∧ w.grownBy w' none := by
  go_enter Try.func61, Try.ntmps61
  go_wp2_with (first | (go_at_call 79; refine (width_79 _).mono ?_; rintro e w' ⟨rfl, rfl⟩) | (go_at_call 55; go_must (refine (hA.part_no x 4 (by omega) ht).mono ?_); rintro e w' ⟨rfl, q, rfl⟩))
  go_ret
  exact ⟨rfl, gb_drewN (gb_refl _ _) _⟩

theorem put_61_nil (w : World) (x v : Int) :
    Calls Try.prog 61 #[.pointer none, .int .i64 x, .int .u32 v] w fun e w' => e = .returned (.int .i64 1) ∧ w = w' := by
  go_enter Try.func61, Try.ntmps61
  go_wp2
  go_ret
  exact ⟨rfl, rfl⟩

set_option maxHeartbeats 1000000 in
theorem put_62 {w : World} {b g ps pages : Nat} {zs : List Int} (hA : IsA w b g ps pages zs) (x v : Int) (hv : 0 ≤ v ∧ v < 18446744073709551616) (ht : There ps zs.length x 8) :
    Calls Try.prog 62 #[.pointer (some ⟨b, 0, none⟩), .int .i64 x, .int .u64 v] w fun e w' => e = .returned (.int .i64 0) ∧ w.grownBy w' (some g) ∧ w'.heap[g]? = some (.cells (vals (putL zs x.toNat 8 v)) 5 (0, 0)) := by
  have hbd := hA.bounds
  obtain ⟨t1, t2, t3, t4⟩ := ht
  have hmod := hA.mod x
  go_enter Try.func62, Try.ntmps62
  go_wp2_with (first | (go_at_call 80; refine (width_80 _).mono ?_; rintro e w' ⟨rfl, rfl⟩) | (go_at_call 55; go_must (refine (hA.part_yes x 8 ⟨by omega, t2, t3, t4⟩).mono ?_); rintro e w' ⟨⟨o, rfl, ho⟩, q, rfl⟩))
  have hg := hA.hg
  go_loopw [9, 10] (fun r i wr => ∃ (j : Nat) (n : Int) (ys : List Int), j ≤ 8 ∧ i = .int .i64 ((j : Int) - 1) ∧ r = .int .u64 n ∧ 0 ≤ n ∧ n < 18446744073709551616 ∧ ys.length = zs.length ∧ putL ys x.toNat j n = putL zs x.toNat 8 v ∧ wr.heap[g]? = some (.cells (vals ys) 5 (0, 0)) ∧ w.grownBy wr (some g)) (fun _ i _ => (intOf i + 1).toNat)
  case atStart => exact ⟨8, v, zs, by omega, rfl, rfl, by omega, by omega, rfl, rfl, hg, gb_drewN (gb_refl _ _) _⟩
  case round =>
    obtain ⟨j, n, ys, hj, rfl, rfl, hn0, hn1, hl, hp, hgr, hfr⟩ := hrel
    by_cases hlt : 0 < j
    · obtain ⟨j, rfl⟩ : ∃ i, j = i + 1 := ⟨j - 1, by omega⟩
      have HP : Hid (putL ys x.toNat (j + 1) n = putL zs x.toNat 8 v) := hp
      have hcell := cell_of_vals hgr (x.toNat + j) (by omega)
      have hfz := frozen_of_row wr g (x.toNat + j) _ _ hgr
      have HG : Hid (wr.heap[g]? = some (.cells (vals ys) 5 (0, 0))) := hgr
      clear hp hgr hg
      go_wp2
      go_roundw
      case rel => exact ⟨j, n / 256, ys.set (x.toNat + j) (n % 256), by omega, rfl, rfl, by omega, by omega, by simpa using hl, HP.out, set_vals HG.out _ _, gb_setCell hfr _⟩
      case measure => first | (simp [intOf]; done) | (simp [intOf]; omega)
    · obtain rfl : j = 0 := by omega
      have HP : Hid (putL ys x.toNat 0 n = putL zs x.toNat 8 v) := hp
      have HG : Hid (wr.heap[g]? = some (.cells (vals ys) 5 (0, 0))) := hgr
      clear hp hgr hg
      go_wp2
      go_ret
      refine ⟨rfl, hfr, ?_⟩
      have := HP.out
      rw [← this]
      exact HG.out

theorem put_62_no {w : World} {b g ps pages : Nat} {zs : List Int} (hA : IsA w b g ps pages zs) (x v : Int) (hx : x ≤ 9223372036854775807) (ht : ¬ There ps zs.length x 8) :
    Calls Try.prog 62 #[.pointer (some ⟨b, 0, none⟩), .int .i64 x, .int .u64 v] w fun e w' => e = .returned (.int .i64 20) ∧ w.grownBy w' none := by
  go_enter Try.func62, Try.ntmps62
  go_wp2_with (first | (go_at_call 80; refine (width_80 _).mono ?_; rintro e w' ⟨rfl, rfl⟩) | (go_at_call 55; go_must (refine (hA.part_no x 8 (by omega) ht).mono ?_); rintro e w' ⟨rfl, q, rfl⟩))
  go_ret
  exact ⟨rfl, gb_drewN (gb_refl _ _) _⟩

theorem put_62_nil (w : World) (x v : Int) :
    Calls Try.prog 62 #[.pointer none, .int .i64 x, .int .u64 v] w fun e w' => e = .returned (.int .i64 1) ∧ w = w' := by
  go_enter Try.func62, Try.ntmps62
  go_wp2
  go_ret
  exact ⟨rfl, rfl⟩

set_option maxHeartbeats 1000000 in
theorem put_63 {w : World} {b g ps pages : Nat} {zs : List Int} (hA : IsA w b g ps pages zs) (x v : Int) (hv : 0 ≤ v ∧ v < 18446744073709551616) (ht : There ps zs.length x 8) :
    Calls Try.prog 63 #[.pointer (some ⟨b, 0, none⟩), .int .i64 x, .int .u64 v] w fun e w' => e = .returned (.int .i64 0) ∧ w.grownBy w' (some g) ∧ w'.heap[g]? = some (.cells (vals (putL zs x.toNat 8 v)) 5 (0, 0)) := by
  have hbd := hA.bounds
  obtain ⟨t1, t2, t3, t4⟩ := ht
  have hmod := hA.mod x
  go_enter Try.func63, Try.ntmps63
  go_wp2_with (first | (go_at_call 81; refine (width_81 _).mono ?_; rintro e w' ⟨rfl, rfl⟩) | (go_at_call 55; go_must (refine (hA.part_yes x 8 ⟨by omega, t2, t3, t4⟩).mono ?_); rintro e w' ⟨⟨o, rfl, ho⟩, q, rfl⟩))
  have hg := hA.hg
  go_loopw [9, 10] (fun r i wr => ∃ (j : Nat) (n : Int) (ys : List Int), j ≤ 8 ∧ i = .int .i64 ((j : Int) - 1) ∧ r = .int .u64 n ∧ 0 ≤ n ∧ n < 18446744073709551616 ∧ ys.length = zs.length ∧ putL ys x.toNat j n = putL zs x.toNat 8 v ∧ wr.heap[g]? = some (.cells (vals ys) 5 (0, 0)) ∧ w.grownBy wr (some g)) (fun _ i _ => (intOf i + 1).toNat)
  case atStart => exact ⟨8, v, zs, by omega, rfl, rfl, by omega, by omega, rfl, rfl, hg, gb_drewN (gb_refl _ _) _⟩
  case round =>
    obtain ⟨j, n, ys, hj, rfl, rfl, hn0, hn1, hl, hp, hgr, hfr⟩ := hrel
    by_cases hlt : 0 < j
    · obtain ⟨j, rfl⟩ : ∃ i, j = i + 1 := ⟨j - 1, by omega⟩
      have HP : Hid (putL ys x.toNat (j + 1) n = putL zs x.toNat 8 v) := hp
      have hcell := cell_of_vals hgr (x.toNat + j) (by omega)
      have hfz := frozen_of_row wr g (x.toNat + j) _ _ hgr
      have HG : Hid (wr.heap[g]? = some (.cells (vals ys) 5 (0, 0))) := hgr
      clear hp hgr hg
      go_wp2
      go_roundw
      case rel => exact ⟨j, n / 256, ys.set (x.toNat + j) (n % 256), by omega, rfl, rfl, by omega, by omega, by simpa using hl, HP.out, set_vals HG.out _ _, gb_setCell hfr _⟩
      case measure => first | (simp [intOf]; done) | (simp [intOf]; omega)
    · obtain rfl : j = 0 := by omega
      have HP : Hid (putL ys x.toNat 0 n = putL zs x.toNat 8 v) := hp
      have HG : Hid (wr.heap[g]? = some (.cells (vals ys) 5 (0, 0))) := hgr
      clear hp hgr hg
      go_wp2
      go_ret
      refine ⟨rfl, hfr, ?_⟩
      have := HP.out
      rw [← this]
      exact HG.out

theorem put_63_no {w : World} {b g ps pages : Nat} {zs : List Int} (hA : IsA w b g ps pages zs) (x v : Int) (hx : x ≤ 9223372036854775807) (ht : ¬ There ps zs.length x 8) :
    Calls Try.prog 63 #[.pointer (some ⟨b, 0, none⟩), .int .i64 x, .int .u64 v] w fun e w' => e = .returned (.int .i64 20) ∧ w.grownBy w' none := by
  go_enter Try.func63, Try.ntmps63
  go_wp2_with (first | (go_at_call 81; refine (width_81 _).mono ?_; rintro e w' ⟨rfl, rfl⟩) | (go_at_call 55; go_must (refine (hA.part_no x 8 (by omega) ht).mono ?_); rintro e w' ⟨rfl, q, rfl⟩))
  go_ret
  exact ⟨rfl, gb_drewN (gb_refl _ _) _⟩

theorem put_63_nil (w : World) (x v : Int) :
    Calls Try.prog 63 #[.pointer none, .int .i64 x, .int .u64 v] w fun e w' => e = .returned (.int .i64 1) ∧ w = w' := by
  go_enter Try.func63, Try.ntmps63
  go_wp2
  go_ret
  exact ⟨rfl, rfl⟩

end Go.Proofs.Ytknhoncnaigogaa
