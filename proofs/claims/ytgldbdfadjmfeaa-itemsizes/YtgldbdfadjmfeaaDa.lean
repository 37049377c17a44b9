/-
  Put, Get of numbers of other widths.
-/
import Derived.Test.YtgldbdfadjmfeaaD
namespace Go.Proofs.Ytgldbdfadjmfeaa
open Go.RowKit
set_option linter.unusedVariables false

set_option maxRecDepth 100000 in
theorem width_u8 (w : World) : Calls Try.prog 150 #[] w fun e w' => e = .returned (.int .i64 1) ∧ w = w' := by
  have hx : bits BinOp.xor IntKind.u8 IntKind.u8.max 0 = 255 := by kernel_rfl
  have hs : IntKind.u8.signed = false := rfl
  go_enter Try.func150, Try.ntmps150
  go_wp2_with fail
  refine (len64_8 _ (show _ = _ from rfl) (by omega) (by omega) _).mono ?_
  rintro e w' ⟨rfl, rfl⟩
  go_wp2
  go_ret
  exact ⟨rfl, rfl⟩

set_option maxRecDepth 100000 in
theorem width_u16 (w : World) : Calls Try.prog 155 #[] w fun e w' => e = .returned (.int .i64 2) ∧ w = w' := by
  have hx : bits BinOp.xor IntKind.u16 IntKind.u16.max 0 = 65535 := by kernel_rfl
  have hs : IntKind.u16.signed = false := rfl
  go_enter Try.func155, Try.ntmps155
  go_wp2_with fail
  refine (len64_16 _ (show _ = _ from rfl) (by omega) (by omega) _).mono ?_
  rintro e w' ⟨rfl, rfl⟩
  go_wp2
  go_ret
  exact ⟨rfl, rfl⟩

set_option maxRecDepth 100000 in
theorem width_u32 (w : World) : Calls Try.prog 148 #[] w fun e w' => e = .returned (.int .i64 4) ∧ w = w' := by
  have hx : bits BinOp.xor IntKind.u32 IntKind.u32.max 0 = 4294967295 := by kernel_rfl
  have hs : IntKind.u32.signed = false := rfl
  go_enter Try.func148, Try.ntmps148
  go_wp2_with fail
  refine (len64_32 _ (show _ = _ from rfl) (by omega) (by omega) _).mono ?_
  rintro e w' ⟨rfl, rfl⟩
  go_wp2
  go_ret
  exact ⟨rfl, rfl⟩

set_option maxRecDepth 100000 in
theorem width_u64 (w : World) : Calls Try.prog 149 #[] w fun e w' => e = .returned (.int .i64 8) ∧ w = w' := by
  have hx : bits BinOp.xor IntKind.u64 IntKind.u64.max 0 = 18446744073709551615 := by kernel_rfl
  have hs : IntKind.u64.signed = false := rfl
  go_enter Try.func149, Try.ntmps149
  go_wp2_with fail
  refine (len64_64 _ (show _ = _ from rfl) (by omega) (by omega) _).mono ?_
  rintro e w' ⟨rfl, rfl⟩
  go_wp2
  go_ret
  exact ⟨rfl, rfl⟩

set_option maxHeartbeats 1000000 in
theorem put_u8 {w : World} {b g ps pages : Nat} {zs : List Int} (hA : IsA w b g ps pages zs) (x v : Int) (hv : 0 ≤ v ∧ v < 256) (ht : There ps zs.length x 1) :
    Calls Try.prog 138 #[.pointer (some ⟨b, 0, none⟩), .int .i64 x, .int .u8 v] w fun e w' => e = .returned (.int .i64 0) ∧ w.grownBy w' (some g) ∧ w'.heap[g]? = some (.cells (vals (putL zs x.toNat 1 v)) 5 (0, 0)) := by
  have hbd := hA.bounds
  obtain ⟨t1, t2, t3, t4⟩ := ht
  have hmod := hA.mod x
  go_enter Try.func138, Try.ntmps138
  go_wp2_with (first | (go_at_call 150; refine (width_u8 _).mono ?_; rintro e w' ⟨rfl, rfl⟩) | (go_at_call 127; go_must (refine (hA.part_yes x 1 ⟨by omega, t2, t3, t4⟩).mono ?_); rintro e w' ⟨⟨o, rfl, ho⟩, q, rfl⟩))
  have hg := hA.hg
  go_loopw [9, 10] (fun r i wr => ∃ (j : Nat) (n : Int) (ys : List Int), j ≤ 1 ∧ i = .int .i64 ((j : Int) - 1) ∧ r = .int .u64 n ∧ 0 ≤ n ∧ n < 18446744073709551616 ∧ ys.length = zs.length ∧ putL ys x.toNat j n = putL zs x.toNat 1 v ∧ wr.heap[g]? = some (.cells (vals ys) 5 (0, 0)) ∧ w.grownBy wr (some g)) (fun _ i _ => (intOf i + 1).toNat)
  case atStart => exact ⟨1, v, zs, by omega, rfl, rfl, by omega, by omega, rfl, rfl, hg, gb_drewN (gb_refl _ _) _⟩
  case round =>
    obtain ⟨j, n, ys, hj, rfl, rfl, hn0, hn1, hl, hp, hgr, hfr⟩ := hrel
    by_cases hlt : 0 < j
    · obtain ⟨j, rfl⟩ : ∃ i, j = i + 1 := ⟨j - 1, by omega⟩
      have HP : Hid (putL ys x.toNat (j + 1) n = putL zs x.toNat 1 v) := hp
      have hcell := cell_of_vals hgr (x.toNat + j) (by omega)
      have hfz := frozen_of_row wr g (x.toNat + j) _ _ hgr
      have HG : Hid (wr.heap[g]? = some (.cells (vals ys) 5 (0, 0))) := hgr
      clear hp hgr hg
      go_wp2
      go_roundw
      case rel => exact ⟨j, n / 256, ys.set (x.toNat + j) (n % 256), by omega, rfl, rfl, by omega, by omega, by simpa using hl, HP.out, set_vals HG.out _ _, gb_setCell hfr _⟩
      case measure => first | (simp [intOf]; done) | (simp [intOf]; omega)
    · obtain rfl : j = 0 := by omega
      have HP : Hid (putL ys x.toNat 0 n = putL zs x.toNat 1 v) := hp
      have HG : Hid (wr.heap[g]? = some (.cells (vals ys) 5 (0, 0))) := hgr
      clear hp hgr hg
      go_wp2
      go_ret
      refine ⟨rfl, hfr, ?_⟩
      have := HP.out
      rw [← this]
      exact HG.out

set_option maxHeartbeats 1000000 in
theorem put_u16 {w : World} {b g ps pages : Nat} {zs : List Int} (hA : IsA w b g ps pages zs) (x v : Int) (hv : 0 ≤ v ∧ v < 65536) (ht : There ps zs.length x 2) :
    Calls Try.prog 151 #[.pointer (some ⟨b, 0, none⟩), .int .i64 x, .int .u16 v] w fun e w' => e = .returned (.int .i64 0) ∧ w.grownBy w' (some g) ∧ w'.heap[g]? = some (.cells (vals (putL zs x.toNat 2 v)) 5 (0, 0)) := by
  have hbd := hA.bounds
  obtain ⟨t1, t2, t3, t4⟩ := ht
  have hmod := hA.mod x
  go_enter Try.func151, Try.ntmps151
  go_wp2_with (first | (go_at_call 155; refine (width_u16 _).mono ?_; rintro e w' ⟨rfl, rfl⟩) | (go_at_call 127; go_must (refine (hA.part_yes x 2 ⟨by omega, t2, t3, t4⟩).mono ?_); rintro e w' ⟨⟨o, rfl, ho⟩, q, rfl⟩))
  have hg := hA.hg
  go_loopw [9, 10] (fun r i wr => ∃ (j : Nat) (n : Int) (ys : List Int), j ≤ 2 ∧ i = .int .i64 ((j : Int) - 1) ∧ r = .int .u64 n ∧ 0 ≤ n ∧ n < 18446744073709551616 ∧ ys.length = zs.length ∧ putL ys x.toNat j n = putL zs x.toNat 2 v ∧ wr.heap[g]? = some (.cells (vals ys) 5 (0, 0)) ∧ w.grownBy wr (some g)) (fun _ i _ => (intOf i + 1).toNat)
  case atStart => exact ⟨2, v, zs, by omega, rfl, rfl, by omega, by omega, rfl, rfl, hg, gb_drewN (gb_refl _ _) _⟩
  case round =>
    obtain ⟨j, n, ys, hj, rfl, rfl, hn0, hn1, hl, hp, hgr, hfr⟩ := hrel
    by_cases hlt : 0 < j
    · obtain ⟨j, rfl⟩ : ∃ i, j = i + 1 := ⟨j - 1, by omega⟩
      have HP : Hid (putL ys x.toNat (j + 1) n = putL zs x.toNat 2 v) := hp
      have hcell := cell_of_vals hgr (x.toNat + j) (by omega)
      have hfz := frozen_of_row wr g (x.toNat + j) _ _ hgr
      have HG : Hid (wr.heap[g]? = some (.cells (vals ys) 5 (0, 0))) := hgr
      clear hp hgr hg
      go_wp2
      go_roundw
      case rel => exact ⟨j, n / 256, ys.set (x.toNat + j) (n % 256), by omega, rfl, rfl, by omega, by omega, by simpa using hl, HP.out, set_vals HG.out _ _, gb_setCell hfr _⟩
      case measure => first | (simp [intOf]; done) | (simp [intOf]; omega)
    · obtain rfl : j = 0 := by omega
      have HP : Hid (putL ys x.toNat 0 n = putL zs x.toNat 2 v) := hp
      have HG : Hid (wr.heap[g]? = some (.cells (vals ys) 5 (0, 0))) := hgr
      clear hp hgr hg
      go_wp2
      go_ret
      refine ⟨rfl, hfr, ?_⟩
      have := HP.out
      rw [← this]
      exact HG.out

set_option maxHeartbeats 1000000 in
theorem put_u32 {w : World} {b g ps pages : Nat} {zs : List Int} (hA : IsA w b g ps pages zs) (x v : Int) (hv : 0 ≤ v ∧ v < 4294967296) (ht : There ps zs.length x 4) :
    Calls Try.prog 129 #[.pointer (some ⟨b, 0, none⟩), .int .i64 x, .int .u32 v] w fun e w' => e = .returned (.int .i64 0) ∧ w.grownBy w' (some g) ∧ w'.heap[g]? = some (.cells (vals (putL zs x.toNat 4 v)) 5 (0, 0)) := by
  have hbd := hA.bounds
  obtain ⟨t1, t2, t3, t4⟩ := ht
  have hmod := hA.mod x
  go_enter Try.func129, Try.ntmps129
  go_wp2_with (first | (go_at_call 148; refine (width_u32 _).mono ?_; rintro e w' ⟨rfl, rfl⟩) | (go_at_call 127; go_must (refine (hA.part_yes x 4 ⟨by omega, t2, t3, t4⟩).mono ?_); rintro e w' ⟨⟨o, rfl, ho⟩, q, rfl⟩))
  have hg := hA.hg
  go_loopw [9, 10] (fun r i wr => ∃ (j : Nat) (n : Int) (ys : List Int), j ≤ 4 ∧ i = .int .i64 ((j : Int) - 1) ∧ r = .int .u64 n ∧ 0 ≤ n ∧ n < 18446744073709551616 ∧ ys.length = zs.length ∧ putL ys x.toNat j n = putL zs x.toNat 4 v ∧ wr.heap[g]? = some (.cells (vals ys) 5 (0, 0)) ∧ w.grownBy wr (some g)) (fun _ i _ => (intOf i + 1).toNat)
  case atStart => exact ⟨4, v, zs, by omega, rfl, rfl, by omega, by omega, rfl, rfl, hg, gb_drewN (gb_refl _ _) _⟩
  case round =>
    obtain ⟨j, n, ys, hj, rfl, rfl, hn0, hn1, hl, hp, hgr, hfr⟩ := hrel
    by_cases hlt : 0 < j
    · obtain ⟨j, rfl⟩ : ∃ i, j = i + 1 := ⟨j - 1, by omega⟩
      have HP : Hid (putL ys x.toNat (j + 1) n = putL zs x.toNat 4 v) := hp
      have hcell := cell_of_vals hgr (x.toNat + j) (by omega)
      have hfz := frozen_of_row wr g (x.toNat + j) _ _ hgr
      have HG : Hid (wr.heap[g]? = some (.cells (vals ys) 5 (0, 0))) := hgr
      clear hp hgr hg
      go_wp2
      go_roundw
      case rel => exact ⟨j, n / 256, ys.set (x.toNat + j) (n % 256), by omega, rfl, rfl, by omega, by omega, by simpa using hl, HP.out, set_vals HG.out _ _, gb_setCell hfr _⟩
      case measure => first | (simp [intOf]; done) | (simp [intOf]; omega)
    · obtain rfl : j = 0 := by omega
      have HP : Hid (putL ys x.toNat 0 n = putL zs x.toNat 4 v) := hp
      have HG : Hid (wr.heap[g]? = some (.cells (vals ys) 5 (0, 0))) := hgr
      clear hp hgr hg
      go_wp2
      go_ret
      refine ⟨rfl, hfr, ?_⟩
      have := HP.out
      rw [← this]
      exact HG.out

set_option maxHeartbeats 1000000 in
theorem put_u64 {w : World} {b g ps pages : Nat} {zs : List Int} (hA : IsA w b g ps pages zs) (x v : Int) (hv : 0 ≤ v ∧ v < 18446744073709551616) (ht : There ps zs.length x 8) :
    Calls Try.prog 137 #[.pointer (some ⟨b, 0, none⟩), .int .i64 x, .int .u64 v] w fun e w' => e = .returned (.int .i64 0) ∧ w.grownBy w' (some g) ∧ w'.heap[g]? = some (.cells (vals (putL zs x.toNat 8 v)) 5 (0, 0)) := by
  have hbd := hA.bounds
  obtain ⟨t1, t2, t3, t4⟩ := ht
  have hmod := hA.mod x
  go_enter Try.func137, Try.ntmps137
  go_wp2_with (first | (go_at_call 149; refine (width_u64 _).mono ?_; rintro e w' ⟨rfl, rfl⟩) | (go_at_call 127; go_must (refine (hA.part_yes x 8 ⟨by omega, t2, t3, t4⟩).mono ?_); rintro e w' ⟨⟨o, rfl, ho⟩, q, rfl⟩))
  have hg := hA.hg
  go_loopw [9, 10] (fun r i wr => ∃ (j : Nat) (n : Int) (ys : List Int), j ≤ 8 ∧ i = .int .i64 ((j : Int) - 1) ∧ r = .int .u64 n ∧ 0 ≤ n ∧ n < 18446744073709551616 ∧ ys.length = zs.length ∧ putL ys x.toNat j n = putL zs x.toNat 8 v ∧ wr.heap[g]? = some (.cells (vals ys) 5 (0, 0)) ∧ w.grownBy wr (some g)) (fun _ i _ => (intOf i + 1).toNat)
  case atStart => exact ⟨8, v, zs, by omega, rfl, rfl, by omega, by omega, rfl, rfl, hg, gb_drewN (gb_refl _ _) _⟩
  case round =>
    obtain ⟨j, n, ys, hj, rfl, rfl, hn0, hn1, hl, hp, hgr, hfr⟩ := hrel
    by_cases hlt : 0 < j
    · obtain ⟨j, rfl⟩ : ∃ i, j = i + 1 := ⟨j - 1, by omega⟩
      have HP : Hid (putL ys x.toNat (j + 1) n = putL zs x.toNat 8 v) := hp
      have hcell := cell_of_vals hgr (x.toNat + j) (by omega)
      have hfz := frozen_of_row wr g (x.toNat + j) _ _ hgr
      have HG : Hid (wr.heap[g]? = some (.cells (vals ys) 5 (0, 0))) := hgr
      clear hp hgr hg
      go_wp2
      go_roundw
      case rel => exact ⟨j, n / 256, ys.set (x.toNat + j) (n % 256), by omega, rfl, rfl, by omega, by omega, by simpa using hl, HP.out, set_vals HG.out _ _, gb_setCell hfr _⟩
      case measure => first | (simp [intOf]; done) | (simp [intOf]; omega)
    · obtain rfl : j = 0 := by omega
      have HP : Hid (putL ys x.toNat 0 n = putL zs x.toNat 8 v) := hp
      have HG : Hid (wr.heap[g]? = some (.cells (vals ys) 5 (0, 0))) := hgr
      clear hp hgr hg
      go_wp2
      go_ret
      refine ⟨rfl, hfr, ?_⟩
      have := HP.out
      rw [← this]
      exact HG.out

set_option maxHeartbeats 1000000 in
theorem get_u8 {w : World} {b g ps pages : Nat} {zs : List Int} (hA : IsA w b g ps pages zs) (x : Int) (ht : There ps zs.length x 1) :
    Calls Try.prog 142 #[.pointer (some ⟨b, 0, none⟩), .int .i64 x] w fun e w' => e = .returned (.tuple #[.int .u8 (getL zs x.toNat 1 0 0), .int .i64 0]) ∧ w.grownBy w' none := by
  have hbd := hA.bounds
  obtain ⟨t1, t2, t3, t4⟩ := ht
  have hmod := hA.mod x
  go_enter Try.func142, Try.ntmps142
  go_wp2_with (first | (go_at_call 150; refine (width_u8 _).mono ?_; rintro e w' ⟨rfl, rfl⟩) | (go_at_call 127; go_must (refine (hA.part_yes x 1 ⟨by omega, t2, t3, t4⟩).mono ?_); rintro e w' ⟨⟨o, rfl, ho⟩, q, rfl⟩))
  go_loop [8, 24] (fun r c => ∃ (i : Nat) (s : Int), i ≤ 1 ∧ c = .int .i64 i ∧ r = .int .u64 s ∧ 0 ≤ s ∧ Hid (s < pw i) ∧ Hid (getL zs x.toNat (1 - i) i s = getL zs x.toNat 1 0 0)) (fun _ c => 1 - (intOf c).toNat)
  case atStart => exact ⟨0, 0, by omega, rfl, rfl, by omega, (show (0 : Int) < 1 by decide), rfl⟩
  case round =>
    obtain ⟨i, s, hi, rfl, rfl, hs0, hs1, hp⟩ := hrel
    by_cases hlt : i < 1
    · have hcell := cell_of_vals hA.hg (x.toNat + i) (by omega)
      have hz := hA.hz (zs.getD (x.toNat + i) 0) (getD_mem (by omega))
      obtain ⟨z, hz'⟩ : ∃ z, z = zs.getD (x.toNat + i) 0 := ⟨_, rfl⟩
      have HP : Hid (getL zs x.toNat (1 - (i + 1)) (i + 1) (256 * s + z) = getL zs x.toNat 1 0 0) := by
        have := hp.out
        rw [getL_go zs _ _ _ _ hlt, ← hz'] at this
        exact this
      rw [← hz'] at hcell hz
      have hst := pow_step i s z (by omega) hs1.out hz.2
      have hor := or_u64 s z hs0 hst.1 hz
      have hb2 := hst.1
      have HB : Hid (256 * s + z < pw (i + 1)) := hst.2
      clear hz' hst
      go_wp2
      go_round
      case rel => exact ⟨i + 1, 256 * s + z, by omega, by go_num, rfl, by omega, HB, HP⟩
      case measure => simp [intOf]; omega
    · have e : Hid (getL zs x.toNat 1 0 0 = s) := by
        have := hp.out
        rw [getL_stop zs _ _ _ _ (by omega)] at this
        exact this.symm
      have hs2 : s < 256 := by
        obtain rfl : i = 1 := by omega
        exact hs1.out
      clear hp
      go_wp2
      go_ret2
      refine ⟨?_, gb_drewN (gb_refl _ _) _⟩
      rw [e.out]
      rfl

set_option maxHeartbeats 1000000 in
theorem get_u32 {w : World} {b g ps pages : Nat} {zs : List Int} (hA : IsA w b g ps pages zs) (x : Int) (ht : There ps zs.length x 4) :
    Calls Try.prog 140 #[.pointer (some ⟨b, 0, none⟩), .int .i64 x] w fun e w' => e = .returned (.tuple #[.int .u32 (getL zs x.toNat 4 0 0), .int .i64 0]) ∧ w.grownBy w' none := by
  have hbd := hA.bounds
  obtain ⟨t1, t2, t3, t4⟩ := ht
  have hmod := hA.mod x
  go_enter Try.func140, Try.ntmps140
  go_wp2_with (first | (go_at_call 148; refine (width_u32 _).mono ?_; rintro e w' ⟨rfl, rfl⟩) | (go_at_call 127; go_must (refine (hA.part_yes x 4 ⟨by omega, t2, t3, t4⟩).mono ?_); rintro e w' ⟨⟨o, rfl, ho⟩, q, rfl⟩))
  go_loop [8, 24] (fun r c => ∃ (i : Nat) (s : Int), i ≤ 4 ∧ c = .int .i64 i ∧ r = .int .u64 s ∧ 0 ≤ s ∧ Hid (s < pw i) ∧ Hid (getL zs x.toNat (4 - i) i s = getL zs x.toNat 4 0 0)) (fun _ c => 4 - (intOf c).toNat)
  case atStart => exact ⟨0, 0, by omega, rfl, rfl, by omega, (show (0 : Int) < 1 by decide), rfl⟩
  case round =>
    obtain ⟨i, s, hi, rfl, rfl, hs0, hs1, hp⟩ := hrel
    by_cases hlt : i < 4
    · have hcell := cell_of_vals hA.hg (x.toNat + i) (by omega)
      have hz := hA.hz (zs.getD (x.toNat + i) 0) (getD_mem (by omega))
      obtain ⟨z, hz'⟩ : ∃ z, z = zs.getD (x.toNat + i) 0 := ⟨_, rfl⟩
      have HP : Hid (getL zs x.toNat (4 - (i + 1)) (i + 1) (256 * s + z) = getL zs x.toNat 4 0 0) := by
        have := hp.out
        rw [getL_go zs _ _ _ _ hlt, ← hz'] at this
        exact this
      rw [← hz'] at hcell hz
      have hst := pow_step i s z (by omega) hs1.out hz.2
      have hor := or_u64 s z hs0 hst.1 hz
      have hb2 := hst.1
      have HB : Hid (256 * s + z < pw (i + 1)) := hst.2
      clear hz' hst
      go_wp2
      go_round
      case rel => exact ⟨i + 1, 256 * s + z, by omega, by go_num, rfl, by omega, HB, HP⟩
      case measure => simp [intOf]; omega
    · have e : Hid (getL zs x.toNat 4 0 0 = s) := by
        have := hp.out
        rw [getL_stop zs _ _ _ _ (by omega)] at this
        exact this.symm
      have hs2 : s < 4294967296 := by
        obtain rfl : i = 4 := by omega
        exact hs1.out
      clear hp
      go_wp2
      go_ret2
      refine ⟨?_, gb_drewN (gb_refl _ _) _⟩
      rw [e.out]
      rfl

set_option maxHeartbeats 1000000 in
theorem get_u64 {w : World} {b g ps pages : Nat} {zs : List Int} (hA : IsA w b g ps pages zs) (x : Int) (ht : There ps zs.length x 8) :
    Calls Try.prog 141 #[.pointer (some ⟨b, 0, none⟩), .int .i64 x] w fun e w' => e = .returned (.tuple #[.int .u64 (getL zs x.toNat 8 0 0), .int .i64 0]) ∧ w.grownBy w' none := by
  have hbd := hA.bounds
  obtain ⟨t1, t2, t3, t4⟩ := ht
  have hmod := hA.mod x
  go_enter Try.func141, Try.ntmps141
  go_wp2_with (first | (go_at_call 149; refine (width_u64 _).mono ?_; rintro e w' ⟨rfl, rfl⟩) | (go_at_call 127; go_must (refine (hA.part_yes x 8 ⟨by omega, t2, t3, t4⟩).mono ?_); rintro e w' ⟨⟨o, rfl, ho⟩, q, rfl⟩))
  go_loop [8, 24] (fun r c => ∃ (i : Nat) (s : Int), i ≤ 8 ∧ c = .int .i64 i ∧ r = .int .u64 s ∧ 0 ≤ s ∧ Hid (s < pw i) ∧ Hid (getL zs x.toNat (8 - i) i s = getL zs x.toNat 8 0 0)) (fun _ c => 8 - (intOf c).toNat)
  case atStart => exact ⟨0, 0, by omega, rfl, rfl, by omega, (show (0 : Int) < 1 by decide), rfl⟩
  case round =>
    obtain ⟨i, s, hi, rfl, rfl, hs0, hs1, hp⟩ := hrel
    by_cases hlt : i < 8
    · have hcell := cell_of_vals hA.hg (x.toNat + i) (by omega)
      have hz := hA.hz (zs.getD (x.toNat + i) 0) (getD_mem (by omega))
      obtain ⟨z, hz'⟩ : ∃ z, z = zs.getD (x.toNat + i) 0 := ⟨_, rfl⟩
      have HP : Hid (getL zs x.toNat (8 - (i + 1)) (i + 1) (256 * s + z) = getL zs x.toNat 8 0 0) := by
        have := hp.out
        rw [getL_go zs _ _ _ _ hlt, ← hz'] at this
        exact this
      rw [← hz'] at hcell hz
      have hst := pow_step i s z (by omega) hs1.out hz.2
      have hor := or_u64 s z hs0 hst.1 hz
      have hb2 := hst.1
      have HB : Hid (256 * s + z < pw (i + 1)) := hst.2
      clear hz' hst
      go_wp2
      go_round
      case rel => exact ⟨i + 1, 256 * s + z, by omega, by go_num, rfl, by omega, HB, HP⟩
      case measure => simp [intOf]; omega
    · have e : Hid (getL zs x.toNat 8 0 0 = s) := by
        have := hp.out
        rw [getL_stop zs _ _ _ _ (by omega)] at this
        exact this.symm
      have hs2 : s < 18446744073709551616 := by
        obtain rfl : i = 8 := by omega
        exact hs1.out
      clear hp
      go_wp2
      go_ret2
      refine ⟨?_, gb_drewN (gb_refl _ _) _⟩
      rw [e.out]
      rfl


end Go.Proofs.Ytgldbdfadjmfeaa
