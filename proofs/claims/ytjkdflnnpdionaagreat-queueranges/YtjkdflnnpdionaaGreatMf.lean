import Derived.Test.YtjkdflnnpdionaaGreatMa
import Derived.Test.YtjkdflnnpdionaaGreatMe
/-
  Put, Get of numbers of other widths.
-/
namespace Go.Proofs.YtjkdflnnpdionaaGreat
open Go.RowKit
set_option linter.unusedVariables false

set_option maxRecDepth 100000 in
theorem width_u8 (w : World) : Calls Tryz.prog 209 #[] w fun e w' => e = .returned (.int .i64 1) ∧ w = w' := by
  have hx : bits BinOp.xor IntKind.u8 IntKind.u8.max 0 = 255 := by kernel_rfl
  have hs : IntKind.u8.signed = false := rfl
  go_enter Tryz.func209, Tryz.ntmps209
  go_wp2_with fail
  refine (len64_8 _ (show _ = _ from rfl) (by omega) (by omega) _).mono ?_
  rintro e w' ⟨rfl, rfl⟩
  go_wp2
  go_ret
  exact ⟨rfl, rfl⟩

set_option maxRecDepth 100000 in
theorem width_u16 (w : World) : Calls Tryz.prog 219 #[] w fun e w' => e = .returned (.int .i64 2) ∧ w = w' := by
  have hx : bits BinOp.xor IntKind.u16 IntKind.u16.max 0 = 65535 := by kernel_rfl
  have hs : IntKind.u16.signed = false := rfl
  go_enter Tryz.func219, Tryz.ntmps219
  go_wp2_with fail
  refine (len64_16 _ (show _ = _ from rfl) (by omega) (by omega) _).mono ?_
  rintro e w' ⟨rfl, rfl⟩
  go_wp2
  go_ret
  exact ⟨rfl, rfl⟩

set_option maxRecDepth 100000 in
theorem width_u32 (w : World) : Calls Tryz.prog 206 #[] w fun e w' => e = .returned (.int .i64 4) ∧ w = w' := by
  have hx : bits BinOp.xor IntKind.u32 IntKind.u32.max 0 = 4294967295 := by kernel_rfl
  have hs : IntKind.u32.signed = false := rfl
  go_enter Tryz.func206, Tryz.ntmps206
  go_wp2_with fail
  refine (len64_32 _ (show _ = _ from rfl) (by omega) (by omega) _).mono ?_
  rintro e w' ⟨rfl, rfl⟩
  go_wp2
  go_ret
  exact ⟨rfl, rfl⟩

set_option maxRecDepth 100000 in
theorem width_u64 (w : World) : Calls Tryz.prog 208 #[] w fun e w' => e = .returned (.int .i64 8) ∧ w = w' := by
  have hx : bits BinOp.xor IntKind.u64 IntKind.u64.max 0 = 18446744073709551615 := by kernel_rfl
  have hs : IntKind.u64.signed = false := rfl
  go_enter Tryz.func208, Tryz.ntmps208
  go_wp2_with fail
  refine (len64_64 _ (show _ = _ from rfl) (by omega) (by omega) _).mono ?_
  rintro e w' ⟨rfl, rfl⟩
  go_wp2
  go_ret
  exact ⟨rfl, rfl⟩

set_option maxHeartbeats 1000000 in
theorem put_u8 {w : World} {b g ps pages : Nat} {zs : List Int} (hA : IsA w b g ps pages zs) (x v : Int) (hv : 0 ≤ v ∧ v < 256) (ht : There ps zs.length x 1) :
    Calls Tryz.prog 192 #[.pointer (some ⟨b, 0, none⟩), .int .i64 x, .int .u8 v] w fun e w' => e = .returned (.int .i64 0) ∧ w.grownBy w' (some g) ∧ w'.heap[g]? = some (.cells (vals (putL zs x.toNat 1 v)) 5 (0, 0)) := by
  have hbd := hA.bounds
  obtain ⟨t1, t2, t3, t4⟩ := ht
  have hmod := hA.mod x
  go_enter Tryz.func192, Tryz.ntmps192
  go_wp2_with (first | (go_at_call 209; refine (width_u8 _).mono ?_; rintro e w' ⟨rfl, rfl⟩) | (go_at_call 190; go_must (refine (hA.part_yes x 1 ⟨by omega, t2, t3, t4⟩).mono ?_); rintro e w' ⟨⟨o, rfl, ho⟩, q, rfl⟩))
  have hg := hA.hg
  go_loopw [9, 10] (fun r i wr => ∃ (j : Nat) (n : Int) (ys : List Int), j ≤ 1 ∧ i = .int .i64 ((j : Int) - 1) ∧ r = .int .u64 n ∧ 0 ≤ n ∧ n < 18446744073709551616 ∧ ys.length = zs.length ∧ putL ys x.toNat j n = putL zs x.toNat 1 v ∧ wr.heap[g]? = some (.cells (vals ys) 5 (0, 0)) ∧ w.grownBy wr (some g)) (fun _ i _ => (intOf i + 1).toNat)
  case atStart => exact ⟨1, v, zs, by omega, rfl, rfl, by omega, by omega, rfl, rfl, hg, gb_drewN (gb_refl _ _) _⟩
  case round =>
    obtain ⟨j, n, ys, hj, rfl, rfl, hn0, hn1, hl, hp, hgr, hfr⟩ := hrel
    by_cases hlt : 0 < j
    · obtain ⟨j, rfl⟩ : ∃ i, j = i + 1 := ⟨j - 1, by omega⟩
      have HP : Hid (putL ys x.toNat (j + 1) n = putL zs x.toNat 1 v) := hp
      have hcell := cell_of_vals hgr (x.toNat + j) (by omega)
      have hfz := frozen_of_row wr g (x.toNat + j) _ _ hgr
      have HG : Hid (wr.heap[g]? = some (.cells (vals ys) 5 (0, 0))) := hgr
      clear hp hgr hg
      go_wp2
      go_roundw
      case rel => exact ⟨j, n / 256, ys.set (x.toNat + j) (n % 256), by omega, rfl, rfl, by omega, by omega, by simpa using hl, HP.out, set_vals HG.out _ _, gb_setCell hfr _⟩
      case measure => first | (simp [intOf]; done) | (simp [intOf]; omega)
    · obtain rfl : j = 0 := by omega
      have HP : Hid (putL ys x.toNat 0 n = putL zs x.toNat 1 v) := hp
      have HG : Hid (wr.heap[g]? = some (.cells (vals ys) 5 (0, 0))) := hgr
      clear hp hgr hg
      go_wp2
      go_ret
      refine ⟨rfl, hfr, ?_⟩
      have := HP.out
      rw [← this]
      exact HG.out

set_option maxHeartbeats 1000000 in
theorem put_u16 {w : World} {b g ps pages : Nat} {zs : List Int} (hA : IsA w b g ps pages zs) (x v : Int) (hv : 0 ≤ v ∧ v < 65536) (ht : There ps zs.length x 2) :
    Calls Tryz.prog 210 #[.pointer (some ⟨b, 0, none⟩), .int .i64 x, .int .u16 v] w fun e w' => e = .returned (.int .i64 0) ∧ w.grownBy w' (some g) ∧ w'.heap[g]? = some (.cells (vals (putL zs x.toNat 2 v)) 5 (0, 0)) := by
  have hbd := hA.bounds
  obtain ⟨t1, t2, t3, t4⟩ := ht
  have hmod := hA.mod x
  go_enter Tryz.func210, Tryz.ntmps210
  go_wp2_with (first | (go_at_call 219; refine (width_u16 _).mono ?_; rintro e w' ⟨rfl, rfl⟩) | (go_at_call 190; go_must (refine (hA.part_yes x 2 ⟨by omega, t2, t3, t4⟩).mono ?_); rintro e w' ⟨⟨o, rfl, ho⟩, q, rfl⟩))
  have hg := hA.hg
  go_loopw [9, 10] (fun r i wr => ∃ (j : Nat) (n : Int) (ys : List Int), j ≤ 2 ∧ i = .int .i64 ((j : Int) - 1) ∧ r = .int .u64 n ∧ 0 ≤ n ∧ n < 18446744073709551616 ∧ ys.length = zs.length ∧ putL ys x.toNat j n = putL zs x.toNat 2 v ∧ wr.heap[g]? = some (.cells (vals ys) 5 (0, 0)) ∧ w.grownBy wr (some g)) (fun _ i _ => (intOf i + 1).toNat)
  case atStart => exact ⟨2, v, zs, by omega, rfl, rfl, by omega, by omega, rfl, rfl, hg, gb_drewN (gb_refl _ _) _⟩
  case round =>
    obtain ⟨j, n, ys, hj, rfl, rfl, hn0, hn1, hl, hp, hgr, hfr⟩ := hrel
    by_cases hlt : 0 < j
    · obtain ⟨j, rfl⟩ : ∃ i, j = i + 1 := ⟨j - 1, by omega⟩
      have HP : Hid (putL ys x.toNat (j + 1) n = putL zs x.toNat 2 v) := hp
      have hcell := cell_of_vals hgr (x.toNat + j) (by omega)
      have hfz := frozen_of_row wr g (x.toNat + j) _ _ hgr
      have HG : Hid (wr.heap[g]? = some (.cells (vals ys) 5 (0, 0))) := hgr
      clear hp hgr hg
      go_wp2
      go_roundw
      case rel => exact ⟨j, n / 256, ys.set (x.toNat + j) (n % 256), by omega, rfl, rfl, by omega, by omega, by simpa using hl, HP.out, set_vals HG.out _ _, gb_setCell hfr _⟩
      case measure => first | (simp [intOf]; done) | (simp [intOf]; omega)
    · obtain rfl : j = 0 := by omega
      have HP : Hid (putL ys x.toNat 0 n = putL zs x.toNat 2 v) := hp
      have HG : Hid (wr.heap[g]? = some (.cells (vals ys) 5 (0, 0))) := hgr
      clear hp hgr hg
      go_wp2
      go_ret
      refine ⟨rfl, hfr, ?_⟩
      have := HP.out
      rw [← this]
      exact HG.out

set_option maxHeartbeats 1000000 in
theorem put_u32 {w : World} {b g ps pages : Nat} {zs : List Int} (hA : IsA w b g ps pages zs) (x v : Int) (hv : 0 ≤ v ∧ v < 4294967296) (ht : There ps zs.length x 4) :
    Calls Tryz.prog 184 #[.pointer (some ⟨b, 0, none⟩), .int .i64 x, .int .u32 v] w fun e w' => e = .returned (.int .i64 0) ∧ w.grownBy w' (some g) ∧ w'.heap[g]? = some (.cells (vals (putL zs x.toNat 4 v)) 5 (0, 0)) := by
  have hbd := hA.bounds
  obtain ⟨t1, t2, t3, t4⟩ := ht
  have hmod := hA.mod x
  go_enter Tryz.func184, Tryz.ntmps184
  go_wp2_with (first | (go_at_call 206; refine (width_u32 _).mono ?_; rintro e w' ⟨rfl, rfl⟩) | (go_at_call 190; go_must (refine (hA.part_yes x 4 ⟨by omega, t2, t3, t4⟩).mono ?_); rintro e w' ⟨⟨o, rfl, ho⟩, q, rfl⟩))
  have hg := hA.hg
  go_loopw [9, 10] (fun r i wr => ∃ (j : Nat) (n : Int) (ys : List Int), j ≤ 4 ∧ i = .int .i64 ((j : Int) - 1) ∧ r = .int .u64 n ∧ 0 ≤ n ∧ n < 18446744073709551616 ∧ ys.length = zs.length ∧ putL ys x.toNat j n = putL zs x.toNat 4 v ∧ wr.heap[g]? = some (.cells (vals ys) 5 (0, 0)) ∧ w.grownBy wr (some g)) (fun _ i _ => (intOf i + 1).toNat)
  case atStart => exact ⟨4, v, zs, by omega, rfl, rfl, by omega, by omega, rfl, rfl, hg, gb_drewN (gb_refl _ _) _⟩
  case round =>
    obtain ⟨j, n, ys, hj, rfl, rfl, hn0, hn1, hl, hp, hgr, hfr⟩ := hrel
    by_cases hlt : 0 < j
    · obtain ⟨j, rfl⟩ : ∃ i, j = i + 1 := ⟨j - 1, by omega⟩
      have HP : Hid (putL ys x.toNat (j + 1) n = putL zs x.toNat 4 v) := hp
      have hcell := cell_of_vals hgr (x.toNat + j) (by omega)
      have hfz := frozen_of_row wr g (x.toNat + j) _ _ hgr
      have HG : Hid (wr.heap[g]? = some (.cells (vals ys) 5 (0, 0))) := hgr
      clear hp hgr hg
      go_wp2
      go_roundw
      case rel => exact ⟨j, n / 256, ys.set (x.toNat + j) (n % 256), by omega, rfl, rfl, by omega, by omega, by simpa using hl, HP.out, set_vals HG.out _ _, gb_setCell hfr _⟩
      case measure => first | (simp [intOf]; done) | (simp [intOf]; omega)
    · obtain rfl : j = 0 := by omega
      have HP : Hid (putL ys x.toNat 0 n = putL zs x.toNat 4 v) := hp
      have HG : Hid (wr.heap[g]? = some (.cells (vals ys) 5 (0, 0))) := hgr
      clear hp hgr hg
      go_wp2
      go_ret
      refine ⟨rfl, hfr, ?_⟩
      have := HP.out
      rw [← this]
      exact HG.out

set_option maxHeartbeats 1000000 in
theorem put_u64 {w : World} {b g ps pages : Nat} {zs : List Int} (hA : IsA w b g ps pages zs) (x v : Int) (hv : 0 ≤ v ∧ v < 18446744073709551616) (ht : There ps zs.length x 8) :
    Calls Tryz.prog 191 #[.pointer (some ⟨b, 0, none⟩), .int .i64 x, .int .u64 v] w fun e w' => e = .returned (.int .i64 0) ∧ w.grownBy w' (some g) ∧ w'.heap[g]? = some (.cells (vals (putL zs x.toNat 8 v)) 5 (0, 0)) := by
  have hbd := hA.bounds
  obtain ⟨t1, t2, t3, t4⟩ := ht
  have hmod := hA.mod x
  go_enter Tryz.func191, Tryz.ntmps191
  go_wp2_with (first | (go_at_call 208; refine (width_u64 _).mono ?_; rintro e w' ⟨rfl, rfl⟩) | (go_at_call 190; go_must (refine (hA.part_yes x 8 ⟨by omega, t2, t3, t4⟩).mono ?_); rintro e w' ⟨⟨o, rfl, ho⟩, q, rfl⟩))
  have hg := hA.hg
  go_loopw [9, 10] (fun r i wr => ∃ (j : Nat) (n : Int) (ys : List Int), j ≤ 8 ∧ i = .int .i64 ((j : Int) - 1) ∧ r = .int .u64 n ∧ 0 ≤ n ∧ n < 18446744073709551616 ∧ ys.length = zs.length ∧ putL ys x.toNat j n = putL zs x.toNat 8 v ∧ wr.heap[g]? = some (.cells (vals ys) 5 (0, 0)) ∧ w.grownBy wr (some g)) (fun _ i _ => (intOf i + 1).toNat)
  case atStart => exact ⟨8, v, zs, by omega, rfl, rfl, by omega, by omega, rfl, rfl, hg, gb_drewN (gb_refl _ _) _⟩
  case round =>
    obtain ⟨j, n, ys, hj, rfl, rfl, hn0, hn1, hl, hp, hgr, hfr⟩ := hrel
    by_cases hlt : 0 < j
    · obtain ⟨j, rfl⟩ : ∃ i, j = i + 1 := ⟨j - 1, by omega⟩
      have HP : Hid (putL ys x.toNat (j + 1) n = putL zs x.toNat 8 v) := hp
      have hcell := cell_of_vals hgr (x.toNat + j) (by omega)
      have hfz := frozen_of_row wr g (x.toNat + j) _ _ hgr
      have HG : Hid (wr.heap[g]? = some (.cells (vals ys) 5 (0, 0))) := hgr
      clear hp hgr hg
      go_wp2
      go_roundw
      case rel => exact ⟨j, n / 256, ys.set (x.toNat + j) (n % 256), by omega, rfl, rfl, by omega, by omega, by simpa using hl, HP.out, set_vals HG.out _ _, gb_setCell hfr _⟩
      case measure => first | (simp [intOf]; done) | (simp [intOf]; omega)
    · obtain rfl : j = 0 := by omega
      have HP : Hid (putL ys x.toNat 0 n = putL zs x.toNat 8 v) := hp
      have HG : Hid (wr.heap[g]? = some (.cells (vals ys) 5 (0, 0))) := hgr
      clear hp hgr hg
      go_wp2
      go_ret
      refine ⟨rfl, hfr, ?_⟩
      have := HP.out
      rw [← this]
      exact HG.out

set_option maxHeartbeats 1000000 in
theorem get_u8 {w : World} {b g ps pages : Nat} {zs : List Int} (hA : IsA w b g ps pages zs) (x : Int) (ht : There ps zs.length x 1) :
    Calls Tryz.prog 217 #[.pointer (some ⟨b, 0, none⟩), .int .i64 x] w fun e w' => e = .returned (.tuple #[.int .u8 (getL zs x.toNat 1 0 0), .int .i64 0]) ∧ w.grownBy w' none := by
  have hbd := hA.bounds
  obtain ⟨t1, t2, t3, t4⟩ := ht
  have hmod := hA.mod x
  go_enter Tryz.func217, Tryz.ntmps217
  go_wp2_with (first | (go_at_call 209; refine (width_u8 _).mono ?_; rintro e w' ⟨rfl, rfl⟩) | (go_at_call 190; go_must (refine (hA.part_yes x 1 ⟨by omega, t2, t3, t4⟩).mono ?_); rintro e w' ⟨⟨o, rfl, ho⟩, q, rfl⟩))
  go_loop [8, 24] (fun r c => ∃ (i : Nat) (s : Int), i ≤ 1 ∧ c = .int .i64 i ∧ r = .int .u64 s ∧ 0 ≤ s ∧ Hid (s < pw i) ∧ Hid (getL zs x.toNat (1 - i) i s = getL zs x.toNat 1 0 0)) (fun _ c => 1 - (intOf c).toNat)
  case atStart => exact ⟨0, 0, by omega, rfl, rfl, by omega, (show (0 : Int) < 1 by decide), rfl⟩
  case round =>
    obtain ⟨i, s, hi, rfl, rfl, hs0, hs1, hp⟩ := hrel
    by_cases hlt : i < 1
    · have hcell := cell_of_vals hA.hg (x.toNat + i) (by omega)
      have hz := hA.hz (zs.getD (x.toNat + i) 0) (getD_mem (by omega))
      obtain ⟨z, hz'⟩ : ∃ z, z = zs.getD (x.toNat + i) 0 := ⟨_, rfl⟩
      have HP : Hid (getL zs x.toNat (1 - (i + 1)) (i + 1) (256 * s + z) = getL zs x.toNat 1 0 0) := by
        have := hp.out
        rw [getL_go zs _ _ _ _ hlt, ← hz'] at this
        exact this
      rw [← hz'] at hcell hz
      have hst := pow_step i s z (by omega) hs1.out hz.2
      have hor := or_u64 s z hs0 hst.1 hz
      have hb2 := hst.1
      have HB : Hid (256 * s + z < pw (i + 1)) := hst.2
      clear hz' hst
      go_wp2
      go_round
      case rel => exact ⟨i + 1, 256 * s + z, by omega, by go_num, rfl, by omega, HB, HP⟩
      case measure => simp [intOf]; omega
    · have e : Hid (getL zs x.toNat 1 0 0 = s) := by
        have := hp.out
        rw [getL_stop zs _ _ _ _ (by omega)] at this
        exact this.symm
      have hs2 : s < 256 := by
        obtain rfl : i = 1 := by omega
        exact hs1.out
      clear hp
      go_wp2
      go_ret2
      refine ⟨?_, gb_drewN (gb_refl _ _) _⟩
      rw [e.out]
      rfl

set_option maxHeartbeats 1000000 in
theorem get_u32 {w : World} {b g ps pages : Nat} {zs : List Int} (hA : IsA w b g ps pages zs) (x : Int) (ht : There ps zs.length x 4) :
    Calls Tryz.prog 205 #[.pointer (some ⟨b, 0, none⟩), .int .i64 x] w fun e w' => e = .returned (.tuple #[.int .u32 (getL zs x.toNat 4 0 0), .int .i64 0]) ∧ w.grownBy w' none := by
  have hbd := hA.bounds
  obtain ⟨t1, t2, t3, t4⟩ := ht
  have hmod := hA.mod x
  go_enter Tryz.func205, Tryz.ntmps205
  go_wp2_with (first | (go_at_call 206; refine (width_u32 _).mono ?_; rintro e w' ⟨rfl, rfl⟩) | (go_at_call 190; go_must (refine (hA.part_yes x 4 ⟨by omega, t2, t3, t4⟩).mono ?_); rintro e w' ⟨⟨o, rfl, ho⟩, q, rfl⟩))
  go_loop [8, 24] (fun r c => ∃ (i : Nat) (s : Int), i ≤ 4 ∧ c = .int .i64 i ∧ r = .int .u64 s ∧ 0 ≤ s ∧ Hid (s < pw i) ∧ Hid (getL zs x.toNat (4 - i) i s = getL zs x.toNat 4 0 0)) (fun _ c => 4 - (intOf c).toNat)
  case atStart => exact ⟨0, 0, by omega, rfl, rfl, by omega, (show (0 : Int) < 1 by decide), rfl⟩
  case round =>
    obtain ⟨i, s, hi, rfl, rfl, hs0, hs1, hp⟩ := hrel
    by_cases hlt : i < 4
    · have hcell := cell_of_vals hA.hg (x.toNat + i) (by omega)
      have hz := hA.hz (zs.getD (x.toNat + i) 0) (getD_mem (by omega))
      obtain ⟨z, hz'⟩ : ∃ z, z = zs.getD (x.toNat + i) 0 := ⟨_, rfl⟩
      have HP : Hid (getL zs x.toNat (4 - (i + 1)) (i + 1) (256 * s + z) = getL zs x.toNat 4 0 0) := by
        have := hp.out
        rw [getL_go zs _ _ _ _ hlt, ← hz'] at this
        exact this
      rw [← hz'] at hcell hz
      have hst := pow_step i s z (by omega) hs1.out hz.2
      have hor := or_u64 s z hs0 hst.1 hz
      have hb2 := hst.1
      have HB : Hid (256 * s + z < pw (i + 1)) := hst.2
      clear hz' hst
      go_wp2
      go_round
      case rel => exact ⟨i + 1, 256 * s + z, by omega, by go_num, rfl, by omega, HB, HP⟩
      case measure => simp [intOf]; omega
    · have e : Hid (getL zs x.toNat 4 0 0 = s) := by
        have := hp.out
        rw [getL_stop zs _ _ _ _ (by omega)] at this
        exact this.symm
      have hs2 : s < 4294967296 := by
        obtain rfl : i = 4 := by omega
        exact hs1.out
      clear hp
      go_wp2
      go_ret2
      refine ⟨?_, gb_drewN (gb_refl _ _) _⟩
      rw [e.out]
      rfl

end Go.Proofs.YtjkdflnnpdionaaGreat
/-
  Bytes of an item, as lists.
-/
namespace Go.Proofs.YtjkdflnnpdionaaGreat
open Go.RowKit
set_option linter.unusedVariables false

/-- A number in so many bytes, the highest first. -/
def be : Nat → Int → List Int
  | 0, _ => []
  | n + 1, v => be n (v / 256) ++ [v % 256]
theorem be_len : ∀ (n : Nat) (v : Int), (be n v).length = n
  | 0, _ => rfl
  | n + 1, v => by simp [be, be_len n]
theorem be_bytes : ∀ (n : Nat) (v : Int), isBytes (be n v)
  | 0, _ => by intro z h; simp [be] at h
  | n + 1, v => by
    intro z h
    simp only [be, List.mem_append, List.mem_singleton] at h
    rcases h with h | h
    · exact be_bytes n _ z h
    · subst h; omega
theorem be_fold : ∀ (n : Nat) (v s : Int), 0 ≤ v → v < pw n → (be n v).foldl (fun s z => 256 * s + z) s = s * pw n + v
  | 0, v, s, h0, h1 => by
    simp only [pw] at h1 ⊢
    have : v = 0 := by omega
    subst this
    simp [be]
  | n + 1, v, s, h0, h1 => by
    simp only [pw] at h1 ⊢
    simp only [be, List.foldl_append, List.foldl_cons, List.foldl_nil]
    rw [be_fold n (v / 256) s (by omega) (by omega)]
    have e : s * (256 * pw n) = 256 * (s * pw n) := by rw [← Int.mul_assoc, Int.mul_comm s 256, Int.mul_assoc]
    rw [e]
    omega

theorem getL_fold (us : List Int) : ∀ (k i : Nat) (x : Nat) (s : Int), x + i + k ≤ us.length → getL us x k i s = ((us.drop (x + i)).take k).foldl (fun s z => 256 * s + z) s
  | 0, i, x, s, h => by simp [getL]
  | k + 1, i, x, s, h => by
    rw [getL, getL_fold us k (i + 1) x _ (by omega)]
    have e : us.drop (x + i) = us[x + i]'(by omega) :: us.drop (x + i + 1) := List.drop_eq_getElem_cons (by omega)
    rw [e, List.take_succ_cons, List.foldl_cons, List.getD_eq_getElem?_getD, List.getElem?_eq_getElem (by omega)]
    rfl
theorem getL_cut (us : List Int) (x k : Nat) (h : x + k ≤ us.length) : getL us x k 0 0 = (cut us x k).foldl (fun s z => 256 * s + z) 0 := getL_fold us k 0 x 0 (by omega)
theorem be_val (n : Nat) (v : Int) (h0 : 0 ≤ v) (h1 : v < pw n) : (be n v).foldl (fun s z => 256 * s + z) 0 = v := by
  rw [be_fold n v 0 h0 h1]; omega

/-! Lists cut into pieces. -/
theorem split3 (zs : List Int) (pl n : Nat) (h : pl + n ≤ zs.length) : zs = zs.take pl ++ (cut zs pl n ++ zs.drop (pl + n)) := by
  rw [cut, ← List.drop_drop, List.take_append_drop, List.take_append_drop]
theorem lay_app (a b c ys : List Int) (x : Nat) (hx : x = a.length) (hy : ys.length = b.length) : lay (a ++ (b ++ c)) x ys = a ++ (ys ++ c) := by
  subst hx
  simp only [lay]
  rw [List.take_left, hy, List.append_assoc]
  congr 2
  rw [← List.append_assoc, ← List.length_append, List.drop_left]
theorem lay_sub (a b c ys : List Int) (x y : Nat) (hx : x = a.length + y) (hy : y + ys.length ≤ b.length) : lay (a ++ (b ++ c)) x ys = a ++ (lay b y ys ++ c) := by
  have e := split3 b y ys.length hy
  have e1 : lay (a ++ (b ++ c)) x ys = (a ++ b.take y) ++ (ys ++ (b.drop (y + ys.length) ++ c)) := by
    have h1 : a ++ (b ++ c) = (a ++ b.take y) ++ (cut b y ys.length ++ (b.drop (y + ys.length) ++ c)) := by
      conv => lhs; rw [e]
      simp only [List.append_assoc]
    rw [h1]
    refine lay_app _ _ _ _ _ ?_ ?_
    · simp; omega
    · simp [cut]; omega
  rw [e1, lay]
  simp only [List.append_assoc]
theorem lay_two (a b ys : List Int) (x : Nat) (hx : x = a.length) (hy : ys.length ≤ b.length) : lay (a ++ b) x ys = a ++ lay b 0 ys := by
  have := lay_sub a b [] ys x 0 (by omega) (by omega)
  simpa using this
theorem cut_app (a b c : List Int) (x n : Nat) (hx : x = a.length) (hn : n = b.length) : cut (a ++ (b ++ c)) x n = b := by
  subst hx hn
  simp [cut]
theorem cut_sub (a b c : List Int) (x y n : Nat) (hx : x = a.length + y) (hn : y + n ≤ b.length) : cut (a ++ (b ++ c)) x n = cut b y n := by
  have e := split3 b y n hn
  have h1 : a ++ (b ++ c) = (a ++ b.take y) ++ (cut b y n ++ (b.drop (y + n) ++ c)) := by
    conv => lhs; rw [e]
    simp only [List.append_assoc]
  rw [h1]
  refine cut_app _ _ _ _ _ ?_ ?_
  · simp; omega
  · simp [cut]; omega

theorem putL_lay : ∀ (k : Nat) (zs : List Int) (x : Nat) (v : Int), x + k ≤ zs.length → putL zs x k v = lay zs x (be k v)
  | 0, zs, x, v, h => by simp [putL, lay, be]
  | k + 1, zs, x, v, h => by
    rw [putL, putL_lay k _ x _ (by simp; omega)]
    have e := split3 zs x k (by omega)
    have hd : zs.drop (x + k) = zs[x + k]'(by omega) :: zs.drop (x + k + 1) := List.drop_eq_getElem_cons (by omega)
    have e1 : zs.set (x + k) (v % 256) = zs.take x ++ (cut zs x k ++ (v % 256 :: zs.drop (x + k + 1))) := by
      conv => lhs; rw [e, hd]
      rw [← List.append_assoc, List.set_append_right _ _ (by simp [cut]; omega), List.append_assoc]
      congr 2
      have : x + k - (zs.take x ++ cut zs x k).length = 0 := by simp [cut]; omega
      rw [this]; rfl
    have l1 : (cut zs x k).length = k := by simp [cut]; omega
    rw [e1, lay_app _ _ _ _ _ (by simp; omega) (by rw [be_len, l1])]
    have e2 : zs = zs.take x ++ ((cut zs x k ++ [zs[x + k]'(by omega)]) ++ zs.drop (x + k + 1)) := by
      conv => lhs; rw [e, hd]
      simp
    conv => rhs; rw [e2]
    rw [lay_app _ _ _ _ _ (by simp; omega) (by simp [be_len, l1])]
    simp [be]

/-- Bytes lie at a place. -/
structure Lies (zs : List Int) (pl : Nat) (bs : List Int) : Prop where
  eq : cut zs pl bs.length = bs
  le : pl + bs.length ≤ zs.length
theorem Lies.app {zs : List Int} {pl : Nat} {bs : List Int} (h : Lies zs pl bs) : zs = zs.take pl ++ (bs ++ zs.drop (pl + bs.length)) ∧ (zs.take pl).length = pl := by
  have h1 := split3 zs pl bs.length h.le
  rw [h.eq] at h1
  have := h.le
  exact ⟨h1, by simp; omega⟩
theorem lies_lay {zs : List Int} {pl : Nat} {bs : List Int} (h : pl + bs.length ≤ zs.length) : Lies (lay zs pl bs) pl bs := by
  refine ⟨?_, by rw [length_lay h]; exact h⟩
  rw [lay, List.append_assoc]
  exact cut_app _ _ _ _ _ (by simp; omega) rfl
theorem lay_same {zs : List Int} {pl : Nat} {bs : List Int} (h : Lies zs pl bs) : lay zs pl bs = zs := by
  obtain ⟨h1, h2⟩ := h.app
  rw [lay, List.append_assoc]
  exact h1.symm
theorem lay_lay (zs : List Int) (pl : Nat) (a b : List Int) (h : pl + a.length ≤ zs.length) (hl : b.length = a.length) : lay (lay zs pl a) pl b = lay zs pl b := by
  conv => lhs; arg 1; rw [lay, List.append_assoc]
  rw [lay_app _ _ _ _ _ (by simp; omega) hl, lay, hl, List.append_assoc]
/-- A part of what lies is laid over. -/
theorem lay_part (zs : List Int) (pl : Nat) (bs : List Int) (h : pl + bs.length ≤ zs.length) (x : Nat) (ys : List Int) (hx : x + ys.length ≤ bs.length) : lay (lay zs pl bs) (pl + x) ys = lay zs pl (lay bs x ys) := by
  conv => lhs; arg 1; rw [lay, List.append_assoc]
  rw [lay_sub _ _ _ _ _ x (by simp; omega) hx]
  conv => rhs; rw [lay, length_lay hx, List.append_assoc]
theorem Lies.part {zs : List Int} {pl : Nat} {bs : List Int} (h : Lies zs pl bs) (x : Nat) (ys : List Int) (hx : x + ys.length ≤ bs.length) : lay zs (pl + x) ys = lay zs pl (lay bs x ys) := by
  have := lay_part zs pl bs h.le x ys hx
  rwa [lay_same h] at this
theorem Lies.cutE {zs : List Int} {pl : Nat} {bs : List Int} (h : Lies zs pl bs) (x n : Nat) (hx : x + n ≤ bs.length) : cut zs (pl + x) n = cut bs x n := by
  obtain ⟨h1, h2⟩ := h.app
  conv => lhs; rw [h1]
  exact cut_sub _ _ _ _ _ _ (by rw [h2]) hx
theorem cut_far (zs : List Int) (pl : Nat) (bs : List Int) (h : pl + bs.length ≤ zs.length) (x n : Nat) (hx : x + n ≤ pl ∨ pl + bs.length ≤ x) : cut (lay zs pl bs) x n = cut zs x n := by
  rcases hx with hx | hx
  · have e := split3 (zs.take pl) x n (by simp; omega)
    have l1 : (cut (zs.take pl) x n).length = n := by simp [cut]; omega
    have l2 : ((zs.take pl).take x).length = x := by simp; omega
    rw [lay, List.append_assoc]
    conv => lhs; arg 1; arg 1; rw [e]
    conv => rhs; arg 1; rw [← List.take_append_drop pl zs]; arg 1; rw [e]
    simp only [List.append_assoc]
    rw [cut_app _ _ _ _ _ l2.symm l1.symm, cut_app _ _ _ _ _ l2.symm l1.symm]
  · simp only [cut]
    congr 1
    rw [lay, List.drop_append, List.drop_eq_nil_of_le (by simp; omega), List.nil_append, List.drop_drop]
    congr 1
    simp; omega

/-- The numbers of the pieces' lengths. -/
def lens (L : List (List Int)) : List Nat := L.map List.length
theorem lens_flat : ∀ L : List (List Int), L.flatten.length = (lens L).sum
  | [] => rfl
  | a :: L => by simp [lens]
theorem lay_seg : ∀ (L : List (List Int)) (i : Nat) (s ys : List Int), L[i]? = some s → ys.length = s.length → lay L.flatten ((lens L).take i).sum ys = (L.set i ys).flatten
  | [], i, s, ys, h, _ => by simp at h
  | a :: L, 0, s, ys, h, hl => by
    simp at h
    subst h
    have := lay_app [] a L.flatten ys 0 rfl hl
    simpa using this
  | a :: L, i + 1, s, ys, h, hl => by
    simp only [List.getElem?_cons_succ] at h
    have ih := lay_seg L i s ys h hl
    have hlt : i < L.length := (List.getElem?_eq_some_iff.1 h).1
    have hle : ((lens L).take i).sum + ys.length ≤ L.flatten.length := by
      rw [lens_flat]
      have h1 : (lens L) = (lens L).take i ++ (lens L).drop i := (List.take_append_drop _ _).symm
      have h2 : (lens L).drop i = s.length :: (lens L).drop (i + 1) := by
        rw [List.drop_eq_getElem_cons (by simp [lens]; exact hlt)]
        congr 1
        simp only [lens, List.getElem_map]
        congr 1
        exact (List.getElem?_eq_some_iff.1 h).2
      conv => rhs; rw [h1, h2]
      simp; omega
    have := lay_sub a L.flatten [] ys (a.length + ((lens L).take i).sum) _ rfl hle
    simp only [List.append_nil] at this
    simp only [lens, List.map_cons, List.take_succ_cons, List.sum_cons, List.flatten_cons, List.set_cons_succ]
    simp only [lens] at ih this
    rw [this, ih]
theorem cut_seg : ∀ (L : List (List Int)) (i : Nat) (s : List Int), L[i]? = some s → cut L.flatten ((lens L).take i).sum s.length = s
  | [], i, s, h => by simp at h
  | a :: L, 0, s, h => by
    simp at h
    subst h
    have := cut_app [] a L.flatten 0 a.length rfl rfl
    simpa using this
  | a :: L, i + 1, s, h => by
    simp only [List.getElem?_cons_succ] at h
    have ih := cut_seg L i s h
    have hlt : i < L.length := (List.getElem?_eq_some_iff.1 h).1
    simp only [lens, List.map_cons, List.take_succ_cons, List.sum_cons, List.flatten_cons]
    simp only [lens] at ih
    have hd : ∀ (u v : List Int) (x n : Nat), cut (u ++ v) (u.length + x) n = cut v x n := by
      intro u v x n
      simp [cut, ← List.drop_drop]
    rw [hd, ih]
/-- Bytes in pieces. -/
def pieces : List Nat → List Int → List (List Int)
  | [], _ => []
  | n :: ns, zs => zs.take n :: pieces ns (zs.drop n)
theorem pieces_lens : ∀ (ns : List Nat) (zs : List Int), ns.sum ≤ zs.length → lens (pieces ns zs) = ns
  | [], _, _ => rfl
  | n :: ns, zs, h => by
    simp only [List.sum_cons] at h
    have := pieces_lens ns (zs.drop n) (by simp; omega)
    simp only [lens] at this
    simp only [lens, pieces, List.map_cons, this]
    congr 1
    simp; omega
theorem pieces_flat : ∀ (ns : List Nat) (zs : List Int), zs.length = ns.sum → (pieces ns zs).flatten = zs
  | [], zs, h => by simp at h; simp [pieces, h]
  | n :: ns, zs, h => by
    simp only [List.sum_cons] at h
    simp only [pieces, List.flatten_cons]
    rw [pieces_flat ns _ (by simp; omega), List.take_append_drop]
theorem lies_pieces (zs : List Int) (pl : Nat) (ns : List Nat) (h : pl + ns.sum ≤ zs.length) : Lies zs pl (pieces ns (cut zs pl ns.sum)).flatten := by
  have l1 : (cut zs pl ns.sum).length = ns.sum := by simp [cut]; omega
  rw [pieces_flat ns _ l1]
  exact ⟨by rw [l1], by rw [l1]; exact h⟩

end Go.Proofs.YtjkdflnnpdionaaGreat
/-
  Lend, Intact, Copy.
-/
namespace Go.Proofs.YtjkdflnnpdionaaGreat
open Go.RowKit
set_option linter.unusedVariables false

theorem run_make_room (N : Nat) (h : N ≤ 281474976710656) (w : World) : (Instr.makeSlice 60 (.int .i64 0) (.int .i64 N)).run Tryz.prog w = .ok (.slice (some ⟨w.heap.size, 0, none⟩) 0 N) (w.alloc (.cells (vals (List.replicate N 0)) 5)) := by
  obtain ⟨i0, hi, hz0, hz1, hz2⟩ := info_parts Tryz.info5
  have := run_make (P := Tryz.prog) w 60 5 i0 (.int .u8 0) Tryz.underlying60 hi hz0 .i64 .i64 0 N (by omega) (by omega) (by rw [hz2]; omega) (by omega)
  rw [this, hz1]
  simp [made_zeros]
theorem Own.made (B : Nat) (w : World) (N : Nat) (hB : B ≤ w.heap.size) (hN : N ≤ 281474976710656) : Own B (w.alloc (.cells (vals (List.replicate N 0)) 5)) (some ⟨w.heap.size, 0, none⟩) N [] :=
  World.ownsRow_made w _ N hB (by unfold maxLen; omega) (by simp [vals])
theorem Own.shape {B : Nat} {w : World} {ao : Option Addr} {cap : Nat} {us : List Int} (h : Own B w ao cap us) (hn : 0 < us.length) : ∃ g, ao = some ⟨g, 0, none⟩ ∧ B ≤ g ∧ us.length ≤ cap ∧ cap ≤ maxLen := by
  rcases h.2 with ⟨h1, h2⟩ | ⟨g, c, cur, h1, h2, h3, h4, h5, h6⟩
  · omega
  · simp only [Value.slice.injEq] at h1
    obtain ⟨rfl, _, rfl⟩ := h1
    exact ⟨g, rfl, h2, h4, h5⟩
/-- A part of what a slice holds. -/
theorem Has.piece {w : World} {g n : Nat} {ys : List Int} (h : Has w (some ⟨g, 0, none⟩) n ys) (x k o : Nat) (hx : x + k ≤ n) (ho : 0 < k → o = x) : Has w (some ⟨g, o, none⟩) k (cut ys x k) := by
  refine ⟨length_cut (by rw [h.1]; exact hx), fun hk => ⟨g, o, rfl, fun i hi => ?_⟩⟩
  obtain ⟨b', o', e1, e2⟩ := h.2 (by omega)
  cases e1
  rw [getD_cut hi, ho hk]
  have := e2 (x + i) (by omega)
  rw [Nat.zero_add] at this
  exact this


def marksTo (k : Nat) : List Int := (List.range k).map fun (i : Nat) => 165 - (i : Int)
theorem marksTo_succ (k : Nat) : marksTo (k + 1) = marksTo k ++ [165 - (k : Int)] := by simp [marksTo, List.range_succ]
theorem length_marksTo (k : Nat) : (marksTo k).length = k := by simp [marksTo]
theorem getD_marksTo (k i : Nat) (h : i < k) : (marksTo k).getD i 0 = 165 - (i : Int) := by simp [marksTo, List.getD, h]

theorem getD_right {xs ys : List Int} {i : Nat} : (xs ++ ys).getD (xs.length + i) 0 = ys.getD i 0 := by
  simp [List.getD, List.getElem?_append_right]

end Go.Proofs.YtjkdflnnpdionaaGreat
/-
  A chunk: open, get, put.
-/
namespace Go.Proofs.YtjkdflnnpdionaaGreat
open Go.RowKit
set_option linter.unusedVariables false

/-- A chunk, as a value. -/
def chV (ab pl c s : Nat) : Value := .agg #[.pointer (some ⟨ab, 0, none⟩), .int .i64 pl, .int .i64 c, .int .i64 s]
def chC (ab pl c s : Nat) : Obj := .cells #[.pointer (some ⟨ab, 0, none⟩), .int .i64 pl, .int .i64 c, .int .i64 s] 217

section
variable {w : World} {sb : Nat} {F : Nat → Prop} {B : Bl} {b c d e f g : Int} {A : Ab} {zs : List Int}

set_option maxRecDepth 100000 in
theorem open_yes (h : IsS w sb F B b c d e f g A zs) (hA : Fit2 A) {H p k : Nat} (hH : IsH A H p k) :
    Calls Tryz.prog 141 #[.pointer (some ⟨sb, 0, none⟩), .int .u64 H] w fun y w' => y = .returned (.tuple #[chV B.ab (A.place p k) (A.own p) (A.sz (A.own p)), .int .i64 0]) ∧ w.grownBy w' none := by
  have ho := hA.on p hH.hp
  have hal := World.grownBy_alloc w (.cells #[.pointer none, .int .i64 0, .int .i64 0, .int .i64 0] 217) none
  have h0 := h.kept0 hal
  have h1 := at_yes h0 hA hH
  have h2 := fun w1 (hf : (w.alloc (.cells #[.pointer none, .int .i64 0, .int .i64 0, .int .i64 0] 217)).grownBy w1 none) => arena_39 (h0.kept0 hf)
  have h3 := fun w1 (hf : (w.alloc (.cells #[.pointer none, .int .i64 0, .int .i64 0, .int .i64 0] 217)).grownBy w1 none) => chunk_yes (h0.kept0 hf) hA.toSzs (A.own p) ho
  have hbx := Box.new w 217 #[.pointer none, .int .i64 0, .int .i64 0, .int .i64 0]
  unfold chV
  clear h hH h0
  generalize A.place p k = pl at *
  generalize A.sz (A.own p) = s at *
  generalize A.own p = op at *
  generalize B.ab = ab at *
  go_enter Tryz.func141, Tryz.ntmps141
  go_wp2_with (first | (go_at_call 82; go_must (refine h1.mono ?_); rintro y w1 ⟨rfl, hf1⟩) | (go_at_call 83; go_must (refine (h2 _ hf1).mono ?_); rintro y w' ⟨rfl, rfl⟩) | (go_at_call 185; go_must (refine (h3 _ hf1).mono ?_); rintro y w2 ⟨rfl, hf2⟩; (have hb2 := (hbx.kept hf1 (by simp)).kept hf2 (by simp)); (have z0 := hb2.cell 0); (have z1 := hb2.cell 1); (have z2 := hb2.cell 2); (have z3 := hb2.cell 3); simp at z0 z1 z2 z3; (have y0 := hb2.fz 0); (have y1 := hb2.fz 1); (have y2 := hb2.fz 2); (have y3 := hb2.fz 3)) | fail)
  have hF : w.grownBy ((((w2.setCell ⟨w.heap.size, 0, none⟩ (.pointer (some ⟨ab, 0, none⟩))).setCell ⟨w.heap.size, 1, none⟩ (.int .i64 pl)).setCell ⟨w.heap.size, 2, none⟩ (.int .i64 op)).setCell ⟨w.heap.size, 3, none⟩ (.int .i64 s)) none := gb_mine (gb_trans (gb_trans hal hf1) hf2) (gb_setCell (gb_setCell (gb_setCell (gb_setCell (gb_refl _ _) _) _) _) _) (Nat.le_refl _)
  have hb3 := (((hb2.set 0 (.pointer (some ⟨ab, 0, none⟩))).set 1 (.int .i64 pl)).set 2 (.int .i64 op)).set 3 (.int .i64 s)
  generalize ((((w2.setCell ⟨w.heap.size, 0, none⟩ (.pointer (some ⟨ab, 0, none⟩))).setCell ⟨w.heap.size, 1, none⟩ (.int .i64 pl)).setCell ⟨w.heap.size, 2, none⟩ (.int .i64 op)).setCell ⟨w.heap.size, 3, none⟩ (.int .i64 s)) = V at *
  have x0 := hb3.cell 0
  have x1 := hb3.cell 1
  have x2 := hb3.cell 2
  have x3 := hb3.cell 3
  simp at x0 x1 x2 x3
  exact bodyPost_ret (v := .tuple #[.agg #[.pointer (some ⟨ab, 0, none⟩), .int .i64 pl, .int .i64 op, .int .i64 s], .int .i64 0]) (by simp [results, Tryz.results141, go_sem, x0, x1, x2, x3]) rfl ⟨rfl, hF⟩

set_option maxRecDepth 100000 in
theorem open_no (h : IsS w sb F B b c d e f g A zs) (hA : Fit2 A) {H : Nat} (h64 : H < 18446744073709551616) (hH : ∀ p k, ¬ IsH A H p k) :
    Calls Tryz.prog 141 #[.pointer (some ⟨sb, 0, none⟩), .int .u64 H] w fun y w' => y = .returned (.tuple #[.agg #[.pointer none, .int .i64 0, .int .i64 0, .int .i64 0], .int .i64 20]) ∧ w.grownBy w' none := by
  have hal := World.grownBy_alloc w (.cells #[.pointer none, .int .i64 0, .int .i64 0, .int .i64 0] 217) none
  have h1 := at_no (h.kept0 hal) hA h64 hH
  have hbx := Box.new w 217 #[.pointer none, .int .i64 0, .int .i64 0, .int .i64 0]
  clear h hH
  go_enter Tryz.func141, Tryz.ntmps141
  go_wp2_with (first | (go_at_call 82; go_must (refine h1.mono ?_); rintro y w1 ⟨rfl, hf1⟩; (have hb2 := (hbx.kept hf1 (by simp))); (have z0 := hb2.cell 0); (have z1 := hb2.cell 1); (have z2 := hb2.cell 2); (have z3 := hb2.cell 3); simp at z0 z1 z2 z3; (have y0 := hb2.fz 0); (have y1 := hb2.fz 1); (have y2 := hb2.fz 2); (have y3 := hb2.fz 3)) | fail)
  have hF : w.grownBy ((((w1.setCell ⟨w.heap.size, 0, none⟩ (.pointer none)).setCell ⟨w.heap.size, 1, none⟩ (.int .i64 0)).setCell ⟨w.heap.size, 2, none⟩ (.int .i64 0)).setCell ⟨w.heap.size, 3, none⟩ (.int .i64 0)) none := gb_mine (gb_trans hal hf1) (gb_setCell (gb_setCell (gb_setCell (gb_setCell (gb_refl _ _) _) _) _) _) (Nat.le_refl _)
  have hb3 := (((hb2.set 0 (.pointer none)).set 1 (.int .i64 0)).set 2 (.int .i64 0)).set 3 (.int .i64 0)
  generalize ((((w1.setCell ⟨w.heap.size, 0, none⟩ (.pointer none)).setCell ⟨w.heap.size, 1, none⟩ (.int .i64 0)).setCell ⟨w.heap.size, 2, none⟩ (.int .i64 0)).setCell ⟨w.heap.size, 3, none⟩ (.int .i64 0)) = V at *
  have x0 := hb3.cell 0
  have x1 := hb3.cell 1
  have x2 := hb3.cell 2
  have x3 := hb3.cell 3
  simp at x0 x1 x2 x3
  exact bodyPost_ret (v := .tuple #[.agg #[.pointer none, .int .i64 0, .int .i64 0, .int .i64 0], .int .i64 20]) (by simp [results, Tryz.results141, go_sem, x0, x1, x2, x3]) rfl ⟨rfl, hF⟩

set_option maxRecDepth 100000 in
theorem open_nil (H : Int) (w : World) :
    Calls Tryz.prog 141 #[.pointer none, .int .u64 H] w fun y w' => y = .returned (.tuple #[.agg #[.pointer none, .int .i64 0, .int .i64 0, .int .i64 0], .int .i64 1]) ∧ w.grownBy w' none := by
  have hal := World.grownBy_alloc w (.cells #[.pointer none, .int .i64 0, .int .i64 0, .int .i64 0] 217) none
  have hb2 := Box.new w 217 #[.pointer none, .int .i64 0, .int .i64 0, .int .i64 0]
  have z0 := hb2.cell 0
  have z1 := hb2.cell 1
  have z2 := hb2.cell 2
  have z3 := hb2.cell 3
  simp at z0 z1 z2 z3
  go_enter Tryz.func141, Tryz.ntmps141
  go_wp2
  refine bodyPost_ret (v := .tuple #[.agg #[.pointer none, .int .i64 0, .int .i64 0, .int .i64 0], .int .i64 1]) (by simp [results, Tryz.results141, go_sem]) rfl ⟨rfl, ?_⟩
  first | exact hal | exact gb_mine hal (gb_setCell (gb_setCell (gb_setCell (gb_setCell (gb_refl _ _) _) _) _) _) (Nat.le_refl _) | skip
end

end Go.Proofs.YtjkdflnnpdionaaGreat
/-
  A chunk's numbers and bytes.
-/
namespace Go.Proofs.YtjkdflnnpdionaaGreat
open Go.RowKit
set_option linter.unusedVariables false

section
variable {w : World} {ab ag ps m : Nat} {zs : List Int}
theorem IsA.kept0 (h : IsA w ab ag ps m zs) {w' : World} (hf : w.grownBy w' none) : IsA w' ab ag ps m zs := h.kept hf (by simp) (by simp)

theorem iget_u8 (h : IsA w ab ag ps m zs) (pl c s at_ : Nat) (hb : pl ≤ 1073741824 ∧ at_ ≤ 1073741824) (ht : There ps zs.length ((pl + at_ : Nat) : Int) 1) :
    Calls Tryz.prog 204 #[chV ab pl c s, .int .i64 at_] w fun y w' => y = .returned (.int .u8 (getL zs (pl + at_) 1 0 0)) ∧ w.grownBy w' none := by
  have hal := World.grownBy_alloc w (.cells #[.pointer (some ⟨ab, 0, none⟩), .int .i64 pl, .int .i64 c, .int .i64 s] 217) none
  have hg := get_u8 (h.kept0 hal) ((pl + at_ : Nat) : Int) ht
  rw [Int.toNat_natCast, show ((pl + at_ : Nat) : Int) = (pl : Int) + at_ by omega] at hg
  generalize getL zs (pl + at_) 1 0 0 = v at *
  clear h ht
  unfold chV
  go_enter Tryz.func204, Tryz.ntmps204
  go_wp2_with (first | (go_at_call 217; go_must (refine hg.mono ?_); rintro y w1 ⟨rfl, hf⟩) | fail)
  go_ret
  exact ⟨rfl, gb_trans hal hf⟩

theorem iget_u32 (h : IsA w ab ag ps m zs) (pl c s at_ : Nat) (hb : pl ≤ 1073741824 ∧ at_ ≤ 1073741824) (ht : There ps zs.length ((pl + at_ : Nat) : Int) 4) :
    Calls Tryz.prog 180 #[chV ab pl c s, .int .i64 at_] w fun y w' => y = .returned (.int .u32 (getL zs (pl + at_) 4 0 0)) ∧ w.grownBy w' none := by
  have hal := World.grownBy_alloc w (.cells #[.pointer (some ⟨ab, 0, none⟩), .int .i64 pl, .int .i64 c, .int .i64 s] 217) none
  have hg := get_u32 (h.kept0 hal) ((pl + at_ : Nat) : Int) ht
  rw [Int.toNat_natCast, show ((pl + at_ : Nat) : Int) = (pl : Int) + at_ by omega] at hg
  generalize getL zs (pl + at_) 4 0 0 = v at *
  clear h ht
  unfold chV
  go_enter Tryz.func180, Tryz.ntmps180
  go_wp2_with (first | (go_at_call 205; go_must (refine hg.mono ?_); rintro y w1 ⟨rfl, hf⟩) | fail)
  go_ret
  exact ⟨rfl, gb_trans hal hf⟩

theorem iput_u8 (h : IsA w ab ag ps m zs) (pl c s at_ : Nat) (v : Int) (hv : 0 ≤ v ∧ v < 256) (hb : pl ≤ 1073741824 ∧ at_ ≤ 1073741824) (ht : There ps zs.length ((pl + at_ : Nat) : Int) 1) :
    Calls Tryz.prog 148 #[chV ab pl c s, .int .i64 at_, .int .u8 v] w fun y w' => y = .returned (.tuple #[]) ∧ w.grownBy w' (some ag) ∧ IsA w' ab ag ps m (lay zs (pl + at_) (be 1 v)) := by
  have hal := World.grownBy_alloc w (.cells #[.pointer (some ⟨ab, 0, none⟩), .int .i64 pl, .int .i64 c, .int .i64 s] 217) none
  have h0 := h.kept0 hal
  have hle : pl + at_ + 1 ≤ zs.length := by
    obtain ⟨t1, t2, t3, t4⟩ := ht
    omega
  have hg := (put_u8 h0 ((pl + at_ : Nat) : Int) v hv ht).mono (R' := fun e w' => e = .returned (.int .i64 0) ∧ w.grownBy w' (some ag) ∧ IsA w' ab ag ps m (lay zs (pl + at_) (be 1 v))) (by
    rintro y w' ⟨rfl, hf, hc⟩
    rw [Int.toNat_natCast] at hc
    have h1 := h0.turned hf hc (length_putL _ _ _ _) (putL_mem _ _ _ _ h0.hz)
    rw [putL_lay _ _ _ _ hle] at h1
    exact ⟨rfl, gb_trans (gb_none (some ag) hal) hf, h1⟩)
  rw [show ((pl + at_ : Nat) : Int) = (pl : Int) + at_ by omega] at hg
  generalize lay zs (pl + at_) (be 1 v) = us at *
  clear h ht h0
  unfold chV
  go_enter Tryz.func148, Tryz.ntmps148
  go_wp2_with (first | (go_at_call 192; go_must (refine hg.mono ?_); rintro y w1 ⟨rfl, hf, hA1⟩) | fail)
  go_end0
  exact ⟨rfl, hf, hA1⟩

theorem iput_u16 (h : IsA w ab ag ps m zs) (pl c s at_ : Nat) (v : Int) (hv : 0 ≤ v ∧ v < 65536) (hb : pl ≤ 1073741824 ∧ at_ ≤ 1073741824) (ht : There ps zs.length ((pl + at_ : Nat) : Int) 2) :
    Calls Tryz.prog 194 #[chV ab pl c s, .int .i64 at_, .int .u16 v] w fun y w' => y = .returned (.tuple #[]) ∧ w.grownBy w' (some ag) ∧ IsA w' ab ag ps m (lay zs (pl + at_) (be 2 v)) := by
  have hal := World.grownBy_alloc w (.cells #[.pointer (some ⟨ab, 0, none⟩), .int .i64 pl, .int .i64 c, .int .i64 s] 217) none
  have h0 := h.kept0 hal
  have hle : pl + at_ + 2 ≤ zs.length := by
    obtain ⟨t1, t2, t3, t4⟩ := ht
    omega
  have hg := (put_u16 h0 ((pl + at_ : Nat) : Int) v hv ht).mono (R' := fun e w' => e = .returned (.int .i64 0) ∧ w.grownBy w' (some ag) ∧ IsA w' ab ag ps m (lay zs (pl + at_) (be 2 v))) (by
    rintro y w' ⟨rfl, hf, hc⟩
    rw [Int.toNat_natCast] at hc
    have h1 := h0.turned hf hc (length_putL _ _ _ _) (putL_mem _ _ _ _ h0.hz)
    rw [putL_lay _ _ _ _ hle] at h1
    exact ⟨rfl, gb_trans (gb_none (some ag) hal) hf, h1⟩)
  rw [show ((pl + at_ : Nat) : Int) = (pl : Int) + at_ by omega] at hg
  generalize lay zs (pl + at_) (be 2 v) = us at *
  clear h ht h0
  unfold chV
  go_enter Tryz.func194, Tryz.ntmps194
  go_wp2_with (first | (go_at_call 210; go_must (refine hg.mono ?_); rintro y w1 ⟨rfl, hf, hA1⟩) | fail)
  go_end0
  exact ⟨rfl, hf, hA1⟩

theorem iput_u32 (h : IsA w ab ag ps m zs) (pl c s at_ : Nat) (v : Int) (hv : 0 ≤ v ∧ v < 4294967296) (hb : pl ≤ 1073741824 ∧ at_ ≤ 1073741824) (ht : There ps zs.length ((pl + at_ : Nat) : Int) 4) :
    Calls Tryz.prog 147 #[chV ab pl c s, .int .i64 at_, .int .u32 v] w fun y w' => y = .returned (.tuple #[]) ∧ w.grownBy w' (some ag) ∧ IsA w' ab ag ps m (lay zs (pl + at_) (be 4 v)) := by
  have hal := World.grownBy_alloc w (.cells #[.pointer (some ⟨ab, 0, none⟩), .int .i64 pl, .int .i64 c, .int .i64 s] 217) none
  have h0 := h.kept0 hal
  have hle : pl + at_ + 4 ≤ zs.length := by
    obtain ⟨t1, t2, t3, t4⟩ := ht
    omega
  have hg := (put_u32 h0 ((pl + at_ : Nat) : Int) v hv ht).mono (R' := fun e w' => e = .returned (.int .i64 0) ∧ w.grownBy w' (some ag) ∧ IsA w' ab ag ps m (lay zs (pl + at_) (be 4 v))) (by
    rintro y w' ⟨rfl, hf, hc⟩
    rw [Int.toNat_natCast] at hc
    have h1 := h0.turned hf hc (length_putL _ _ _ _) (putL_mem _ _ _ _ h0.hz)
    rw [putL_lay _ _ _ _ hle] at h1
    exact ⟨rfl, gb_trans (gb_none (some ag) hal) hf, h1⟩)
  rw [show ((pl + at_ : Nat) : Int) = (pl : Int) + at_ by omega] at hg
  generalize lay zs (pl + at_) (be 4 v) = us at *
  clear h ht h0
  unfold chV
  go_enter Tryz.func147, Tryz.ntmps147
  go_wp2_with (first | (go_at_call 184; go_must (refine hg.mono ?_); rintro y w1 ⟨rfl, hf, hA1⟩) | fail)
  go_end0
  exact ⟨rfl, hf, hA1⟩

theorem iput_u64 (h : IsA w ab ag ps m zs) (pl c s at_ : Nat) (v : Int) (hv : 0 ≤ v ∧ v < 18446744073709551616) (hb : pl ≤ 1073741824 ∧ at_ ≤ 1073741824) (ht : There ps zs.length ((pl + at_ : Nat) : Int) 8) :
    Calls Tryz.prog 146 #[chV ab pl c s, .int .i64 at_, .int .u64 v] w fun y w' => y = .returned (.tuple #[]) ∧ w.grownBy w' (some ag) ∧ IsA w' ab ag ps m (lay zs (pl + at_) (be 8 v)) := by
  have hal := World.grownBy_alloc w (.cells #[.pointer (some ⟨ab, 0, none⟩), .int .i64 pl, .int .i64 c, .int .i64 s] 217) none
  have h0 := h.kept0 hal
  have hle : pl + at_ + 8 ≤ zs.length := by
    obtain ⟨t1, t2, t3, t4⟩ := ht
    omega
  have hg := (put_u64 h0 ((pl + at_ : Nat) : Int) v hv ht).mono (R' := fun e w' => e = .returned (.int .i64 0) ∧ w.grownBy w' (some ag) ∧ IsA w' ab ag ps m (lay zs (pl + at_) (be 8 v))) (by
    rintro y w' ⟨rfl, hf, hc⟩
    rw [Int.toNat_natCast] at hc
    have h1 := h0.turned hf hc (length_putL _ _ _ _) (putL_mem _ _ _ _ h0.hz)
    rw [putL_lay _ _ _ _ hle] at h1
    exact ⟨rfl, gb_trans (gb_none (some ag) hal) hf, h1⟩)
  rw [show ((pl + at_ : Nat) : Int) = (pl : Int) + at_ by omega] at hg
  generalize lay zs (pl + at_) (be 8 v) = us at *
  clear h ht h0
  unfold chV
  go_enter Tryz.func146, Tryz.ntmps146
  go_wp2_with (first | (go_at_call 191; go_must (refine hg.mono ?_); rintro y w1 ⟨rfl, hf, hA1⟩) | fail)
  go_end0
  exact ⟨rfl, hf, hA1⟩

theorem keyLength_any (h : IsA w ab ag ps m zs) (pl c s : Nat) (hb : pl ≤ 1073741824) (ht : There ps zs.length ((pl + 44 : Nat) : Int) 1) (kl : Nat) (hkl : Hid (getL zs (pl + 44) 1 0 0 = kl)) (hk2 : kl < 256) :
    Calls Tryz.prog 195 #[chV ab pl c s] w fun y w' => y = .returned (.int .i64 kl) ∧ w.grownBy w' none := by
  have hal := World.grownBy_alloc w (.cells #[.pointer (some ⟨ab, 0, none⟩), .int .i64 pl, .int .i64 c, .int .i64 s] 217) none
  have hg := iget_u8 (h.kept0 hal) pl c s 44 (by omega) ht
  rw [hkl.out] at hg
  clear h ht hkl
  unfold chV at hg ⊢
  go_enter Tryz.func195, Tryz.ntmps195
  go_wp2_with (first | (go_at_call 204; go_must (refine hg.mono ?_); rintro y w1 ⟨rfl, hf⟩) | fail)
  go_ret
  exact ⟨rfl, gb_trans hal hf⟩
theorem hasItem_any (h : IsA w ab ag ps m zs) (pl c s : Nat) (hb : pl ≤ 1073741824) (ht : There ps zs.length ((pl + 44 : Nat) : Int) 1) (kl : Nat) (hkl : Hid (getL zs (pl + 44) 1 0 0 = kl)) (hk2 : kl < 256) :
    Calls Tryz.prog 182 #[chV ab pl c s] w fun y w' => y = .returned (.bool (decide (0 < kl))) ∧ w.grownBy w' none := by
  have hal := World.grownBy_alloc w (.cells #[.pointer (some ⟨ab, 0, none⟩), .int .i64 pl, .int .i64 c, .int .i64 s] 217) none
  have hg := keyLength_any (h.kept0 hal) pl c s hb ht kl hkl hk2
  clear h ht hkl
  unfold chV at hg ⊢
  go_enter Tryz.func182, Tryz.ntmps182
  go_wp2_with (first | (go_at_call 195; go_must (refine hg.mono ?_); rintro y w1 ⟨rfl, hf⟩) | fail)
  go_ret
  refine ⟨?_, gb_trans hal hf⟩
  have e : decide ((0 : Int) < kl) = decide (0 < kl) := by simp
  first | rfl | (rw [e]) | (simp)
theorem valueLength_any (h : IsA w ab ag ps m zs) (pl c s : Nat) (hb : pl ≤ 1073741824) (ht : There ps zs.length ((pl + 48 : Nat) : Int) 4) (vl : Nat) (hkl : Hid (getL zs (pl + 48) 4 0 0 = vl)) (hk2 : vl < 4294967296) :
    Calls Tryz.prog 196 #[chV ab pl c s] w fun y w' => y = .returned (.int .i64 vl) ∧ w.grownBy w' none := by
  have hal := World.grownBy_alloc w (.cells #[.pointer (some ⟨ab, 0, none⟩), .int .i64 pl, .int .i64 c, .int .i64 s] 217) none
  have hg := iget_u32 (h.kept0 hal) pl c s 48 (by omega) ht
  rw [hkl.out] at hg
  clear h ht hkl
  unfold chV at hg ⊢
  go_enter Tryz.func196, Tryz.ntmps196
  go_wp2_with (first | (go_at_call 180; go_must (refine hg.mono ?_); rintro y w1 ⟨rfl, hf⟩) | fail)
  go_ret
  exact ⟨rfl, gb_trans hal hf⟩
end

end Go.Proofs.YtjkdflnnpdionaaGreat
/-
  Pieces of a chunk laid over.
-/
namespace Go.Proofs.YtjkdflnnpdionaaGreat
open Go.RowKit
set_option linter.unusedVariables false

theorem Has.kept {w w' : World} {a : Option Addr} {n : Nat} {ys : List Int} (h : Has w a n ys) {row : Option Nat} (hf : w.grownBy w' row) (hne : ∀ k, a.map (·.block) = some k → some k ≠ row) : Has w' a n ys := by
  refine ⟨h.1, fun hn => ?_⟩
  obtain ⟨b, o, rfl, hc⟩ := h.2 hn
  refine ⟨b, o, rfl, fun i hi => ?_⟩
  have hlt := World.block_lt_of_cell? _ _ (hc i hi)
  rw [← hc i hi]
  exact World.cell?_of_block (w := w) (w' := w') (a := ⟨b, o + i, none⟩) (hf.block b hlt (hne b rfl))
theorem Has.kept0 {w w' : World} {a : Option Addr} {n : Nat} {ys : List Int} (h : Has w a n ys) (hf : w.grownBy w' none) : Has w' a n ys := h.kept hf (fun _ _ => by simp)

/-- The place of a chunk. -/
structure Pl (ps N pl cap : Nat) : Prop where
  hb : pl ≤ 1073741824 ∧ cap ≤ 1048576
  th : ∀ o n : Nat, o + n ≤ cap → There ps N ((pl + o : Nat) : Int) n
  le : pl + cap ≤ N
theorem pl_of {w : World} {sb : Nat} {F : Nat → Prop} {B : Bl} {b c d e f g : Int} {A : Ab} {zs : List Int} (h : IsS w sb F B b c d e f g A zs) (hA : Fit1 A) {p k : Nat} (hp : p < A.np) (hk : k < A.each (A.own p)) : Pl A.ps zs.length (A.place p k) (A.sz (A.own p)) := by
  have ho := hA.on p hp
  have h1 := hA.hi _ ho
  have h2 := hA.ps0
  refine ⟨⟨(place_le hA hp hk).1, by omega⟩, fun o n hon => there_of h hA hp hk hon, ?_⟩
  obtain ⟨t1, t2, t3, t4⟩ := there_of h hA hp hk (o := 0) (n := A.sz (A.own p)) (by omega)
  omega

def ns (k v : Nat) : List Nat := [4, 4, 4, 4, 8, 8, 8, 4, 1, 1, 1, 1, 4, 4, k, v, 2]
theorem ns_sum (k v : Nat) : (ns k v).sum = 58 + k + v := by simp [ns]; omega
theorem lens_set : ∀ (L : List (List Int)) (i : Nat) (ys : List Int), (∀ n, (lens L)[i]? = some n → n = ys.length) → lens (L.set i ys) = lens L
  | [], i, ys, h => by simp
  | a :: L, 0, ys, h => by
    have := h a.length (by simp [lens])
    simp [lens, this]
  | a :: L, i + 1, ys, h => by
    have ih := lens_set L i ys (fun n hn => h n (by simpa [lens] using hn))
    simp only [lens] at ih
    simp [lens, ih]
theorem lens_get (L : List (List Int)) (i n : Nat) (h : (lens L)[i]? = some n) : ∃ s, L[i]? = some s ∧ s.length = n := by
  simp only [lens, List.getElem?_map] at h
  cases e : L[i]? with
  | none => simp [e] at h
  | some s => rw [e] at h; exact ⟨s, rfl, by simpa using h⟩

/-- One piece is laid over. -/
theorem piece_lay {zs : List Int} {pl k v cap : Nat} (hle : pl + cap ≤ zs.length) (hcap : 58 + k + v ≤ cap) {L : List (List Int)} (hL : lens L = ns k v) (i : Nat) (ys : List Int) (x : Nat) (hx : Hid (((ns k v).take i).sum = x)) (hn : (ns k v)[i]? = some ys.length) :
    lay (lay zs pl L.flatten) (pl + x) ys = lay zs pl (L.set i ys).flatten ∧ x + ys.length ≤ 58 + k + v := by
  rw [← hL] at hn
  obtain ⟨s, hs, hl⟩ := lens_get L i _ hn
  have h1 := lay_seg L i s ys hs hl.symm
  have hfl : L.flatten.length = 58 + k + v := by rw [lens_flat, hL, ns_sum]
  have hsum : x + ys.length ≤ 58 + k + v := by
    have e1 := hx.out
    rw [← hL] at e1
    have h2 : (lens L) = (lens L).take i ++ (lens L).drop i := (List.take_append_drop _ _).symm
    have hlt : i < (lens L).length := by
      rcases Nat.lt_or_ge i (lens L).length with h | h
      · exact h
      · rw [List.getElem?_eq_none h] at hn; simp at hn
    have h3 : (lens L).drop i = ys.length :: (lens L).drop (i + 1) := by
      rw [List.drop_eq_getElem_cons hlt]
      congr 1
      rw [List.getElem?_eq_getElem hlt] at hn
      simpa using hn
    have h4 : (lens L).sum = 58 + k + v := by rw [hL, ns_sum]
    rw [h2, h3] at h4
    simp at h4
    omega
  refine ⟨?_, hsum⟩
  have e2 := hx.out
  rw [← hL] at e2
  rw [e2] at h1
  rw [lay_part _ _ _ (by omega) _ _ (by omega), h1]

section
variable {w : World} {ab ag ps m : Nat} {zs : List Int}

theorem write_98 (h : IsA w ab ag ps m zs) (pl c s at_ : Nat) (hb : pl ≤ 1073741824 ∧ at_ ≤ 1073741824) (a : Option Addr) (n cp : Nat) (ys : List Int) (hy : Has w a n ys) (hbs : isBytes ys) (hn : n ≤ 1073741824) (ht : There ps zs.length ((pl + at_ : Nat) : Int) n) :
    Calls Tryz.prog 149 #[chV ab pl c s, .int .i64 at_, .slice a n cp] w fun y w' => y = .returned (.tuple #[]) ∧ w.grownBy w' (some ag) ∧ IsA w' ab ag ps m (lay zs (pl + at_) ys) := by
  have hal := World.grownBy_alloc w (.cells #[.pointer (some ⟨ab, 0, none⟩), .int .i64 pl, .int .i64 c, .int .i64 s] 217) none
  have h0 := h.kept0 hal
  have hg := (write_yes h0 ((pl + at_ : Nat) : Int) a n cp ys (hy.kept0 hal) hbs (by omega) ht).mono (R' := fun e w' => e = .returned (.int .i64 0) ∧ w.grownBy w' (some ag) ∧ IsA w' ab ag ps m (lay zs (pl + at_) ys)) (by
    rintro y w' ⟨rfl, hf, hc⟩
    rw [Int.toNat_natCast] at hc
    exact ⟨rfl, gb_trans (gb_none (some ag) hal) hf, hc⟩)
  rw [show ((pl + at_ : Nat) : Int) = (pl : Int) + at_ by omega] at hg
  generalize lay zs (pl + at_) ys = us at *
  clear h ht h0
  unfold chV
  go_enter Tryz.func149, Tryz.ntmps149
  go_wp2_with (first | (go_at_call 193; go_must (refine hg.mono ?_); rintro y w1 ⟨rfl, hf, hA1⟩) | fail)
  go_end0
  exact ⟨rfl, hf, hA1⟩
variable {pl k v cap : Nat}
theorem sput_u8 (hP : Pl ps zs.length pl cap) (hcap : 58 + k + v ≤ cap) {L : List (List Int)} (hL : lens L = ns k v) (h : IsA w ab ag ps m (lay zs pl L.flatten)) (c s i x : Nat) (z : Int) (hz : 0 ≤ z ∧ z < 256) (hx : Hid (((ns k v).take i).sum = x)) (hn : (ns k v)[i]? = some 1) :
    Calls Tryz.prog 148 #[chV ab pl c s, .int .i64 x, .int .u8 z] w fun y w' => y = .returned (.tuple #[]) ∧ w.grownBy w' (some ag) ∧ IsA w' ab ag ps m (lay zs pl (L.set i (be 1 z)).flatten) := by
  have hle := hP.le
  have hfl : L.flatten.length = 58 + k + v := by rw [lens_flat, hL, ns_sum]
  have hll : (lay zs pl L.flatten).length = zs.length := length_lay (by omega)
  obtain ⟨h1, h2⟩ := piece_lay hle hcap hL i (be 1 z) x hx (by rw [be_len]; exact hn)
  rw [be_len] at h2
  have hb := hP.hb
  have := iput_u8 h pl c s x z hz (by omega) (by rw [hll]; exact hP.th x 1 (by omega))
  rw [h1] at this
  exact this
theorem sput_u16 (hP : Pl ps zs.length pl cap) (hcap : 58 + k + v ≤ cap) {L : List (List Int)} (hL : lens L = ns k v) (h : IsA w ab ag ps m (lay zs pl L.flatten)) (c s i x : Nat) (z : Int) (hz : 0 ≤ z ∧ z < 65536) (hx : Hid (((ns k v).take i).sum = x)) (hn : (ns k v)[i]? = some 2) :
    Calls Tryz.prog 194 #[chV ab pl c s, .int .i64 x, .int .u16 z] w fun y w' => y = .returned (.tuple #[]) ∧ w.grownBy w' (some ag) ∧ IsA w' ab ag ps m (lay zs pl (L.set i (be 2 z)).flatten) := by
  have hle := hP.le
  have hfl : L.flatten.length = 58 + k + v := by rw [lens_flat, hL, ns_sum]
  have hll : (lay zs pl L.flatten).length = zs.length := length_lay (by omega)
  obtain ⟨h1, h2⟩ := piece_lay hle hcap hL i (be 2 z) x hx (by rw [be_len]; exact hn)
  rw [be_len] at h2
  have hb := hP.hb
  have := iput_u16 h pl c s x z hz (by omega) (by rw [hll]; exact hP.th x 2 (by omega))
  rw [h1] at this
  exact this
theorem sput_u32 (hP : Pl ps zs.length pl cap) (hcap : 58 + k + v ≤ cap) {L : List (List Int)} (hL : lens L = ns k v) (h : IsA w ab ag ps m (lay zs pl L.flatten)) (c s i x : Nat) (z : Int) (hz : 0 ≤ z ∧ z < 4294967296) (hx : Hid (((ns k v).take i).sum = x)) (hn : (ns k v)[i]? = some 4) :
    Calls Tryz.prog 147 #[chV ab pl c s, .int .i64 x, .int .u32 z] w fun y w' => y = .returned (.tuple #[]) ∧ w.grownBy w' (some ag) ∧ IsA w' ab ag ps m (lay zs pl (L.set i (be 4 z)).flatten) := by
  have hle := hP.le
  have hfl : L.flatten.length = 58 + k + v := by rw [lens_flat, hL, ns_sum]
  have hll : (lay zs pl L.flatten).length = zs.length := length_lay (by omega)
  obtain ⟨h1, h2⟩ := piece_lay hle hcap hL i (be 4 z) x hx (by rw [be_len]; exact hn)
  rw [be_len] at h2
  have hb := hP.hb
  have := iput_u32 h pl c s x z hz (by omega) (by rw [hll]; exact hP.th x 4 (by omega))
  rw [h1] at this
  exact this
theorem sput_u64 (hP : Pl ps zs.length pl cap) (hcap : 58 + k + v ≤ cap) {L : List (List Int)} (hL : lens L = ns k v) (h : IsA w ab ag ps m (lay zs pl L.flatten)) (c s i x : Nat) (z : Int) (hz : 0 ≤ z ∧ z < 18446744073709551616) (hx : Hid (((ns k v).take i).sum = x)) (hn : (ns k v)[i]? = some 8) :
    Calls Tryz.prog 146 #[chV ab pl c s, .int .i64 x, .int .u64 z] w fun y w' => y = .returned (.tuple #[]) ∧ w.grownBy w' (some ag) ∧ IsA w' ab ag ps m (lay zs pl (L.set i (be 8 z)).flatten) := by
  have hle := hP.le
  have hfl : L.flatten.length = 58 + k + v := by rw [lens_flat, hL, ns_sum]
  have hll : (lay zs pl L.flatten).length = zs.length := length_lay (by omega)
  obtain ⟨h1, h2⟩ := piece_lay hle hcap hL i (be 8 z) x hx (by rw [be_len]; exact hn)
  rw [be_len] at h2
  have hb := hP.hb
  have := iput_u64 h pl c s x z hz (by omega) (by rw [hll]; exact hP.th x 8 (by omega))
  rw [h1] at this
  exact this
theorem swrite (hP : Pl ps zs.length pl cap) (hcap : 58 + k + v ≤ cap) {L : List (List Int)} (hL : lens L = ns k v) (h : IsA w ab ag ps m (lay zs pl L.flatten)) (c s i x : Nat) (a : Option Addr) (n cp : Nat) (ys : List Int) (hy : Has w a n ys) (hbs : isBytes ys) (hx : Hid (((ns k v).take i).sum = x)) (hn : (ns k v)[i]? = some n) :
    Calls Tryz.prog 149 #[chV ab pl c s, .int .i64 x, .slice a n cp] w fun y w' => y = .returned (.tuple #[]) ∧ w.grownBy w' (some ag) ∧ IsA w' ab ag ps m (lay zs pl (L.set i ys).flatten) := by
  have hle := hP.le
  have hfl : L.flatten.length = 58 + k + v := by rw [lens_flat, hL, ns_sum]
  have hll : (lay zs pl L.flatten).length = zs.length := length_lay (by omega)
  obtain ⟨h1, h2⟩ := piece_lay hle hcap hL i ys x hx (by rw [hy.1]; exact hn)
  rw [hy.1] at h2
  have hb := hP.hb
  have := write_98 h pl c s x (by omega) a n cp ys hy hbs (by omega) (by rw [hll]; exact hP.th x n (by omega))
  rw [h1] at this
  exact this

set_option maxRecDepth 100000 in
set_option maxHeartbeats 1000000 in
theorem layValue_99 (hP : Pl ps zs.length pl cap) (hcap : 58 + k + v ≤ cap) {L : List (List Int)} (hL : lens L = ns k v) (h : IsA w ab ag ps m (lay zs pl L.flatten)) (c s : Nat) (a : Option Addr) (cp : Nat) (ys : List Int) (hy : Has w a v ys) (hbs : isBytes ys) (ha : ∀ x, a.map (·.block) = some x → x ≠ ag) :
    Calls Tryz.prog 150 #[chV ab pl c s, .int .i64 k, .slice a v cp] w fun y w' => y = .returned (.tuple #[]) ∧ w.grownBy w' (some ag) ∧ IsA w' ab ag ps m (lay zs pl (((L.set 12 (be 4 v)).set 15 ys).set 16 (be 2 3338)).flatten) := by
  have hb := hP.hb
  have hal := World.grownBy_alloc w (.cells #[.pointer (some ⟨ab, 0, none⟩), .int .i64 pl, .int .i64 c, .int .i64 s] 217) none
  have hbx := Box.new w 217 #[.pointer (some ⟨ab, 0, none⟩), .int .i64 pl, .int .i64 c, .int .i64 s]
  have hag : ag < w.heap.size := lt_of_block h.hg
  have hne : some w.heap.size ≠ some ag := by simp; omega
  have h1 := (sput_u32 hP hcap hL (h.kept0 hal) c s 12 48 v (by omega) rfl rfl)
  have hL1 : lens (L.set 12 (be 4 v)) = ns k v := by rw [lens_set _ _ _ (by rw [hL, be_len]; simp [ns])]; exact hL
  have hL2 : lens ((L.set 12 (be 4 v)).set 15 ys) = ns k v := by rw [lens_set _ _ _ (by rw [hL1, hy.1]; simp [ns])]; exact hL1
  have h2 := fun w1 (hw : IsA w1 ab ag ps m (lay zs pl (L.set 12 (be 4 v)).flatten)) (hh : Has w1 a v ys) => swrite hP hcap hL1 hw c s 15 (56 + k) a v cp ys hh hbs (by show _ = _; simp [ns]; omega) rfl
  have h3 := fun w1 (hw : IsA w1 ab ag ps m (lay zs pl ((L.set 12 (be 4 v)).set 15 ys).flatten)) => sput_u16 hP hcap hL2 hw c s 16 (56 + k + v) 3338 (by omega) (by show _ = _; simp [ns]; omega) rfl
  rw [show ((56 + k : Nat) : Int) = 56 + (k : Int) by omega] at h2
  rw [show ((56 + k + v : Nat) : Int) = 56 + (k : Int) + v by omega] at h3
  have hyk := fun w1 (hf : w.grownBy w1 (some ag)) => hy.kept hf (fun x hx => by have := ha x hx; simpa using this)
  generalize lay zs pl (L.set 12 (be 4 v)).flatten = z1 at *
  generalize lay zs pl ((L.set 12 (be 4 v)).set 15 ys).flatten = z2 at *
  generalize lay zs pl (((L.set 12 (be 4 v)).set 15 ys).set 16 (be 2 3338)).flatten = z3 at *
  clear hL hL1 hL2 h hP
  unfold chV at *
  go_enter Tryz.func150, Tryz.ntmps150
  go_wp2_with (first | (go_at_call 147; go_must (refine h1.mono ?_); rintro y w1 ⟨rfl, hf1, hA1⟩; (have hb1 := hbx.kept hf1 hne); (have z0 := hb1.cell 0); (have z1' := hb1.cell 1); (have z2' := hb1.cell 2); (have z3' := hb1.cell 3); simp at z0 z1' z2' z3'; (have hF1 := gb_trans (gb_none (some ag) hal) hf1)) | (go_at_call 149; go_must (refine (h2 _ hA1 (hyk _ hF1)).mono ?_); rintro y w2 ⟨rfl, hf2, hA2⟩; (have hb2 := hb1.kept hf2 hne); (have q0 := hb2.cell 0); (have q1 := hb2.cell 1); (have q2 := hb2.cell 2); (have q3 := hb2.cell 3); simp at q0 q1 q2 q3) | (go_at_call 194; go_must (refine (h3 _ hA2).mono ?_); rintro y w3 ⟨rfl, hf3, hA3⟩) | fail)
  go_end0
  exact ⟨rfl, gb_trans (gb_trans hF1 hf2) hf3, hA3⟩
end

end Go.Proofs.YtjkdflnnpdionaaGreat
/-
  Size, Legal, mayBeLaid.
-/
namespace Go.Proofs.YtjkdflnnpdionaaGreat
open Go.RowKit
set_option linter.unusedVariables false

theorem size_84 (k v : Nat) (hk : k ≤ 4611686018427387904) (hv : v ≤ 4503599627370496) (w : World) : Calls Tryz.prog 143 #[.int .i64 k, .int .i64 v] w fun y w' => y = .returned (.int .i64 ((58 + k + v : Nat) : Int)) ∧ w' = w := by
  have e : ((58 + k + v : Nat) : Int) = 56 + (k : Int) + v + 2 := by omega
  rw [e]
  go_enter Tryz.func143, Tryz.ntmps143
  go_wp2
  go_ret
  exact ⟨rfl, rfl⟩

/-- What Size tells. -/
def SzR (x y n e : Int) : Prop := ((x < 1 ∨ 250 < x) ∧ n = 0 ∧ e = 30) ∨ ((1 ≤ x ∧ x ≤ 250) ∧ (y < 0 ∨ 1048576 < y) ∧ n = 0 ∧ e = 6) ∨ ((1 ≤ x ∧ x ≤ 250) ∧ (0 ≤ y ∧ y ≤ 1048576) ∧ n = 58 + x + y ∧ e = 0)
theorem SzR.ex (x y : Int) : ∃ n e, SzR x y n e := by
  by_cases h1 : 1 ≤ x ∧ x ≤ 250
  · by_cases h2 : 0 ≤ y ∧ y ≤ 1048576
    · exact ⟨_, _, .inr (.inr ⟨h1, h2, rfl, rfl⟩)⟩
    · exact ⟨_, _, .inr (.inl ⟨h1, by omega, rfl, rfl⟩)⟩
  · exact ⟨_, _, .inl ⟨by omega, rfl, rfl⟩⟩
/-- A key that may be. -/
def LegalP (ys : List Int) : Prop := 1 ≤ ys.length ∧ ys.length ≤ 250 ∧ ∀ i, i < ys.length → 33 ≤ ys.getD i 0 ∧ ys.getD i 0 ≠ 127

set_option maxHeartbeats 1000000 in
theorem legal_yes {w : World} {a : Option Addr} {n : Nat} {ys : List Int} (hy : Has w a n ys) (hl : LegalP ys) (c : Nat) : Calls Tryz.prog 142 #[.slice a n c] w fun y w' => y = .returned (.bool true) ∧ w' = w := by
  obtain ⟨l1, l2, l3⟩ := hl
  have hn := hy.1
  rw [hn] at l1 l2 l3
  obtain ⟨b, o, rfl, hc⟩ := hy.2 (by omega)
  clear hy hn
  go_enter Tryz.func142, Tryz.ntmps142
  go_wp2
  go_loopw [15] (fun v wr => ∃ i : Nat, i ≤ n ∧ v = .int .i64 i ∧ wr = w) (fun v _ => n - (intOf v).toNat)
  case atStart => exact ⟨0, by omega, rfl, rfl⟩
  case round =>
    obtain ⟨i, hi, rfl, rfl⟩ := hrel
    by_cases hlt : i < n
    · have hci := hc i hlt
      obtain ⟨z1, z2⟩ := l3 i hlt
      generalize ys.getD i 0 = z at *
      have hd : decide (z ≤ 32) = false := by simp; omega
      have hd2 : decide (z = 127) = false := by simpa using z2
      clear hc l3
      go_wp2
      go_roundw
      case rel => exact ⟨i + 1, by omega, by go_num, trivial⟩
      case measure => simp [intOf]; omega
    · clear hc l3
      go_wp2
      go_ret
      exact ⟨rfl, rfl⟩

set_option maxHeartbeats 1000000 in
theorem legal_no {w : World} {a : Option Addr} {n : Nat} {ys : List Int} (hy : Has w a n ys) (hl : ¬ LegalP ys) (hn9 : n ≤ 140737488351232) (c : Nat) : Calls Tryz.prog 142 #[.slice a n c] w fun y w' => y = .returned (.bool false) ∧ w' = w := by
  have hn := hy.1
  by_cases h1 : n < 1
  · clear hl
    go_enter Tryz.func142, Tryz.ntmps142
    go_wp2
    go_ret
    exact ⟨rfl, rfl⟩
  · by_cases h2 : 250 < n
    · clear hl
      go_enter Tryz.func142, Tryz.ntmps142
      go_wp2
      go_ret
      exact ⟨rfl, rfl⟩
    · have l3 : ¬ ∀ i, i < n → 33 ≤ ys.getD i 0 ∧ ys.getD i 0 ≠ 127 := fun h => hl ⟨by omega, by omega, fun i hi => h i (by omega)⟩
      obtain ⟨b, o, rfl, hc⟩ := hy.2 (by omega)
      clear hy hn hl
      go_enter Tryz.func142, Tryz.ntmps142
      go_wp2
      go_loopw [15] (fun v wr => ∃ i : Nat, i ≤ n ∧ v = .int .i64 i ∧ wr = w ∧ Hid (∀ j, j < i → 33 ≤ ys.getD j 0 ∧ ys.getD j 0 ≠ 127)) (fun v _ => n - (intOf v).toNat)
      case atStart => exact ⟨0, by omega, rfl, rfl, fun j hj => by omega⟩
      case round =>
        obtain ⟨i, hi, rfl, rfl, hj⟩ := hrel
        by_cases hlt : i < n
        · have hci := hc i hlt
          clear hc l3
          by_cases z1 : ys.getD i 0 ≤ 32
          · generalize ys.getD i 0 = z at *
            go_wp2
            go_ret
            exact ⟨rfl, rfl⟩
          · by_cases z2 : ys.getD i 0 = 127
            · rw [z2] at hci
              clear z1 z2
              go_wp2
              go_ret
              exact ⟨rfl, rfl⟩
            · have HJ : Hid (∀ j, j < i + 1 → 33 ≤ ys.getD j 0 ∧ ys.getD j 0 ≠ 127) := by
                intro j hj2
                by_cases e : j = i
                · subst e; exact ⟨by omega, z2⟩
                · exact hj.out j (by omega)
              clear hj
              generalize ys.getD i 0 = z at *
              have hd : decide (z ≤ 32) = false := by simp; omega
              have hd2 : decide (z = 127) = false := by simpa using z2
              go_wp2
              go_roundw
              case rel => exact ⟨i + 1, by omega, by go_num, trivial, HJ⟩
              case measure => simp [intOf]; omega
        · exact absurd (fun j hj2 => hj.out j (by omega)) l3

/-- An item, as a value. -/
def itV (ka : Option Addr) (kn kc : Nat) (va : Option Addr) (vn vc : Nat) (fl ex to tk st mk : Int) : Value := .agg #[.slice ka kn kc, .slice va vn vc, .int .u64 fl, .int .i64 ex, .int .i64 to, .int .u64 tk, .int .i64 st, .int .i64 mk]
/-- Numbers within their bounds. -/
structure Bnd (fl ex to st mk : Int) : Prop where
  f : 0 ≤ fl ∧ fl ≤ 4294967295
  e : 0 ≤ ex ∧ ex < 9223372036854775808
  t : 0 ≤ to ∧ to < 9223372036854775808
  s : 1 ≤ st ∧ st ≤ 4
  m : 0 ≤ mk ∧ mk ≤ 15

theorem isState_yes (n : Int) (h : 1 ≤ n ∧ n ≤ 4) (w : World) : Calls Tryz.prog 186 #[.int .i64 n] w fun y w' => y = .returned (.bool true) ∧ w' = w := by
  go_enter Tryz.func186, Tryz.ntmps186
  go_wp2
  go_ret
  exact ⟨rfl, rfl⟩
theorem isMarks_yes (n : Int) (h : 0 ≤ n ∧ n ≤ 15) (w : World) : Calls Tryz.prog 187 #[.int .i64 n] w fun y w' => y = .returned (.bool true) ∧ w' = w := by
  go_enter Tryz.func187, Tryz.ntmps187
  go_wp2
  go_ret
  exact ⟨rfl, rfl⟩
theorem isFlags_yes (n : Int) (h : 0 ≤ n ∧ n ≤ 4294967295) (w : World) : Calls Tryz.prog 188 #[.int .u64 n] w fun y w' => y = .returned (.bool true) ∧ w' = w := by
  go_enter Tryz.func188, Tryz.ntmps188
  go_wp2
  go_ret
  exact ⟨rfl, rfl⟩
theorem isTick_yes (n : Int) (h : 0 ≤ n) (w : World) : Calls Tryz.prog 189 #[.int .i64 n] w fun y w' => y = .returned (.bool true) ∧ w' = w := by
  go_enter Tryz.func189, Tryz.ntmps189
  go_wp2
  go_ret
  exact ⟨rfl, rfl⟩
set_option maxRecDepth 100000 in
set_option maxHeartbeats 1000000 in
theorem mayBeLaid_yes (ka : Option Addr) (kn kc : Nat) (va : Option Addr) (vn vc : Nat) (fl ex to tk st mk : Int) (h : Bnd fl ex to st mk) (w : World) : Calls Tryz.prog 144 #[itV ka kn kc va vn vc fl ex to tk st mk] w fun y w' => y = .returned (.bool true) ∧ w.grownBy w' none := by
  have hal := World.grownBy_alloc w (.cells #[.slice ka kn kc, .slice va vn vc, .int .u64 fl, .int .i64 ex, .int .i64 to, .int .u64 tk, .int .i64 st, .int .i64 mk] 129) none
  have h1 := isState_yes st h.s
  have h2 := isMarks_yes mk h.m
  have h3 := isFlags_yes fl h.f
  have h4 := isTick_yes ex h.e.1
  have h5 := isTick_yes to h.t.1
  unfold itV
  go_enter Tryz.func144, Tryz.ntmps144
  go_wp2_with (first | (go_at_call 186; go_must (refine (h1 _).mono ?_); rintro y w' ⟨rfl, rfl⟩) | (go_at_call 187; go_must (refine (h2 _).mono ?_); rintro y w' ⟨rfl, rfl⟩) | (go_at_call 188; go_must (refine (h3 _).mono ?_); rintro y w' ⟨rfl, rfl⟩) | (go_at_call 189; with_reducible refine (h4 _).mono ?_; rintro y w' ⟨rfl, rfl⟩) | (go_at_call 189; with_reducible refine (h5 _).mono ?_; rintro y w' ⟨rfl, rfl⟩) | fail)
  go_ret
  exact ⟨rfl, hal⟩

end Go.Proofs.YtjkdflnnpdionaaGreat
