/-
  Get of numbers of all widths (by program: one text a function).
-/
import Derived.Test.YtknhoncnaigogaaC
namespace Go.Proofs.Ytknhoncnaigogaa
open Go.RowKit
set_option linter.unusedVariables false

set_option maxHeartbeats 1000000 in
theorem get_64 {w : World} {b g ps pages : Nat} {zs : List Int} (hA : IsA w b g ps pages zs) (x : Int) (ht : There ps zs.length x 1) :
    Calls Try.prog 64 #[.pointer (some ⟨b, 0, none⟩), .int .i64 x] w fun e w' => e = .returned (.tuple #[.int .u8 (getL zs x.toNat 1 0 0), .int .i64 0]) ∧ w.grownBy w' none := by
  have hbd := hA.bounds
  obtain ⟨t1, t2, t3, t4⟩ := ht
  have hmod := hA.mod x
  go_enter Try.func64, Try.ntmps64
  go_wp2_with (first | (go_at_call 75; refine (width_75 _).mono ?_; rintro e w' ⟨rfl, rfl⟩) | (go_at_call 55; go_must (refine (hA.part_yes x 1 ⟨by omega, t2, t3, t4⟩).mono ?_); rintro e w' ⟨⟨o, rfl, ho⟩, q, rfl⟩))
  go_loop [8, 24] (fun r c => ∃ (i : Nat) (s : Int), i ≤ 1 ∧ c = .int .i64 i ∧ r = .int .u64 s ∧ 0 ≤ s ∧ Hid (s < pw i) ∧ Hid (getL zs x.toNat (1 - i) i s = getL zs x.toNat 1 0 0)) (fun _ c => 1 - (intOf c).toNat)
  case atStart => exact ⟨0, 0, by omega, rfl, rfl, by omega, (show (0 : Int) < 1 by decide), rfl⟩
  case round =>
    obtain ⟨i, s, hi, rfl, rfl, hs0, hs1, hp⟩ := hrel
    by_cases hlt : i < 1
    · have hcell := cell_of_vals hA.hg (x.toNat + i) (by omega)
      have hz := hA.hz (zs.getD (x.toNat + i) 0) (getD_mem (by omega))
      obtain ⟨z, hz'⟩ : ∃ z, z = zs.getD (x.toNat + i) 0 := ⟨_, rfl⟩
      have HP : Hid (getL zs x.toNat (1 - (i + 1)) (i + 1) (256 * s + z) = getL zs x.toNat 1 0 0) := by
        have := hp.out
        rw [getL_go zs _ _ _ _ hlt, ← hz'] at this
        exact this
      rw [← hz'] at hcell hz
      have hst := pow_step i s z (by omega) hs1.out hz.2
      have hor := or_u64 s z hs0 hst.1 hz
      have hb2 := hst.1
      have HB : Hid (256 * s + z < pw (i + 1)) := hst.2
      clear hz' hst
      go_wp2
      go_round
      case rel => exact ⟨i + 1, 256 * s + z, by omega, by go_num, rfl, by omega, HB, HP⟩
      case measure => simp [intOf]; omega
    · have e : Hid (getL zs x.toNat 1 0 0 = s) := by
        have := hp.out
        rw [getL_stop zs _ _ _ _ (by omega)] at this
        exact this.symm
      have hs2 : s < 256 := by
        obtain rfl : i = 1 := by omega
        exact hs1.out
      clear hp
      go_wp2
      go_ret2
      refine ⟨?_, gb_drewN (gb_refl _ _) _⟩
      rw [e.out]
      rfl

theorem get_64_no {w : World} {b g ps pages : Nat} {zs : List Int} (hA : IsA w b g ps pages zs) (x : Int) (hx : x ≤ 9223372036854775807) (ht : ¬ There ps zs.length x 1) :
    Calls Try.prog 64 #[.pointer (some ⟨b, 0, none⟩), .int .i64 x] w fun e w' => e = .returned (.tuple #[.int .u8 0, .int .i64 20]) ∧ w.grownBy w' none := by
  go_enter Try.func64, Try.ntmps64
  go_wp2_with (first | (go_at_call 75; refine (width_75 _).mono ?_; rintro e w' ⟨rfl, rfl⟩) | (go_at_call 55; go_must (refine (hA.part_no x 1 (by omega) ht).mono ?_); rintro e w' ⟨rfl, q, rfl⟩))
  go_ret2
  exact ⟨rfl, gb_drewN (gb_refl _ _) _⟩

theorem get_64_nil (w : World) (x : Int) :
    Calls Try.prog 64 #[.pointer none, .int .i64 x] w fun e w' => e = .returned (.tuple #[.int .u8 0, .int .i64 1]) ∧ w = w' := by
  go_enter Try.func64, Try.ntmps64
  go_wp2
  go_ret2
  exact ⟨rfl, rfl⟩

set_option maxHeartbeats 1000000 in
theorem get_65 {w : World} {b g ps pages : Nat} {zs : List Int} (hA : IsA w b g ps pages zs) (x : Int) (ht : There ps zs.length x 1) :
    Calls Try.prog 65 #[.pointer (some ⟨b, 0, none⟩), .int .i64 x] w fun e w' => e = .returned (.tuple #[.int .u8 (getL zs x.toNat 1 0 0), .int .i64 0]) ∧ w.grownBy w' none := by
  have hbd := hA.bounds
  obtain ⟨t1, t2, t3, t4⟩ := ht
  have hmod := hA.mod x
  go_enter Try.func65, Try.ntmps65
  go_wp2_with (first | (go_at_call 76; refine (width_76 _).mono ?_; rintro e w' ⟨rfl, rfl⟩) | (go_at_call 55; go_must (refine (hA.part_yes x 1 ⟨by omega, t2, t3, t4⟩).mono ?_); rintro e w' ⟨⟨o, rfl, ho⟩, q, rfl⟩))
  go_loop [8, 24] (fun r c => ∃ (i : Nat) (s : Int), i ≤ 1 ∧ c = .int .i64 i ∧ r = .int .u64 s ∧ 0 ≤ s ∧ Hid (s < pw i) ∧ Hid (getL zs x.toNat (1 - i) i s = getL zs x.toNat 1 0 0)) (fun _ c => 1 - (intOf c).toNat)
  case atStart => exact ⟨0, 0, by omega, rfl, rfl, by omega, (show (0 : Int) < 1 by decide), rfl⟩
  case round =>
    obtain ⟨i, s, hi, rfl, rfl, hs0, hs1, hp⟩ := hrel
    by_cases hlt : i < 1
    · have hcell := cell_of_vals hA.hg (x.toNat + i) (by omega)
      have hz := hA.hz (zs.getD (x.toNat + i) 0) (getD_mem (by omega))
      obtain ⟨z, hz'⟩ : ∃ z, z = zs.getD (x.toNat + i) 0 := ⟨_, rfl⟩
      have HP : Hid (getL zs x.toNat (1 - (i + 1)) (i + 1) (256 * s + z) = getL zs x.toNat 1 0 0) := by
        have := hp.out
        rw [getL_go zs _ _ _ _ hlt, ← hz'] at this
        exact this
      rw [← hz'] at hcell hz
      have hst := pow_step i s z (by omega) hs1.out hz.2
      have hor := or_u64 s z hs0 hst.1 hz
      have hb2 := hst.1
      have HB : Hid (256 * s + z < pw (i + 1)) := hst.2
      clear hz' hst
      go_wp2
      go_round
      case rel => exact ⟨i + 1, 256 * s + z, by omega, by go_num, rfl, by omega, HB, HP⟩
      case measure => simp [intOf]; omega
    · have e : Hid (getL zs x.toNat 1 0 0 = s) := by
        have := hp.out
        rw [getL_stop zs _ _ _ _ (by omega)] at this
        exact this.symm
      have hs2 : s < 256 := by
        obtain rfl : i = 1 := by omega
        exact hs1.out
      clear hp
      go_wp2
      go_ret2
      refine ⟨?_, gb_drewN (gb_refl _ _) _⟩
      rw [e.out]
      rfl

theorem get_65_no {w : World} {b g ps pages : Nat} {zs : List Int} (hA : IsA w b g ps pages zs) (x : Int) (hx : x ≤ 9223372036854775807) (ht : ¬ There ps zs.length x 1) :
    Calls Try.prog 65 #[.pointer (some ⟨b, 0, none⟩), .int .i64 x] w fun e w' => e = .returned (.tuple #[.int .u8 0, .int .i64 20]) ∧ w.grownBy w' none := by
  go_enter Try.func65, Try.ntmps65
  go_wp2_with (first | (go_at_call 76; refine (width_76 _).mono ?_; rintro e w' ⟨rfl, rfl⟩) | (go_at_call 55; go_must (refine (hA.part_no x 1 (by omega) ht).mono ?_); rintro e w' ⟨rfl, q, rfl⟩))
  go_ret2
  exact ⟨rfl, gb_drewN (gb_refl _ _) _⟩

theorem get_65_nil (w : World) (x : Int) :
    Calls Try.prog 65 #[.pointer none, .int .i64 x] w fun e w' => e = .returned (.tuple #[.int .u8 0, .int .i64 1]) ∧ w = w' := by
  go_enter Try.func65, Try.ntmps65
  go_wp2
  go_ret2
  exact ⟨rfl, rfl⟩

set_option maxHeartbeats 1000000 in
theorem get_66 {w : World} {b g ps pages : Nat} {zs : List Int} (hA : IsA w b g ps pages zs) (x : Int) (ht : There ps zs.length x 2) :
    Calls Try.prog 66 #[.pointer (some ⟨b, 0, none⟩), .int .i64 x] w fun e w' => e = .returned (.tuple #[.int .u16 (getL zs x.toNat 2 0 0), .int .i64 0]) ∧ w.grownBy w' none := by
  have hbd := hA.bounds
  obtain ⟨t1, t2, t3, t4⟩ := ht
  have hmod := hA.mod x
  go_enter Try.func66, Try.ntmps66
  go_wp2_with (first | (go_at_call 77; refine (width_77 _).mono ?_; rintro e w' ⟨rfl, rfl⟩) | (go_at_call 55; go_must (refine (hA.part_yes x 2 ⟨by omega, t2, t3, t4⟩).mono ?_); rintro e w' ⟨⟨o, rfl, ho⟩, q, rfl⟩))
  go_loop [8, 24] (fun r c => ∃ (i : Nat) (s : Int), i ≤ 2 ∧ c = .int .i64 i ∧ r = .int .u64 s ∧ 0 ≤ s ∧ Hid (s < pw i) ∧ Hid (getL zs x.toNat (2 - i) i s = getL zs x.toNat 2 0 0)) (fun _ c => 2 - (intOf c).toNat)
  case atStart => exact ⟨0, 0, by omega, rfl, rfl, by omega, (show (0 : Int) < 1 by decide), rfl⟩
  case round =>
    obtain ⟨i, s, hi, rfl, rfl, hs0, hs1, hp⟩ := hrel
    by_cases hlt : i < 2
    · have hcell := cell_of_vals hA.hg (x.toNat + i) (by omega)
      have hz := hA.hz (zs.getD (x.toNat + i) 0) (getD_mem (by omega))
      obtain ⟨z, hz'⟩ : ∃ z, z = zs.getD (x.toNat + i) 0 := ⟨_, rfl⟩
      have HP : Hid (getL zs x.toNat (2 - (i + 1)) (i + 1) (256 * s + z) = getL zs x.toNat 2 0 0) := by
        have := hp.out
        rw [getL_go zs _ _ _ _ hlt, ← hz'] at this
        exact this
      rw [← hz'] at hcell hz
      have hst := pow_step i s z (by omega) hs1.out hz.2
      have hor := or_u64 s z hs0 hst.1 hz
      have hb2 := hst.1
      have HB : Hid (256 * s + z < pw (i + 1)) := hst.2
      clear hz' hst
      go_wp2
      go_round
      case rel => exact ⟨i + 1, 256 * s + z, by omega, by go_num, rfl, by omega, HB, HP⟩
      case measure => simp [intOf]; omega
    · have e : Hid (getL zs x.toNat 2 0 0 = s) := by
        have := hp.out
        rw [getL_stop zs _ _ _ _ (by omega)] at this
        exact this.symm
      have hs2 : s < 65536 := by
        obtain rfl : i = 2 := by omega
        exact hs1.out
      clear hp
      go_wp2
      go_ret2
      refine ⟨?_, gb_drewN (gb_refl _ _) _⟩
      rw [e.out]
      rfl

theorem get_66_no {w : World} {b g ps pages : Nat} {zs : List Int} (hA : IsA w b g ps pages zs) (x : Int) (hx : x ≤ 9223372036854775807) (ht : ¬ There ps zs.length x 2) :
    Calls Try.prog 66 #[.pointer (some ⟨b, 0, none⟩), .int .i64 x] w fun e w' => e = .returned (.tuple #[.int .u16 0, .int .i64 20]) ∧ w.grownBy w' none := by
  go_enter Try.func66, Try.ntmps66
  go_wp2_with (first | (go_at_call 77; refine (width_77 _).mono ?_; rintro e w' ⟨rfl, rfl⟩) | (go_at_call 55; go_must (refine (hA.part_no x 2 (by omega) ht).mono ?_); rintro e w' ⟨rfl, q, rfl⟩))
  go_ret2
  exact ⟨rfl, gb_drewN (gb_refl _ _) _⟩

theorem get_66_nil (w : World) (x : Int) :
    Calls Try.prog 66 #[.pointer none, .int .i64 x] w fun e w' => e = .returned (.tuple #[.int .u16 0, .int .i64 1]) ∧ w = w' := by
  go_enter Try.func66, Try.ntmps66
  go_wp2
  go_ret2
  exact ⟨rfl, rfl⟩

set_option maxHeartbeats 1000000 in
theorem get_53 {w : World} {b g ps pages : Nat} {zs : List Int} (hA : IsA w b g ps pages zs) (x : Int) (ht : There ps zs.length x 2) :
    Calls Try.prog 53 #[.pointer (some ⟨b, 0, none⟩), .int .i64 x] w fun e w' => e = .returned (.tuple #[.int .u16 (getL zs x.toNat 2 0 0), .int .i64 0]) ∧ w.grownBy w' none := by
  have hbd := hA.bounds
  obtain ⟨t1, t2, t3, t4⟩ := ht
  have hmod := hA.mod x
  go_enter Try.func53, Try.ntmps53
  go_wp2_with (first | (go_at_call 73; refine (width_73 _).mono ?_; rintro e w' ⟨rfl, rfl⟩) | (go_at_call 55; go_must (refine (hA.part_yes x 2 ⟨by omega, t2, t3, t4⟩).mono ?_); rintro e w' ⟨⟨o, rfl, ho⟩, q, rfl⟩))
  go_loop [8, 24] (fun r c => ∃ (i : Nat) (s : Int), i ≤ 2 ∧ c = .int .i64 i ∧ r = .int .u64 s ∧ 0 ≤ s ∧ Hid (s < pw i) ∧ Hid (getL zs x.toNat (2 - i) i s = getL zs x.toNat 2 0 0)) (fun _ c => 2 - (intOf c).toNat)
  case atStart => exact ⟨0, 0, by omega, rfl, rfl, by omega, (show (0 : Int) < 1 by decide), rfl⟩
  case round =>
    obtain ⟨i, s, hi, rfl, rfl, hs0, hs1, hp⟩ := hrel
    by_cases hlt : i < 2
    · have hcell := cell_of_vals hA.hg (x.toNat + i) (by omega)
      have hz := hA.hz (zs.getD (x.toNat + i) 0) (getD_mem (by omega))
      obtain ⟨z, hz'⟩ : ∃ z, z = zs.getD (x.toNat + i) 0 := ⟨_, rfl⟩
      have HP : Hid (getL zs x.toNat (2 - (i + 1)) (i + 1) (256 * s + z) = getL zs x.toNat 2 0 0) := by
        have := hp.out
        rw [getL_go zs _ _ _ _ hlt, ← hz'] at this
        exact this
      rw [← hz'] at hcell hz
      have hst := pow_step i s z (by omega) hs1.out hz.2
      have hor := or_u64 s z hs0 hst.1 hz
      have hb2 := hst.1
      have HB : Hid (256 * s + z < pw (i + 1)) := hst.2
      clear hz' hst
      go_wp2
      go_round
      case rel => exact ⟨i + 1, 256 * s + z, by omega, by go_num, rfl, by omega, HB, HP⟩
      case measure => simp [intOf]; omega
    · have e : Hid (getL zs x.toNat 2 0 0 = s) := by
        have := hp.out
        rw [getL_stop zs _ _ _ _ (by omega)] at this
        exact this.symm
      have hs2 : s < 65536 := by
        obtain rfl : i = 2 := by omega
        exact hs1.out
      clear hp
      go_wp2
      go_ret2
      refine ⟨?_, gb_drewN (gb_refl _ _) _⟩
      rw [e.out]
      rfl

theorem get_53_no {w : World} {b g ps pages : Nat} {zs : List Int} (hA : IsA w b g ps pages zs) (x : Int) (hx : x ≤ 9223372036854775807) (ht : ¬ There ps zs.length x 2) :
    Calls Try.prog 53 #[.pointer (some ⟨b, 0, none⟩), .int .i64 x] w fun e w' => e = .returned (.tuple #[.int .u16 0, .int .i64 20]) ∧ w.grownBy w' none := by
  go_enter Try.func53, Try.ntmps53
  go_wp2_with (first | (go_at_call 73; refine (width_73 _).mono ?_; rintro e w' ⟨rfl, rfl⟩) | (go_at_call 55; go_must (refine (hA.part_no x 2 (by omega) ht).mono ?_); rintro e w' ⟨rfl, q, rfl⟩))
  go_ret2
  exact ⟨rfl, gb_drewN (gb_refl _ _) _⟩

theorem get_53_nil (w : World) (x : Int) :
    Calls Try.prog 53 #[.pointer none, .int .i64 x] w fun e w' => e = .returned (.tuple #[.int .u16 0, .int .i64 1]) ∧ w = w' := by
  go_enter Try.func53, Try.ntmps53
  go_wp2
  go_ret2
  exact ⟨rfl, rfl⟩

set_option maxHeartbeats 1000000 in
theorem get_67 {w : World} {b g ps pages : Nat} {zs : List Int} (hA : IsA w b g ps pages zs) (x : Int) (ht : There ps zs.length x 4) :
    Calls Try.prog 67 #[.pointer (some ⟨b, 0, none⟩), .int .i64 x] w fun e w' => e = .returned (.tuple #[.int .u32 (getL zs x.toNat 4 0 0), .int .i64 0]) ∧ w.grownBy w' none := by
  have hbd := hA.bounds
  obtain ⟨t1, t2, t3, t4⟩ := ht
  have hmod := hA.mod x
  go_enter Try.func67, Try.ntmps67
  go_wp2_with (first | (go_at_call 78; refine (width_78 _).mono ?_; rintro e w' ⟨rfl, rfl⟩) | (go_at_call 55; go_must (refine (hA.part_yes x 4 ⟨by omega, t2, t3, t4⟩).mono ?_); rintro e w' ⟨⟨o, rfl, ho⟩, q, rfl⟩))
  go_loop [8, 24] (fun r c => ∃ (i : Nat) (s : Int), i ≤ 4 ∧ c = .int .i64 i ∧ r = .int .u64 s ∧ 0 ≤ s ∧ Hid (s < pw i) ∧ Hid (getL zs x.toNat (4 - i) i s = getL zs x.toNat 4 0 0)) (fun _ c => 4 - (intOf c).toNat)
  case atStart => exact ⟨0, 0, by omega, rfl, rfl, by omega, (show (0 : Int) < 1 by decide), rfl⟩
  case round =>
    obtain ⟨i, s, hi, rfl, rfl, hs0, hs1, hp⟩ := hrel
    by_cases hlt : i < 4
    · have hcell := cell_of_vals hA.hg (x.toNat + i) (by omega)
      have hz := hA.hz (zs.getD (x.toNat + i) 0) (getD_mem (by omega))
      obtain ⟨z, hz'⟩ : ∃ z, z = zs.getD (x.toNat + i) 0 := ⟨_, rfl⟩
      have HP : Hid (getL zs x.toNat (4 - (i + 1)) (i + 1) (256 * s + z) = getL zs x.toNat 4 0 0) := by
        have := hp.out
        rw [getL_go zs _ _ _ _ hlt, ← hz'] at this
        exact this
      rw [← hz'] at hcell hz
      have hst := pow_step i s z (by omega) hs1.out hz.2
      have hor := or_u64 s z hs0 hst.1 hz
      have hb2 := hst.1
      have HB : Hid (256 * s + z < pw (i + 1)) := hst.2
      clear hz' hst
      go_wp2
      go_round
      case rel => exact ⟨i + 1, 256 * s + z, by omega, by go_num, rfl, by omega, HB, HP⟩
      case measure => simp [intOf]; omega
    · have e : Hid (getL zs x.toNat 4 0 0 = s) := by
        have := hp.out
        rw [getL_stop zs _ _ _ _ (by omega)] at this
        exact this.symm
      have hs2 : s < 4294967296 := by
        obtain rfl : i = 4 := by omega
        exact hs1.out
      clear hp
      go_wp2
      go_ret2
      refine ⟨?_, gb_drewN (gb_refl _ _) _⟩
      rw [e.out]
      rfl

theorem get_67_no {w : World} {b g ps pages : Nat} {zs : List Int} (hA : IsA w b g ps pages zs) (x : Int) (hx : x ≤ 9223372036854775807) (ht : ¬ There ps zs.length x 4) :
    Calls Try.prog 67 #[.pointer (some ⟨b, 0, none⟩), .int .i64 x] w fun e w' => e = .returned (.tuple #[.int .u32 0, .int .i64 20]) ∧ w.grownBy w' none := by
  go_enter Try.func67, Try.ntmps67
  go_wp2_with (first | (go_at_call 78; refine (width_78 _).mono ?_; rintro e w' ⟨rfl, rfl⟩) | (go_at_call 55; go_must (refine (hA.part_no x 4 (by omega) ht).mono ?_); rintro e w' ⟨rfl, q, rfl⟩))
  go_ret2
  exact ⟨rfl, gb_drewN (gb_refl _ _) _⟩

theorem get_67_nil (w : World) (x : Int) :
    Calls Try.prog 67 #[.pointer none, .int .i64 x] w fun e w' => e = .returned (.tuple #[.int .u32 0, .int .i64 1]) ∧ w = w' := by
  go_enter Try.func67, Try.ntmps67
  go_wp2
  go_ret2
  exact ⟨rfl, rfl⟩

set_option maxHeartbeats 1000000 in
theorem get_68 {w : World} {b g ps pages : Nat} {zs : List Int} (hA : IsA w b g ps pages zs) (x : Int) (ht : There ps zs.length x 4) :
    Calls Try.prog 68 #[.pointer (some ⟨b, 0, none⟩), .int .i64 x] w fun e w' => e = .returned (.tuple #[.int .u32 (getL zs x.toNat 4 0 0), .int .i64 0]) ∧ w.grownBy w' none := by
  have hbd := hA.bounds
  obtain ⟨t1, t2, t3, t4⟩ := ht
  have hmod := hA.mod x
  go_enter Try.func68, Try.ntmps68
  go_wp2_with (first | (go_at_call 79; refine (width_79 _).mono ?_; rintro e w' ⟨rfl, rfl⟩) | (go_at_call 55; go_must (refine (hA.part_yes x 4 ⟨by omega, t2, t3, t4⟩).mono ?_); rintro e w' ⟨⟨o, rfl, ho⟩, q, rfl⟩))
  go_loop [8, 24] (fun r c => ∃ (i : Nat) (s : Int), i ≤ 4 ∧ c = .int .i64 i ∧ r = .int .u64 s ∧ 0 ≤ s ∧ Hid (s < pw i) ∧ Hid (getL zs x.toNat (4 - i) i s = getL zs x.toNat 4 0 0)) (fun _ c => 4 - (intOf c).toNat)
  case atStart => exact ⟨0, 0, by omega, rfl, rfl, by omega, (show (0 : Int) < 1 by decide), rfl⟩
  case round =>
    obtain ⟨i, s, hi, rfl, rfl, hs0, hs1, hp⟩ := hrel
    by_cases hlt : i < 4
    · have hcell := cell_of_vals hA.hg (x.toNat + i) (by omega)
      have hz := hA.hz (zs.getD (x.toNat + i) 0) (getD_mem (by omega))
      obtain ⟨z, hz'⟩ : ∃ z, z = zs.getD (x.toNat + i) 0 := ⟨_, rfl⟩
      have HP : Hid (getL zs x.toNat (4 - (i + 1)) (i + 1) (256 * s + z) = getL zs x.toNat 4 0 0) := by
        have := hp.out
        rw [getL_go zs _ _ _ _ hlt, ← hz'] at this
        exact this
      rw [← hz'] at hcell hz
      have hst := pow_step i s z (by omega) hs1.out hz.2
      have hor := or_u64 s z hs0 hst.1 hz
      have hb2 := hst.1
      have HB : Hid (256 * s + z < pw (i + 1)) := hst.2
      clear hz' hst
      go_wp2
      go_round
      case rel => exact ⟨i + 1, 256 * s + z, by omega, by go_num, rfl, by omega, HB, HP⟩
      case measure => simp [intOf]; omega
    · have e : Hid (getL zs x.toNat 4 0 0 = s) := by
        have := hp.out
        rw [getL_stop zs _ _ _ _ (by omega)] at this
        exact this.symm
      have hs2 : s < 4294967296 := by
        obtain rfl : i = 4 := by omega
        exact hs1.out
      clear hp
      go_wp2
      go_ret2
      refine ⟨?_, gb_drewN (gb_refl _ _) _⟩
      rw [e.out]
      rfl

theorem get_68_no {w : World} {b g ps pages : Nat} {zs : List Int} (hA : IsA w b g ps pages zs) (x : Int) (hx : x ≤ 9223372036854775807) (ht : ¬ There ps zs.length x 4) :
    Calls Try.prog 68 #[.pointer (some ⟨b, 0, none⟩), .int .i64 x] w fun e w' => e = .returned (.tuple #[.int .u32 0, .int .i64 20]) ∧ w.grownBy w' none := by
  go_enter Try.func68, Try.ntmps68
  go_wp2_with (first | (go_at_call 79; refine (width_79 _).mono ?_; rintro e w' ⟨rfl, rfl⟩) | (go_at_call 55; go_must (refine (hA.part_no x 4 (by omega) ht).mono ?_); rintro e w' ⟨rfl, q, rfl⟩))
  go_ret2
  exact ⟨rfl, gb_drewN (gb_refl _ _) _⟩

theorem get_68_nil (w : World) (x : Int) :
    Calls Try.prog 68 #[.pointer none, .int .i64 x] w fun e w' => e = .returned (.tuple #[.int .u32 0, .int .i64 1]) ∧ w = w' := by
  go_enter Try.func68, Try.ntmps68
  go_wp2
  go_ret2
  exact ⟨rfl, rfl⟩

set_option maxHeartbeats 1000000 in
theorem get_69 {w : World} {b g ps pages : Nat} {zs : List Int} (hA : IsA w b g ps pages zs) (x : Int) (ht : There ps zs.length x 8) :
    Calls Try.prog 69 #[.pointer (some ⟨b, 0, none⟩), .int .i64 x] w fun e w' => e = .returned (.tuple #[.int .u64 (getL zs x.toNat 8 0 0), .int .i64 0]) ∧ w.grownBy w' none := by
  have hbd := hA.bounds
  obtain ⟨t1, t2, t3, t4⟩ := ht
  have hmod := hA.mod x
  go_enter Try.func69, Try.ntmps69
  go_wp2_with (first | (go_at_call 80; refine (width_80 _).mono ?_; rintro e w' ⟨rfl, rfl⟩) | (go_at_call 55; go_must (refine (hA.part_yes x 8 ⟨by omega, t2, t3, t4⟩).mono ?_); rintro e w' ⟨⟨o, rfl, ho⟩, q, rfl⟩))
  go_loop [8, 24] (fun r c => ∃ (i : Nat) (s : Int), i ≤ 8 ∧ c = .int .i64 i ∧ r = .int .u64 s ∧ 0 ≤ s ∧ Hid (s < pw i) ∧ Hid (getL zs x.toNat (8 - i) i s = getL zs x.toNat 8 0 0)) (fun _ c => 8 - (intOf c).toNat)
  case atStart => exact ⟨0, 0, by omega, rfl, rfl, by omega, (show (0 : Int) < 1 by decide), rfl⟩
  case round =>
    obtain ⟨i, s, hi, rfl, rfl, hs0, hs1, hp⟩ := hrel
    by_cases hlt : i < 8
    · have hcell := cell_of_vals hA.hg (x.toNat + i) (by omega)
      have hz := hA.hz (zs.getD (x.toNat + i) 0) (getD_mem (by omega))
      obtain ⟨z, hz'⟩ : ∃ z, z = zs.getD (x.toNat + i) 0 := ⟨_, rfl⟩
      have HP : Hid (getL zs x.toNat (8 - (i + 1)) (i + 1) (256 * s + z) = getL zs x.toNat 8 0 0) := by
        have := hp.out
        rw [getL_go zs _ _ _ _ hlt, ← hz'] at this
        exact this
      rw [← hz'] at hcell hz
      have hst := pow_step i s z (by omega) hs1.out hz.2
      have hor := or_u64 s z hs0 hst.1 hz
      have hb2 := hst.1
      have HB : Hid (256 * s + z < pw (i + 1)) := hst.2
      clear hz' hst
      go_wp2
      go_round
      case rel => exact ⟨i + 1, 256 * s + z, by omega, by go_num, rfl, by omega, HB, HP⟩
      case measure => simp [intOf]; omega
    · have e : Hid (getL zs x.toNat 8 0 0 = s) := by
        have := hp.out
        rw [getL_stop zs _ _ _ _ (by omega)] at this
        exact this.symm
      have hs2 : s < 18446744073709551616 := by
        obtain rfl : i = 8 := by omega
        exact hs1.out
      clear hp
      go_wp2
      go_ret2
      refine ⟨?_, gb_drewN (gb_refl _ _) _⟩
      rw [e.out]
      rfl

theorem get_69_no {w : World} {b g ps pages : Nat} {zs : List Int} (hA : IsA w b g ps pages zs) (x : Int) (hx : x ≤ 9223372036854775807) (ht : ¬ There ps zs.length x 8) :
    Calls Try.prog 69 #[.pointer (some ⟨b, 0, none⟩), .int .i64 x] w fun e w' => e = .returned (.tuple #[.int .u64 0, .int .i64 20]) ∧ w.grownBy w' none := by
  go_enter Try.func69, Try.ntmps69
  go_wp2_with (first | (go_at_call 80; refine (width_80 _).mono ?_; rintro e w' ⟨rfl, rfl⟩) | (go_at_call 55; go_must (refine (hA.part_no x 8 (by omega) ht).mono ?_); rintro e w' ⟨rfl, q, rfl⟩))
  go_ret2
  exact ⟨rfl, gb_drewN (gb_refl _ _) _⟩

theorem get_69_nil (w : World) (x : Int) :
    Calls Try.prog 69 #[.pointer none, .int .i64 x] w fun e w' => e = .returned (.tuple #[.int .u64 0, .int .i64 1]) ∧ w = w' := by
  go_enter Try.func69, Try.ntmps69
  go_wp2
  go_ret2
  exact ⟨rfl, rfl⟩

set_option maxHeartbeats 1000000 in
theorem get_70 {w : World} {b g ps pages : Nat} {zs : List Int} (hA : IsA w b g ps pages zs) (x : Int) (ht : There ps zs.length x 8) :
    Calls Try.prog 70 #[.pointer (some ⟨b, 0, none⟩), .int .i64 x] w fun e w' => e = .returned (.tuple #[.int .u64 (getL zs x.toNat 8 0 0), .int .i64 0]) ∧ w.grownBy w' none := by
  have hbd := hA.bounds
  obtain ⟨t1, t2, t3, t4⟩ := ht
  have hmod := hA.mod x
  go_enter Try.func70, Try.ntmps70
  go_wp2_with (first | (go_at_call 81; refine (width_81 _).mono ?_; rintro e w' ⟨rfl, rfl⟩) | (go_at_call 55; go_must (refine (hA.part_yes x 8 ⟨by omega, t2, t3, t4⟩).mono ?_); rintro e w' ⟨⟨o, rfl, ho⟩, q, rfl⟩))
  go_loop [8, 24] (fun r c => ∃ (i : Nat) (s : Int), i ≤ 8 ∧ c = .int .i64 i ∧ r = .int .u64 s ∧ 0 ≤ s ∧ Hid (s < pw i) ∧ Hid (getL zs x.toNat (8 - i) i s = getL zs x.toNat 8 0 0)) (fun _ c => 8 - (intOf c).toNat)
  case atStart => exact ⟨0, 0, by omega, rfl, rfl, by omega, (show (0 : Int) < 1 by decide), rfl⟩
  case round =>
    obtain ⟨i, s, hi, rfl, rfl, hs0, hs1, hp⟩ := hrel
    by_cases hlt : i < 8
    · have hcell := cell_of_vals hA.hg (x.toNat + i) (by omega)
      have hz := hA.hz (zs.getD (x.toNat + i) 0) (getD_mem (by omega))
      obtain ⟨z, hz'⟩ : ∃ z, z = zs.getD (x.toNat + i) 0 := ⟨_, rfl⟩
      have HP : Hid (getL zs x.toNat (8 - (i + 1)) (i + 1) (256 * s + z) = getL zs x.toNat 8 0 0) := by
        have := hp.out
        rw [getL_go zs _ _ _ _ hlt, ← hz'] at this
        exact this
      rw [← hz'] at hcell hz
      have hst := pow_step i s z (by omega) hs1.out hz.2
      have hor := or_u64 s z hs0 hst.1 hz
      have hb2 := hst.1
      have HB : Hid (256 * s + z < pw (i + 1)) := hst.2
      clear hz' hst
      go_wp2
      go_round
      case rel => exact ⟨i + 1, 256 * s + z, by omega, by go_num, rfl, by omega, HB, HP⟩
      case measure => simp [intOf]; omega
    · have e : Hid (getL zs x.toNat 8 0 0 = s) := by
        have := hp.out
        rw [getL_stop zs _ _ _ _ (by omega)] at this
        exact this.symm
      have hs2 : s < 18446744073709551616 := by
        obtain rfl : i = 8 := by omega
        exact hs1.out
      clear hp
      go_wp2
      go_ret2
      refine ⟨?_, gb_drewN (gb_refl _ _) _⟩
      rw [e.out]
      rfl

theorem get_70_no {w : World} {b g ps pages : Nat} {zs : List Int} (hA : IsA w b g ps pages zs) (x : Int) (hx : x ≤ 9223372036854775807) (ht : ¬ There ps zs.length x 8) :
    Calls Try.prog 70 #[.pointer (some ⟨b, 0, none⟩), .int .i64 x] w fun e w' => e = .returned (.tuple #[.int .u64 0, .int .i64 20]) ∧ w.grownBy w' none := by
  go_enter Try.func70, Try.ntmps70
  go_wp2_with (first | (go_at_call 81; refine (width_81 _).mono ?_; rintro e w' ⟨rfl, rfl⟩) | (go_at_call 55; go_must (refine (hA.part_no x 8 (by omega) ht).mono ?_); rintro e w' ⟨rfl, q, rfl⟩))
  go_ret2
  exact ⟨rfl, gb_drewN (gb_refl _ _) _⟩

theorem get_70_nil (w : World) (x : Int) :
    Calls Try.prog 70 #[.pointer none, .int .i64 x] w fun e w' => e = .returned (.tuple #[.int .u64 0, .int .i64 1]) ∧ w = w' := by
  go_enter Try.func70, Try.ntmps70
  go_wp2
  go_ret2
  exact ⟨rfl, rfl⟩

end Go.Proofs.Ytknhoncnaigogaa
