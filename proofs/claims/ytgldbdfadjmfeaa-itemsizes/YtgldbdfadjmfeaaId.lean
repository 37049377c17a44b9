/-
  A chunk's numbers and bytes.
-/
import Derived.Test.YtgldbdfadjmfeaaIc
namespace Go.Proofs.Ytgldbdfadjmfeaa
open Go.RowKit
set_option linter.unusedVariables false

section
variable {w : World} {ab ag ps m : Nat} {zs : List Int}
theorem IsA.kept0 (h : IsA w ab ag ps m zs) {w' : World} (hf : w.grownBy w' none) : IsA w' ab ag ps m zs := h.kept hf (by simp) (by simp)

theorem iget_u8 (h : IsA w ab ag ps m zs) (pl c s at_ : Nat) (hb : pl ≤ 1073741824 ∧ at_ ≤ 1073741824) (ht : There ps zs.length ((pl + at_ : Nat) : Int) 1) :
    Calls Try.prog 107 #[chV ab pl c s, .int .i64 at_] w fun y w' => y = .returned (.int .u8 (getL zs (pl + at_) 1 0 0)) ∧ w.grownBy w' none := by
  have hal := World.grownBy_alloc w (.cells #[.pointer (some ⟨ab, 0, none⟩), .int .i64 pl, .int .i64 c, .int .i64 s] 167) none
  have hg := get_u8 (h.kept0 hal) ((pl + at_ : Nat) : Int) ht
  rw [Int.toNat_natCast, show ((pl + at_ : Nat) : Int) = (pl : Int) + at_ by omega] at hg
  generalize getL zs (pl + at_) 1 0 0 = v at *
  clear h ht
  unfold chV
  go_enter Try.func107, Try.ntmps107
  go_wp2_with (first | (go_at_call 142; go_must (refine hg.mono ?_); rintro y w1 ⟨rfl, hf⟩) | fail)
  go_ret
  exact ⟨rfl, gb_trans hal hf⟩

theorem iget_u32 (h : IsA w ab ag ps m zs) (pl c s at_ : Nat) (hb : pl ≤ 1073741824 ∧ at_ ≤ 1073741824) (ht : There ps zs.length ((pl + at_ : Nat) : Int) 4) :
    Calls Try.prog 105 #[chV ab pl c s, .int .i64 at_] w fun y w' => y = .returned (.int .u32 (getL zs (pl + at_) 4 0 0)) ∧ w.grownBy w' none := by
  have hal := World.grownBy_alloc w (.cells #[.pointer (some ⟨ab, 0, none⟩), .int .i64 pl, .int .i64 c, .int .i64 s] 167) none
  have hg := get_u32 (h.kept0 hal) ((pl + at_ : Nat) : Int) ht
  rw [Int.toNat_natCast, show ((pl + at_ : Nat) : Int) = (pl : Int) + at_ by omega] at hg
  generalize getL zs (pl + at_) 4 0 0 = v at *
  clear h ht
  unfold chV
  go_enter Try.func105, Try.ntmps105
  go_wp2_with (first | (go_at_call 140; go_must (refine hg.mono ?_); rintro y w1 ⟨rfl, hf⟩) | fail)
  go_ret
  exact ⟨rfl, gb_trans hal hf⟩

theorem iget_u64 (h : IsA w ab ag ps m zs) (pl c s at_ : Nat) (hb : pl ≤ 1073741824 ∧ at_ ≤ 1073741824) (ht : There ps zs.length ((pl + at_ : Nat) : Int) 8) :
    Calls Try.prog 106 #[chV ab pl c s, .int .i64 at_] w fun y w' => y = .returned (.int .u64 (getL zs (pl + at_) 8 0 0)) ∧ w.grownBy w' none := by
  have hal := World.grownBy_alloc w (.cells #[.pointer (some ⟨ab, 0, none⟩), .int .i64 pl, .int .i64 c, .int .i64 s] 167) none
  have hg := get_u64 (h.kept0 hal) ((pl + at_ : Nat) : Int) ht
  rw [Int.toNat_natCast, show ((pl + at_ : Nat) : Int) = (pl : Int) + at_ by omega] at hg
  generalize getL zs (pl + at_) 8 0 0 = v at *
  clear h ht
  unfold chV
  go_enter Try.func106, Try.ntmps106
  go_wp2_with (first | (go_at_call 141; go_must (refine hg.mono ?_); rintro y w1 ⟨rfl, hf⟩) | fail)
  go_ret
  exact ⟨rfl, gb_trans hal hf⟩

theorem iput_u8 (h : IsA w ab ag ps m zs) (pl c s at_ : Nat) (v : Int) (hv : 0 ≤ v ∧ v < 256) (hb : pl ≤ 1073741824 ∧ at_ ≤ 1073741824) (ht : There ps zs.length ((pl + at_ : Nat) : Int) 1) :
    Calls Try.prog 97 #[chV ab pl c s, .int .i64 at_, .int .u8 v] w fun y w' => y = .returned (.tuple #[]) ∧ w.grownBy w' (some ag) ∧ IsA w' ab ag ps m (lay zs (pl + at_) (be 1 v)) := by
  have hal := World.grownBy_alloc w (.cells #[.pointer (some ⟨ab, 0, none⟩), .int .i64 pl, .int .i64 c, .int .i64 s] 167) none
  have h0 := h.kept0 hal
  have hle : pl + at_ + 1 ≤ zs.length := by
    obtain ⟨t1, t2, t3, t4⟩ := ht
    omega
  have hg := (put_u8 h0 ((pl + at_ : Nat) : Int) v hv ht).mono (R' := fun e w' => e = .returned (.int .i64 0) ∧ w.grownBy w' (some ag) ∧ IsA w' ab ag ps m (lay zs (pl + at_) (be 1 v))) (by
    rintro y w' ⟨rfl, hf, hc⟩
    rw [Int.toNat_natCast] at hc
    have h1 := h0.turned hf hc (length_putL _ _ _ _) (putL_mem _ _ _ _ h0.hz)
    rw [putL_lay _ _ _ _ hle] at h1
    exact ⟨rfl, gb_trans (gb_none (some ag) hal) hf, h1⟩)
  rw [show ((pl + at_ : Nat) : Int) = (pl : Int) + at_ by omega] at hg
  generalize lay zs (pl + at_) (be 1 v) = us at *
  clear h ht h0
  unfold chV
  go_enter Try.func97, Try.ntmps97
  go_wp2_with (first | (go_at_call 138; go_must (refine hg.mono ?_); rintro y w1 ⟨rfl, hf, hA1⟩) | fail)
  go_end0
  exact ⟨rfl, hf, hA1⟩

theorem iput_u16 (h : IsA w ab ag ps m zs) (pl c s at_ : Nat) (v : Int) (hv : 0 ≤ v ∧ v < 65536) (hb : pl ≤ 1073741824 ∧ at_ ≤ 1073741824) (ht : There ps zs.length ((pl + at_ : Nat) : Int) 2) :
    Calls Try.prog 139 #[chV ab pl c s, .int .i64 at_, .int .u16 v] w fun y w' => y = .returned (.tuple #[]) ∧ w.grownBy w' (some ag) ∧ IsA w' ab ag ps m (lay zs (pl + at_) (be 2 v)) := by
  have hal := World.grownBy_alloc w (.cells #[.pointer (some ⟨ab, 0, none⟩), .int .i64 pl, .int .i64 c, .int .i64 s] 167) none
  have h0 := h.kept0 hal
  have hle : pl + at_ + 2 ≤ zs.length := by
    obtain ⟨t1, t2, t3, t4⟩ := ht
    omega
  have hg := (put_u16 h0 ((pl + at_ : Nat) : Int) v hv ht).mono (R' := fun e w' => e = .returned (.int .i64 0) ∧ w.grownBy w' (some ag) ∧ IsA w' ab ag ps m (lay zs (pl + at_) (be 2 v))) (by
    rintro y w' ⟨rfl, hf, hc⟩
    rw [Int.toNat_natCast] at hc
    have h1 := h0.turned hf hc (length_putL _ _ _ _) (putL_mem _ _ _ _ h0.hz)
    rw [putL_lay _ _ _ _ hle] at h1
    exact ⟨rfl, gb_trans (gb_none (some ag) hal) hf, h1⟩)
  rw [show ((pl + at_ : Nat) : Int) = (pl : Int) + at_ by omega] at hg
  generalize lay zs (pl + at_) (be 2 v) = us at *
  clear h ht h0
  unfold chV
  go_enter Try.func139, Try.ntmps139
  go_wp2_with (first | (go_at_call 151; go_must (refine hg.mono ?_); rintro y w1 ⟨rfl, hf, hA1⟩) | fail)
  go_end0
  exact ⟨rfl, hf, hA1⟩

theorem iput_u32 (h : IsA w ab ag ps m zs) (pl c s at_ : Nat) (v : Int) (hv : 0 ≤ v ∧ v < 4294967296) (hb : pl ≤ 1073741824 ∧ at_ ≤ 1073741824) (ht : There ps zs.length ((pl + at_ : Nat) : Int) 4) :
    Calls Try.prog 96 #[chV ab pl c s, .int .i64 at_, .int .u32 v] w fun y w' => y = .returned (.tuple #[]) ∧ w.grownBy w' (some ag) ∧ IsA w' ab ag ps m (lay zs (pl + at_) (be 4 v)) := by
  have hal := World.grownBy_alloc w (.cells #[.pointer (some ⟨ab, 0, none⟩), .int .i64 pl, .int .i64 c, .int .i64 s] 167) none
  have h0 := h.kept0 hal
  have hle : pl + at_ + 4 ≤ zs.length := by
    obtain ⟨t1, t2, t3, t4⟩ := ht
    omega
  have hg := (put_u32 h0 ((pl + at_ : Nat) : Int) v hv ht).mono (R' := fun e w' => e = .returned (.int .i64 0) ∧ w.grownBy w' (some ag) ∧ IsA w' ab ag ps m (lay zs (pl + at_) (be 4 v))) (by
    rintro y w' ⟨rfl, hf, hc⟩
    rw [Int.toNat_natCast] at hc
    have h1 := h0.turned hf hc (length_putL _ _ _ _) (putL_mem _ _ _ _ h0.hz)
    rw [putL_lay _ _ _ _ hle] at h1
    exact ⟨rfl, gb_trans (gb_none (some ag) hal) hf, h1⟩)
  rw [show ((pl + at_ : Nat) : Int) = (pl : Int) + at_ by omega] at hg
  generalize lay zs (pl + at_) (be 4 v) = us at *
  clear h ht h0
  unfold chV
  go_enter Try.func96, Try.ntmps96
  go_wp2_with (first | (go_at_call 129; go_must (refine hg.mono ?_); rintro y w1 ⟨rfl, hf, hA1⟩) | fail)
  go_end0
  exact ⟨rfl, hf, hA1⟩

theorem iput_u64 (h : IsA w ab ag ps m zs) (pl c s at_ : Nat) (v : Int) (hv : 0 ≤ v ∧ v < 18446744073709551616) (hb : pl ≤ 1073741824 ∧ at_ ≤ 1073741824) (ht : There ps zs.length ((pl + at_ : Nat) : Int) 8) :
    Calls Try.prog 95 #[chV ab pl c s, .int .i64 at_, .int .u64 v] w fun y w' => y = .returned (.tuple #[]) ∧ w.grownBy w' (some ag) ∧ IsA w' ab ag ps m (lay zs (pl + at_) (be 8 v)) := by
  have hal := World.grownBy_alloc w (.cells #[.pointer (some ⟨ab, 0, none⟩), .int .i64 pl, .int .i64 c, .int .i64 s] 167) none
  have h0 := h.kept0 hal
  have hle : pl + at_ + 8 ≤ zs.length := by
    obtain ⟨t1, t2, t3, t4⟩ := ht
    omega
  have hg := (put_u64 h0 ((pl + at_ : Nat) : Int) v hv ht).mono (R' := fun e w' => e = .returned (.int .i64 0) ∧ w.grownBy w' (some ag) ∧ IsA w' ab ag ps m (lay zs (pl + at_) (be 8 v))) (by
    rintro y w' ⟨rfl, hf, hc⟩
    rw [Int.toNat_natCast] at hc
    have h1 := h0.turned hf hc (length_putL _ _ _ _) (putL_mem _ _ _ _ h0.hz)
    rw [putL_lay _ _ _ _ hle] at h1
    exact ⟨rfl, gb_trans (gb_none (some ag) hal) hf, h1⟩)
  rw [show ((pl + at_ : Nat) : Int) = (pl : Int) + at_ by omega] at hg
  generalize lay zs (pl + at_) (be 8 v) = us at *
  clear h ht h0
  unfold chV
  go_enter Try.func95, Try.ntmps95
  go_wp2_with (first | (go_at_call 137; go_must (refine hg.mono ?_); rintro y w1 ⟨rfl, hf, hA1⟩) | fail)
  go_end0
  exact ⟨rfl, hf, hA1⟩

theorem keyLength_any (h : IsA w ab ag ps m zs) (pl c s : Nat) (hb : pl ≤ 1073741824) (ht : There ps zs.length ((pl + 44 : Nat) : Int) 1) (kl : Nat) (hkl : Hid (getL zs (pl + 44) 1 0 0 = kl)) (hk2 : kl < 256) :
    Calls Try.prog 101 #[chV ab pl c s] w fun y w' => y = .returned (.int .i64 kl) ∧ w.grownBy w' none := by
  have hal := World.grownBy_alloc w (.cells #[.pointer (some ⟨ab, 0, none⟩), .int .i64 pl, .int .i64 c, .int .i64 s] 167) none
  have hg := iget_u8 (h.kept0 hal) pl c s 44 (by omega) ht
  rw [hkl.out] at hg
  clear h ht hkl
  unfold chV at hg ⊢
  go_enter Try.func101, Try.ntmps101
  go_wp2_with (first | (go_at_call 107; go_must (refine hg.mono ?_); rintro y w1 ⟨rfl, hf⟩) | fail)
  go_ret
  exact ⟨rfl, gb_trans hal hf⟩
theorem hasItem_any (h : IsA w ab ag ps m zs) (pl c s : Nat) (hb : pl ≤ 1073741824) (ht : There ps zs.length ((pl + 44 : Nat) : Int) 1) (kl : Nat) (hkl : Hid (getL zs (pl + 44) 1 0 0 = kl)) (hk2 : kl < 256) :
    Calls Try.prog 102 #[chV ab pl c s] w fun y w' => y = .returned (.bool (decide (0 < kl))) ∧ w.grownBy w' none := by
  have hal := World.grownBy_alloc w (.cells #[.pointer (some ⟨ab, 0, none⟩), .int .i64 pl, .int .i64 c, .int .i64 s] 167) none
  have hg := keyLength_any (h.kept0 hal) pl c s hb ht kl hkl hk2
  clear h ht hkl
  unfold chV at hg ⊢
  go_enter Try.func102, Try.ntmps102
  go_wp2_with (first | (go_at_call 101; go_must (refine hg.mono ?_); rintro y w1 ⟨rfl, hf⟩) | fail)
  go_ret
  refine ⟨?_, gb_trans hal hf⟩
  have e : decide ((0 : Int) < kl) = decide (0 < kl) := by simp
  first | rfl | (rw [e]) | (simp)
theorem valueLength_any (h : IsA w ab ag ps m zs) (pl c s : Nat) (hb : pl ≤ 1073741824) (ht : There ps zs.length ((pl + 48 : Nat) : Int) 4) (vl : Nat) (hkl : Hid (getL zs (pl + 48) 4 0 0 = vl)) (hk2 : vl < 4294967296) :
    Calls Try.prog 104 #[chV ab pl c s] w fun y w' => y = .returned (.int .i64 vl) ∧ w.grownBy w' none := by
  have hal := World.grownBy_alloc w (.cells #[.pointer (some ⟨ab, 0, none⟩), .int .i64 pl, .int .i64 c, .int .i64 s] 167) none
  have hg := iget_u32 (h.kept0 hal) pl c s 48 (by omega) ht
  rw [hkl.out] at hg
  clear h ht hkl
  unfold chV at hg ⊢
  go_enter Try.func104, Try.ntmps104
  go_wp2_with (first | (go_at_call 105; go_must (refine hg.mono ?_); rintro y w1 ⟨rfl, hf⟩) | fail)
  go_ret
  exact ⟨rfl, gb_trans hal hf⟩
end

end Go.Proofs.Ytgldbdfadjmfeaa
