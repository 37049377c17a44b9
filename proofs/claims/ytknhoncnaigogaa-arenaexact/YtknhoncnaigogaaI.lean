/-
  put and get: numbers of any width, of plain types and of own ones (by program).
-/
import Derived.Test.YtknhoncnaigogaaD
import Derived.Test.YtknhoncnaigogaaE
namespace Go.Proofs.Ytknhoncnaigogaa
open Go.RowKit
set_option linter.unusedVariables false

def isWidth (k : Int) : Prop := k = 1 ∨ k = 2 ∨ k = 4 ∨ k = 8
theorem pw1 : pw 1 = 256 := by decide +kernel
theorem pw2 : pw 2 = 65536 := by decide +kernel
theorem pw4 : pw 4 = 4294967296 := by decide +kernel
theorem pw8 : pw 8 = 18446744073709551616 := by decide +kernel

theorem getL_bound (zs : List Int) (x : Nat) (hz : ∀ z ∈ zs, 0 ≤ z ∧ z < 256) : ∀ (k i : Nat) (s : Int), 0 ≤ s → s < pw i → i + k ≤ 8 → 0 ≤ getL zs x k i s ∧ getL zs x k i s < pw (i + k)
  | 0, _, _, h0, h1, _ => ⟨h0, h1⟩
  | k + 1, i, s, h0, h1, h => by
    have hd : 0 ≤ zs.getD (x + i) 0 ∧ zs.getD (x + i) 0 < 256 := by
      by_cases hi : x + i < zs.length
      · exact hz _ (getD_mem hi)
      · simp [List.getD, List.getElem?_eq_none (Nat.not_lt.1 hi)]
    have e : pw (i + 1) = 256 * pw i := rfl
    have := getL_bound zs x hz k (i + 1) (256 * s + zs.getD (x + i) 0) (by omega) (by omega) (by omega)
    rw [show i + (k + 1) = i + 1 + k by omega]
    exact this
theorem getL_lt (zs : List Int) (x k : Nat) (hz : ∀ z ∈ zs, 0 ≤ z ∧ z < 256) (hk : k ≤ 8) : 0 ≤ getL zs x k 0 0 ∧ getL zs x k 0 0 < pw k := by
  have := getL_bound zs x hz k 0 0 (by omega) (by decide) (by omega)
  simpa using this

set_option maxHeartbeats 1000000 in
theorem put_yes {w : World} {b g ps pages : Nat} {zs : List Int} (hA : IsA w b g ps pages zs) (x v k : Int) (own : Bool) (hk : isWidth k) (hv : 0 ≤ v ∧ v < pw k.toNat) (ht : There ps zs.length x k) :
    Calls Try.prog 23 #[.pointer (some ⟨b, 0, none⟩), .int .i64 x, .int .i64 k, .int .u64 v, .bool own] w fun e w' => e = .returned (.int .i64 0) ∧ w.grownBy w' (some g) ∧ w'.heap[g]? = some (.cells (vals (putL zs x.toNat k.toNat v)) 5 (0, 0)) := by
  rcases hk with rfl | rfl | rfl | rfl <;> cases own
  · have hv2 : v < 256 := by have h := hv.2; rw [show (1 : Int).toNat = 1 from rfl, pw1] at h; exact h
    have hv1 := hv.1
    clear hv
    go_enter Try.func23, Try.ntmps23
    go_wp2_with (first | (go_at_call 16; refine (num_any _ _).mono ?_; rintro e w' ⟨rfl, rfl⟩) | (go_at_call 58; go_must (refine (put_58 hA x v ⟨hv1, hv2⟩ ht).mono ?_); rintro e w' ⟨rfl, hf, hg⟩))
    go_ret
    exact ⟨rfl, hf, hg⟩
  · have hv2 : v < 256 := by have h := hv.2; rw [show (1 : Int).toNat = 1 from rfl, pw1] at h; exact h
    have hv1 := hv.1
    clear hv
    go_enter Try.func23, Try.ntmps23
    go_wp2_with (first | (go_at_call 16; refine (num_any _ _).mono ?_; rintro e w' ⟨rfl, rfl⟩) | (go_at_call 57; go_must (refine (put_57 hA x v ⟨hv1, hv2⟩ ht).mono ?_); rintro e w' ⟨rfl, hf, hg⟩))
    go_ret
    exact ⟨rfl, hf, hg⟩
  · have hv2 : v < 65536 := by have h := hv.2; rw [show (2 : Int).toNat = 2 from rfl, pw2] at h; exact h
    have hv1 := hv.1
    clear hv
    go_enter Try.func23, Try.ntmps23
    go_wp2_with (first | (go_at_call 16; refine (num_any _ _).mono ?_; rintro e w' ⟨rfl, rfl⟩) | (go_at_call 52; go_must (refine (put_52 hA x v ⟨hv1, hv2⟩ ht).mono ?_); rintro e w' ⟨rfl, hf, hg⟩))
    go_ret
    exact ⟨rfl, hf, hg⟩
  · have hv2 : v < 65536 := by have h := hv.2; rw [show (2 : Int).toNat = 2 from rfl, pw2] at h; exact h
    have hv1 := hv.1
    clear hv
    go_enter Try.func23, Try.ntmps23
    go_wp2_with (first | (go_at_call 16; refine (num_any _ _).mono ?_; rintro e w' ⟨rfl, rfl⟩) | (go_at_call 59; go_must (refine (put_59 hA x v ⟨hv1, hv2⟩ ht).mono ?_); rintro e w' ⟨rfl, hf, hg⟩))
    go_ret
    exact ⟨rfl, hf, hg⟩
  · have hv2 : v < 4294967296 := by have h := hv.2; rw [show (4 : Int).toNat = 4 from rfl, pw4] at h; exact h
    have hv1 := hv.1
    clear hv
    go_enter Try.func23, Try.ntmps23
    go_wp2_with (first | (go_at_call 16; refine (num_any _ _).mono ?_; rintro e w' ⟨rfl, rfl⟩) | (go_at_call 61; go_must (refine (put_61 hA x v ⟨hv1, hv2⟩ ht).mono ?_); rintro e w' ⟨rfl, hf, hg⟩))
    go_ret
    exact ⟨rfl, hf, hg⟩
  · have hv2 : v < 4294967296 := by have h := hv.2; rw [show (4 : Int).toNat = 4 from rfl, pw4] at h; exact h
    have hv1 := hv.1
    clear hv
    go_enter Try.func23, Try.ntmps23
    go_wp2_with (first | (go_at_call 16; refine (num_any _ _).mono ?_; rintro e w' ⟨rfl, rfl⟩) | (go_at_call 60; go_must (refine (put_60 hA x v ⟨hv1, hv2⟩ ht).mono ?_); rintro e w' ⟨rfl, hf, hg⟩))
    go_ret
    exact ⟨rfl, hf, hg⟩
  · have hv2 : v < 18446744073709551616 := by have h := hv.2; rw [show (8 : Int).toNat = 8 from rfl, pw8] at h; exact h
    have hv1 := hv.1
    clear hv
    go_enter Try.func23, Try.ntmps23
    go_wp2_with (first | (go_at_call 16; refine (num_any _ _).mono ?_; rintro e w' ⟨rfl, rfl⟩) | (go_at_call 63; go_must (refine (put_63 hA x v ⟨hv1, hv2⟩ ht).mono ?_); rintro e w' ⟨rfl, hf, hg⟩))
    go_ret
    exact ⟨rfl, hf, hg⟩
  · have hv2 : v < 18446744073709551616 := by have h := hv.2; rw [show (8 : Int).toNat = 8 from rfl, pw8] at h; exact h
    have hv1 := hv.1
    clear hv
    go_enter Try.func23, Try.ntmps23
    go_wp2_with (first | (go_at_call 16; refine (num_any _ _).mono ?_; rintro e w' ⟨rfl, rfl⟩) | (go_at_call 62; go_must (refine (put_62 hA x v ⟨hv1, hv2⟩ ht).mono ?_); rintro e w' ⟨rfl, hf, hg⟩))
    go_ret
    exact ⟨rfl, hf, hg⟩

set_option maxHeartbeats 1000000 in
theorem put_no {w : World} {b g ps pages : Nat} {zs : List Int} (hA : IsA w b g ps pages zs) (x v k : Int) (own : Bool) (hk : isWidth k) (hx : x ≤ 9223372036854775807) (ht : ¬ There ps zs.length x k) :
    Calls Try.prog 23 #[.pointer (some ⟨b, 0, none⟩), .int .i64 x, .int .i64 k, .int .u64 v, .bool own] w fun e w' => e = .returned (.int .i64 20) ∧ w.grownBy w' none := by
  rcases hk with rfl | rfl | rfl | rfl <;> cases own
  · go_enter Try.func23, Try.ntmps23
    go_wp2_with (first | (go_at_call 16; refine (num_any _ _).mono ?_; rintro e w' ⟨rfl, rfl⟩) | (go_at_call 58; go_must (refine (put_58_no hA x _ hx ht).mono ?_); rintro e w' ⟨rfl, hf⟩))
    go_ret
    exact ⟨rfl, hf⟩
  · go_enter Try.func23, Try.ntmps23
    go_wp2_with (first | (go_at_call 16; refine (num_any _ _).mono ?_; rintro e w' ⟨rfl, rfl⟩) | (go_at_call 57; go_must (refine (put_57_no hA x _ hx ht).mono ?_); rintro e w' ⟨rfl, hf⟩))
    go_ret
    exact ⟨rfl, hf⟩
  · go_enter Try.func23, Try.ntmps23
    go_wp2_with (first | (go_at_call 16; refine (num_any _ _).mono ?_; rintro e w' ⟨rfl, rfl⟩) | (go_at_call 52; go_must (refine (put_52_no hA x _ hx ht).mono ?_); rintro e w' ⟨rfl, hf⟩))
    go_ret
    exact ⟨rfl, hf⟩
  · go_enter Try.func23, Try.ntmps23
    go_wp2_with (first | (go_at_call 16; refine (num_any _ _).mono ?_; rintro e w' ⟨rfl, rfl⟩) | (go_at_call 59; go_must (refine (put_59_no hA x _ hx ht).mono ?_); rintro e w' ⟨rfl, hf⟩))
    go_ret
    exact ⟨rfl, hf⟩
  · go_enter Try.func23, Try.ntmps23
    go_wp2_with (first | (go_at_call 16; refine (num_any _ _).mono ?_; rintro e w' ⟨rfl, rfl⟩) | (go_at_call 61; go_must (refine (put_61_no hA x _ hx ht).mono ?_); rintro e w' ⟨rfl, hf⟩))
    go_ret
    exact ⟨rfl, hf⟩
  · go_enter Try.func23, Try.ntmps23
    go_wp2_with (first | (go_at_call 16; refine (num_any _ _).mono ?_; rintro e w' ⟨rfl, rfl⟩) | (go_at_call 60; go_must (refine (put_60_no hA x _ hx ht).mono ?_); rintro e w' ⟨rfl, hf⟩))
    go_ret
    exact ⟨rfl, hf⟩
  · go_enter Try.func23, Try.ntmps23
    go_wp2_with (first | (go_at_call 16; refine (num_any _ _).mono ?_; rintro e w' ⟨rfl, rfl⟩) | (go_at_call 63; go_must (refine (put_63_no hA x _ hx ht).mono ?_); rintro e w' ⟨rfl, hf⟩))
    go_ret
    exact ⟨rfl, hf⟩
  · go_enter Try.func23, Try.ntmps23
    go_wp2_with (first | (go_at_call 16; refine (num_any _ _).mono ?_; rintro e w' ⟨rfl, rfl⟩) | (go_at_call 62; go_must (refine (put_62_no hA x _ hx ht).mono ?_); rintro e w' ⟨rfl, hf⟩))
    go_ret
    exact ⟨rfl, hf⟩

set_option maxHeartbeats 1000000 in
theorem put_nil (w : World) (x v k : Int) (own : Bool) (hk : isWidth k) :
    Calls Try.prog 23 #[.pointer none, .int .i64 x, .int .i64 k, .int .u64 v, .bool own] w fun e w' => e = .returned (.int .i64 1) ∧ w = w' := by
  rcases hk with rfl | rfl | rfl | rfl <;> cases own
  · go_enter Try.func23, Try.ntmps23
    go_wp2_with (first | (go_at_call 16; refine (num_any _ _).mono ?_; rintro e w' ⟨rfl, rfl⟩) | (go_at_call 58; go_must (refine (put_58_nil _ _ _).mono ?_); rintro e w' ⟨rfl, rfl⟩))
    go_ret
    exact ⟨rfl, rfl⟩
  · go_enter Try.func23, Try.ntmps23
    go_wp2_with (first | (go_at_call 16; refine (num_any _ _).mono ?_; rintro e w' ⟨rfl, rfl⟩) | (go_at_call 57; go_must (refine (put_57_nil _ _ _).mono ?_); rintro e w' ⟨rfl, rfl⟩))
    go_ret
    exact ⟨rfl, rfl⟩
  · go_enter Try.func23, Try.ntmps23
    go_wp2_with (first | (go_at_call 16; refine (num_any _ _).mono ?_; rintro e w' ⟨rfl, rfl⟩) | (go_at_call 52; go_must (refine (put_52_nil _ _ _).mono ?_); rintro e w' ⟨rfl, rfl⟩))
    go_ret
    exact ⟨rfl, rfl⟩
  · go_enter Try.func23, Try.ntmps23
    go_wp2_with (first | (go_at_call 16; refine (num_any _ _).mono ?_; rintro e w' ⟨rfl, rfl⟩) | (go_at_call 59; go_must (refine (put_59_nil _ _ _).mono ?_); rintro e w' ⟨rfl, rfl⟩))
    go_ret
    exact ⟨rfl, rfl⟩
  · go_enter Try.func23, Try.ntmps23
    go_wp2_with (first | (go_at_call 16; refine (num_any _ _).mono ?_; rintro e w' ⟨rfl, rfl⟩) | (go_at_call 61; go_must (refine (put_61_nil _ _ _).mono ?_); rintro e w' ⟨rfl, rfl⟩))
    go_ret
    exact ⟨rfl, rfl⟩
  · go_enter Try.func23, Try.ntmps23
    go_wp2_with (first | (go_at_call 16; refine (num_any _ _).mono ?_; rintro e w' ⟨rfl, rfl⟩) | (go_at_call 60; go_must (refine (put_60_nil _ _ _).mono ?_); rintro e w' ⟨rfl, rfl⟩))
    go_ret
    exact ⟨rfl, rfl⟩
  · go_enter Try.func23, Try.ntmps23
    go_wp2_with (first | (go_at_call 16; refine (num_any _ _).mono ?_; rintro e w' ⟨rfl, rfl⟩) | (go_at_call 63; go_must (refine (put_63_nil _ _ _).mono ?_); rintro e w' ⟨rfl, rfl⟩))
    go_ret
    exact ⟨rfl, rfl⟩
  · go_enter Try.func23, Try.ntmps23
    go_wp2_with (first | (go_at_call 16; refine (num_any _ _).mono ?_; rintro e w' ⟨rfl, rfl⟩) | (go_at_call 62; go_must (refine (put_62_nil _ _ _).mono ?_); rintro e w' ⟨rfl, rfl⟩))
    go_ret
    exact ⟨rfl, rfl⟩

set_option maxHeartbeats 1000000 in
theorem get_yes {w : World} {b g ps pages : Nat} {zs : List Int} (hA : IsA w b g ps pages zs) (x k : Int) (own : Bool) (hk : isWidth k) (ht : There ps zs.length x k) :
    Calls Try.prog 24 #[.pointer (some ⟨b, 0, none⟩), .int .i64 x, .int .i64 k, .bool own] w fun e w' => e = .returned (.tuple #[.int .u64 (getL zs x.toNat k.toNat 0 0), .int .i64 0]) ∧ w.grownBy w' none := by
  rcases hk with rfl | rfl | rfl | rfl <;> cases own
  · have hb := getL_lt zs x.toNat 1 hA.hz (by omega)
    rw [pw1] at hb
    obtain ⟨s, hs⟩ : ∃ s, s = getL zs x.toNat 1 0 0 := ⟨_, rfl⟩
    have HS : Hid (s = getL zs x.toNat 1 0 0) := hs
    rw [← hs] at hb
    have HG := get_65 hA x ht
    rw [← hs] at HG
    clear hs
    go_enter Try.func24, Try.ntmps24
    go_wp2_with (first | (go_at_call 16; refine (num_any _ _).mono ?_; rintro e w' ⟨rfl, rfl⟩) | (go_at_call 65; go_must (refine HG.mono ?_); rintro e w' ⟨rfl, hf⟩))
    go_ret2
    refine ⟨?_, hf⟩
    rw [show (1 : Int).toNat = 1 from rfl, ← HS.out]
    rfl
  · have hb := getL_lt zs x.toNat 1 hA.hz (by omega)
    rw [pw1] at hb
    obtain ⟨s, hs⟩ : ∃ s, s = getL zs x.toNat 1 0 0 := ⟨_, rfl⟩
    have HS : Hid (s = getL zs x.toNat 1 0 0) := hs
    rw [← hs] at hb
    have HG := get_64 hA x ht
    rw [← hs] at HG
    clear hs
    go_enter Try.func24, Try.ntmps24
    go_wp2_with (first | (go_at_call 16; refine (num_any _ _).mono ?_; rintro e w' ⟨rfl, rfl⟩) | (go_at_call 64; go_must (refine HG.mono ?_); rintro e w' ⟨rfl, hf⟩))
    go_ret2
    refine ⟨?_, hf⟩
    rw [show (1 : Int).toNat = 1 from rfl, ← HS.out]
    rfl
  · have hb := getL_lt zs x.toNat 2 hA.hz (by omega)
    rw [pw2] at hb
    obtain ⟨s, hs⟩ : ∃ s, s = getL zs x.toNat 2 0 0 := ⟨_, rfl⟩
    have HS : Hid (s = getL zs x.toNat 2 0 0) := hs
    rw [← hs] at hb
    have HG := get_53 hA x ht
    rw [← hs] at HG
    clear hs
    go_enter Try.func24, Try.ntmps24
    go_wp2_with (first | (go_at_call 16; refine (num_any _ _).mono ?_; rintro e w' ⟨rfl, rfl⟩) | (go_at_call 53; go_must (refine HG.mono ?_); rintro e w' ⟨rfl, hf⟩))
    go_ret2
    refine ⟨?_, hf⟩
    rw [show (2 : Int).toNat = 2 from rfl, ← HS.out]
    rfl
  · have hb := getL_lt zs x.toNat 2 hA.hz (by omega)
    rw [pw2] at hb
    obtain ⟨s, hs⟩ : ∃ s, s = getL zs x.toNat 2 0 0 := ⟨_, rfl⟩
    have HS : Hid (s = getL zs x.toNat 2 0 0) := hs
    rw [← hs] at hb
    have HG := get_66 hA x ht
    rw [← hs] at HG
    clear hs
    go_enter Try.func24, Try.ntmps24
    go_wp2_with (first | (go_at_call 16; refine (num_any _ _).mono ?_; rintro e w' ⟨rfl, rfl⟩) | (go_at_call 66; go_must (refine HG.mono ?_); rintro e w' ⟨rfl, hf⟩))
    go_ret2
    refine ⟨?_, hf⟩
    rw [show (2 : Int).toNat = 2 from rfl, ← HS.out]
    rfl
  · have hb := getL_lt zs x.toNat 4 hA.hz (by omega)
    rw [pw4] at hb
    obtain ⟨s, hs⟩ : ∃ s, s = getL zs x.toNat 4 0 0 := ⟨_, rfl⟩
    have HS : Hid (s = getL zs x.toNat 4 0 0) := hs
    rw [← hs] at hb
    have HG := get_68 hA x ht
    rw [← hs] at HG
    clear hs
    go_enter Try.func24, Try.ntmps24
    go_wp2_with (first | (go_at_call 16; refine (num_any _ _).mono ?_; rintro e w' ⟨rfl, rfl⟩) | (go_at_call 68; go_must (refine HG.mono ?_); rintro e w' ⟨rfl, hf⟩))
    go_ret2
    refine ⟨?_, hf⟩
    rw [show (4 : Int).toNat = 4 from rfl, ← HS.out]
    rfl
  · have hb := getL_lt zs x.toNat 4 hA.hz (by omega)
    rw [pw4] at hb
    obtain ⟨s, hs⟩ : ∃ s, s = getL zs x.toNat 4 0 0 := ⟨_, rfl⟩
    have HS : Hid (s = getL zs x.toNat 4 0 0) := hs
    rw [← hs] at hb
    have HG := get_67 hA x ht
    rw [← hs] at HG
    clear hs
    go_enter Try.func24, Try.ntmps24
    go_wp2_with (first | (go_at_call 16; refine (num_any _ _).mono ?_; rintro e w' ⟨rfl, rfl⟩) | (go_at_call 67; go_must (refine HG.mono ?_); rintro e w' ⟨rfl, hf⟩))
    go_ret2
    refine ⟨?_, hf⟩
    rw [show (4 : Int).toNat = 4 from rfl, ← HS.out]
    rfl
  · have hb := getL_lt zs x.toNat 8 hA.hz (by omega)
    rw [pw8] at hb
    obtain ⟨s, hs⟩ : ∃ s, s = getL zs x.toNat 8 0 0 := ⟨_, rfl⟩
    have HS : Hid (s = getL zs x.toNat 8 0 0) := hs
    rw [← hs] at hb
    have HG := get_70 hA x ht
    rw [← hs] at HG
    clear hs
    go_enter Try.func24, Try.ntmps24
    go_wp2_with (first | (go_at_call 16; refine (num_any _ _).mono ?_; rintro e w' ⟨rfl, rfl⟩) | (go_at_call 70; go_must (refine HG.mono ?_); rintro e w' ⟨rfl, hf⟩))
    go_ret2
    refine ⟨?_, hf⟩
    rw [show (8 : Int).toNat = 8 from rfl, ← HS.out]
    rfl
  · have hb := getL_lt zs x.toNat 8 hA.hz (by omega)
    rw [pw8] at hb
    obtain ⟨s, hs⟩ : ∃ s, s = getL zs x.toNat 8 0 0 := ⟨_, rfl⟩
    have HS : Hid (s = getL zs x.toNat 8 0 0) := hs
    rw [← hs] at hb
    have HG := get_69 hA x ht
    rw [← hs] at HG
    clear hs
    go_enter Try.func24, Try.ntmps24
    go_wp2_with (first | (go_at_call 16; refine (num_any _ _).mono ?_; rintro e w' ⟨rfl, rfl⟩) | (go_at_call 69; go_must (refine HG.mono ?_); rintro e w' ⟨rfl, hf⟩))
    go_ret2
    refine ⟨?_, hf⟩
    rw [show (8 : Int).toNat = 8 from rfl, ← HS.out]
    rfl

set_option maxHeartbeats 1000000 in
theorem get_no {w : World} {b g ps pages : Nat} {zs : List Int} (hA : IsA w b g ps pages zs) (x k : Int) (own : Bool) (hk : isWidth k) (hx : x ≤ 9223372036854775807) (ht : ¬ There ps zs.length x k) :
    Calls Try.prog 24 #[.pointer (some ⟨b, 0, none⟩), .int .i64 x, .int .i64 k, .bool own] w fun e w' => e = .returned (.tuple #[.int .u64 0, .int .i64 20]) ∧ w.grownBy w' none := by
  rcases hk with rfl | rfl | rfl | rfl <;> cases own
  · go_enter Try.func24, Try.ntmps24
    go_wp2_with (first | (go_at_call 16; refine (num_any _ _).mono ?_; rintro e w' ⟨rfl, rfl⟩) | (go_at_call 65; go_must (refine (get_65_no hA x hx ht).mono ?_); rintro e w' ⟨rfl, hf⟩))
    go_ret2
    exact ⟨rfl, hf⟩
  · go_enter Try.func24, Try.ntmps24
    go_wp2_with (first | (go_at_call 16; refine (num_any _ _).mono ?_; rintro e w' ⟨rfl, rfl⟩) | (go_at_call 64; go_must (refine (get_64_no hA x hx ht).mono ?_); rintro e w' ⟨rfl, hf⟩))
    go_ret2
    exact ⟨rfl, hf⟩
  · go_enter Try.func24, Try.ntmps24
    go_wp2_with (first | (go_at_call 16; refine (num_any _ _).mono ?_; rintro e w' ⟨rfl, rfl⟩) | (go_at_call 53; go_must (refine (get_53_no hA x hx ht).mono ?_); rintro e w' ⟨rfl, hf⟩))
    go_ret2
    exact ⟨rfl, hf⟩
  · go_enter Try.func24, Try.ntmps24
    go_wp2_with (first | (go_at_call 16; refine (num_any _ _).mono ?_; rintro e w' ⟨rfl, rfl⟩) | (go_at_call 66; go_must (refine (get_66_no hA x hx ht).mono ?_); rintro e w' ⟨rfl, hf⟩))
    go_ret2
    exact ⟨rfl, hf⟩
  · go_enter Try.func24, Try.ntmps24
    go_wp2_with (first | (go_at_call 16; refine (num_any _ _).mono ?_; rintro e w' ⟨rfl, rfl⟩) | (go_at_call 68; go_must (refine (get_68_no hA x hx ht).mono ?_); rintro e w' ⟨rfl, hf⟩))
    go_ret2
    exact ⟨rfl, hf⟩
  · go_enter Try.func24, Try.ntmps24
    go_wp2_with (first | (go_at_call 16; refine (num_any _ _).mono ?_; rintro e w' ⟨rfl, rfl⟩) | (go_at_call 67; go_must (refine (get_67_no hA x hx ht).mono ?_); rintro e w' ⟨rfl, hf⟩))
    go_ret2
    exact ⟨rfl, hf⟩
  · go_enter Try.func24, Try.ntmps24
    go_wp2_with (first | (go_at_call 16; refine (num_any _ _).mono ?_; rintro e w' ⟨rfl, rfl⟩) | (go_at_call 70; go_must (refine (get_70_no hA x hx ht).mono ?_); rintro e w' ⟨rfl, hf⟩))
    go_ret2
    exact ⟨rfl, hf⟩
  · go_enter Try.func24, Try.ntmps24
    go_wp2_with (first | (go_at_call 16; refine (num_any _ _).mono ?_; rintro e w' ⟨rfl, rfl⟩) | (go_at_call 69; go_must (refine (get_69_no hA x hx ht).mono ?_); rintro e w' ⟨rfl, hf⟩))
    go_ret2
    exact ⟨rfl, hf⟩

set_option maxHeartbeats 1000000 in
theorem get_nil (w : World) (x k : Int) (own : Bool) (hk : isWidth k) :
    Calls Try.prog 24 #[.pointer none, .int .i64 x, .int .i64 k, .bool own] w fun e w' => e = .returned (.tuple #[.int .u64 0, .int .i64 1]) ∧ w = w' := by
  rcases hk with rfl | rfl | rfl | rfl <;> cases own
  · go_enter Try.func24, Try.ntmps24
    go_wp2_with (first | (go_at_call 16; refine (num_any _ _).mono ?_; rintro e w' ⟨rfl, rfl⟩) | (go_at_call 65; go_must (refine (get_65_nil _ _).mono ?_); rintro e w' ⟨rfl, rfl⟩))
    go_ret2
    exact ⟨rfl, rfl⟩
  · go_enter Try.func24, Try.ntmps24
    go_wp2_with (first | (go_at_call 16; refine (num_any _ _).mono ?_; rintro e w' ⟨rfl, rfl⟩) | (go_at_call 64; go_must (refine (get_64_nil _ _).mono ?_); rintro e w' ⟨rfl, rfl⟩))
    go_ret2
    exact ⟨rfl, rfl⟩
  · go_enter Try.func24, Try.ntmps24
    go_wp2_with (first | (go_at_call 16; refine (num_any _ _).mono ?_; rintro e w' ⟨rfl, rfl⟩) | (go_at_call 53; go_must (refine (get_53_nil _ _).mono ?_); rintro e w' ⟨rfl, rfl⟩))
    go_ret2
    exact ⟨rfl, rfl⟩
  · go_enter Try.func24, Try.ntmps24
    go_wp2_with (first | (go_at_call 16; refine (num_any _ _).mono ?_; rintro e w' ⟨rfl, rfl⟩) | (go_at_call 66; go_must (refine (get_66_nil _ _).mono ?_); rintro e w' ⟨rfl, rfl⟩))
    go_ret2
    exact ⟨rfl, rfl⟩
  · go_enter Try.func24, Try.ntmps24
    go_wp2_with (first | (go_at_call 16; refine (num_any _ _).mono ?_; rintro e w' ⟨rfl, rfl⟩) | (go_at_call 68; go_must (refine (get_68_nil _ _).mono ?_); rintro e w' ⟨rfl, rfl⟩))
    go_ret2
    exact ⟨rfl, rfl⟩
  · go_enter Try.func24, Try.ntmps24
    go_wp2_with (first | (go_at_call 16; refine (num_any _ _).mono ?_; rintro e w' ⟨rfl, rfl⟩) | (go_at_call 67; go_must (refine (get_67_nil _ _).mono ?_); rintro e w' ⟨rfl, rfl⟩))
    go_ret2
    exact ⟨rfl, rfl⟩
  · go_enter Try.func24, Try.ntmps24
    go_wp2_with (first | (go_at_call 16; refine (num_any _ _).mono ?_; rintro e w' ⟨rfl, rfl⟩) | (go_at_call 70; go_must (refine (get_70_nil _ _).mono ?_); rintro e w' ⟨rfl, rfl⟩))
    go_ret2
    exact ⟨rfl, rfl⟩
  · go_enter Try.func24, Try.ntmps24
    go_wp2_with (first | (go_at_call 16; refine (num_any _ _).mono ?_; rintro e w' ⟨rfl, rfl⟩) | (go_at_call 69; go_must (refine (get_69_nil _ _).mono ?_); rintro e w' ⟨rfl, rfl⟩))
    go_ret2
    exact ⟨rfl, rfl⟩

end Go.Proofs.Ytknhoncnaigogaa
