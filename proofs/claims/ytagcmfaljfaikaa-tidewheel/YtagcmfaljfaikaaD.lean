/-
  Functions on numbers.
-/
import Derived.Test.YtagcmfaljfaikaaB
namespace Go.Proofs.Ytagcmfaljfaikaa
open Go.RowKit
set_option linter.unusedVariables false

theorem num_16 (n : Int) (w : World) : Calls Try.prog 16 #[.int .i64 n] w fun e w' => e = .returned (.int .i64 n) ∧ w' = w := by
  go_enter Try.func16, Try.ntmps16
  go_wp2
  go_ret
  exact ⟨rfl, rfl⟩

def isI (n : Int) : Prop := -9223372036854775808 ≤ n ∧ n ≤ 9223372036854775807

def clamp (n : Int) : Int := if n < 1 then 1 else if n > 1099511627776 then 1099511627776 else n
def expiry (now t : Int) : Int := if t = 0 then 0 else if t < 0 then clamp now else if t ≤ 2592000 then clamp now + t else t
theorem clamp_le (n : Int) : 1 ≤ clamp n ∧ clamp n ≤ 1099511627776 := by unfold clamp; split; omega; split <;> omega

set_option maxHeartbeats 1000000 in
theorem expiry_10 (now t : Int) (h1 : isI now) (h2 : isI t) (w : World) : Calls Try.prog 10 #[.int .i64 now, .int .i64 t] w fun e w' => e = .returned (.int .i64 (expiry now t)) ∧ w' = w := by
  unfold isI at h1 h2
  have key : ∀ n, n = clamp now → (1 ≤ n ∧ n ≤ 1099511627776) → (if t = 0 then (0 : Int) else if t < 0 then n else if t ≤ 2592000 then n + t else t) = expiry now t := by
    intro n h _; rw [h]; rfl
  by_cases a1 : now < 1
  · have hc : (1 : Int) = clamp now := by unfold clamp; rw [if_pos a1]
    rw [← key 1 hc (by omega)]
    by_cases b1 : t = 0
    · subst b1; go_enter Try.func10, Try.ntmps10; go_wp2; go_ret; simp
    · by_cases b2 : t < 0
      · go_enter Try.func10, Try.ntmps10; go_wp2; go_ret; simp
      · by_cases b3 : t ≤ 2592000
        · go_enter Try.func10, Try.ntmps10; go_wp2; go_ret; simp
        · go_enter Try.func10, Try.ntmps10; go_wp2; go_ret; simp
  · by_cases a2 : now > 1099511627776
    · have hc : (1099511627776 : Int) = clamp now := by unfold clamp; rw [if_neg a1, if_pos a2]
      rw [← key 1099511627776 hc (by omega)]
      by_cases b1 : t = 0
      · subst b1; go_enter Try.func10, Try.ntmps10; go_wp2; go_ret; simp
      · by_cases b2 : t < 0
        · go_enter Try.func10, Try.ntmps10; go_wp2; go_ret; simp
        · by_cases b3 : t ≤ 2592000
          · go_enter Try.func10, Try.ntmps10; go_wp2; go_ret; simp
          · go_enter Try.func10, Try.ntmps10; go_wp2; go_ret; simp
    · have hc : now = clamp now := by unfold clamp; rw [if_neg a1, if_neg a2]
      rw [← key now hc (by omega)]
      clear hc key
      by_cases b1 : t = 0
      · subst b1; go_enter Try.func10, Try.ntmps10; go_wp2; go_ret; simp
      · by_cases b2 : t < 0
        · go_enter Try.func10, Try.ntmps10; go_wp2; go_ret; simp
        · by_cases b3 : t ≤ 2592000
          · go_enter Try.func10, Try.ntmps10; go_wp2; go_ret; simp
          · go_enter Try.func10, Try.ntmps10; go_wp2; go_ret; simp


set_option maxHeartbeats 1000000 in
theorem expiry_9 (now t : Int) (h1 : isI now) (h2 : isI t) (w : World) : Calls Try.prog 9 #[.int .i64 now, .int .i64 t] w fun e w' => e = .returned (.int .i64 (expiry now t)) ∧ w' = w := by
  unfold isI at h1 h2
  have key : ∀ n, n = clamp now → (1 ≤ n ∧ n ≤ 1099511627776) → (if t = 0 then (0 : Int) else if t < 0 then n else if t ≤ 2592000 then n + t else t) = expiry now t := by
    intro n h _; rw [h]; rfl
  by_cases a1 : now < 1
  · have hc : (1 : Int) = clamp now := by unfold clamp; rw [if_pos a1]
    rw [← key 1 hc (by omega)]
    by_cases b1 : t = 0
    · subst b1; go_enter Try.func9, Try.ntmps9; go_wp2; go_ret; simp
    · by_cases b2 : t < 0
      · go_enter Try.func9, Try.ntmps9; go_wp2; go_ret; simp
      · by_cases b3 : t ≤ 2592000
        · go_enter Try.func9, Try.ntmps9; go_wp2; go_ret; simp
        · go_enter Try.func9, Try.ntmps9; go_wp2; go_ret; simp
  · by_cases a2 : now > 1099511627776
    · have hc : (1099511627776 : Int) = clamp now := by unfold clamp; rw [if_neg a1, if_pos a2]
      rw [← key 1099511627776 hc (by omega)]
      by_cases b1 : t = 0
      · subst b1; go_enter Try.func9, Try.ntmps9; go_wp2; go_ret; simp
      · by_cases b2 : t < 0
        · go_enter Try.func9, Try.ntmps9; go_wp2; go_ret; simp
        · by_cases b3 : t ≤ 2592000
          · go_enter Try.func9, Try.ntmps9; go_wp2; go_ret; simp
          · go_enter Try.func9, Try.ntmps9; go_wp2; go_ret; simp
    · have hc : now = clamp now := by unfold clamp; rw [if_neg a1, if_neg a2]
      rw [← key now hc (by omega)]
      clear hc key
      by_cases b1 : t = 0
      · subst b1; go_enter Try.func9, Try.ntmps9; go_wp2; go_ret; simp
      · by_cases b2 : t < 0
        · go_enter Try.func9, Try.ntmps9; go_wp2; go_ret; simp
        · by_cases b3 : t ≤ 2592000
          · go_enter Try.func9, Try.ntmps9; go_wp2; go_ret; simp
          · go_enter Try.func9, Try.ntmps9; go_wp2; go_ret; simp


theorem dead_12 (x k n c : Int) (w : World) : Calls Try.prog 12 #[.int .i64 x, .int .u64 k, .int .i64 n, .int .u64 c] w fun e w' => e = .returned (.bool (decide ((1 ≤ x ∧ x ≤ n) ∨ k ≤ c))) ∧ w' = w := by
  by_cases a1 : x ≥ 1
  · by_cases a2 : x ≤ n
    · go_enter Try.func12, Try.ntmps12; go_wp2; go_ret; simp; omega
    · go_enter Try.func12, Try.ntmps12; go_wp2; go_ret; simp; omega
  · go_enter Try.func12, Try.ntmps12; go_wp2; go_ret; simp; omega
theorem dead_11 (x k n c : Int) (w : World) : Calls Try.prog 11 #[.int .i64 x, .int .u64 k, .int .i64 n, .int .u64 c] w fun e w' => e = .returned (.bool (decide ((1 ≤ x ∧ x ≤ n) ∨ k ≤ c))) ∧ w' = w := by
  by_cases a1 : x ≥ 1
  · by_cases a2 : x ≤ n
    · go_enter Try.func11, Try.ntmps11; go_wp2; go_ret; simp; omega
    · go_enter Try.func11, Try.ntmps11; go_wp2; go_ret; simp; omega
  · go_enter Try.func11, Try.ntmps11; go_wp2; go_ret; simp; omega

theorem above_79 (i : Int) (h : 0 ≤ i) (h2 : i ≤ 1000000000) (w : World) : Calls Try.prog 79 #[.int .i64 i] w fun e w' => e = .returned (.int .i64 ((i - 1).tdiv 2)) ∧ w' = w := by
  go_enter Try.func79, Try.ntmps79
  go_wp2
  go_ret
  simp
theorem left_61 (i : Int) (h : 0 ≤ i) (h2 : i ≤ 1000000000) (w : World) : Calls Try.prog 61 #[.int .i64 i] w fun e w' => e = .returned (.int .i64 (2 * i + 1)) ∧ w' = w := by
  go_enter Try.func61, Try.ntmps61
  go_wp2
  go_ret
  simp
theorem right_62 (i : Int) (h : 0 ≤ i) (h2 : i ≤ 1000000000) (w : World) : Calls Try.prog 62 #[.int .i64 i] w fun e w' => e = .returned (.int .i64 (2 * i + 2)) ∧ w' = w := by
  go_enter Try.func62, Try.ntmps62
  go_wp2
  go_ret
  simp

def enV (e : En) : Value := .agg #[.int .u64 e.h, .int .i64 e.x, .int .i64 e.t]
theorem ahead_78 (a b : En) (w : World) : Calls Try.prog 78 #[enV a, enV b] w fun e w' => e = .returned (.bool (decide (ah a b))) ∧ w.grownBy w' none := by
  unfold enV
  by_cases a1 : a.x = b.x
  · go_enter Try.func78, Try.ntmps78
    go_wp2
    go_ret
    exact ⟨by simp [ah, a1], gb_alloc (gb_alloc (gb_refl _ _) _) _⟩
  · go_enter Try.func78, Try.ntmps78
    go_wp2
    go_ret
    exact ⟨by simp [ah, a1], gb_alloc (gb_alloc (gb_refl _ _) _) _⟩

end Go.Proofs.Ytagcmfaljfaikaa
