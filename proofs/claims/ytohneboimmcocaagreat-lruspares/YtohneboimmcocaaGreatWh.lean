import Derived.Test.YtohneboimmcocaaGreatWg
/-
  Lru: New, the document's too.
-/
namespace Go.Proofs.YtohneboimmcocaaGreat
open Go.RowKit
set_option linter.unusedVariables false

/-- Shares that may be. -/
def Shr (x y : Int) : Prop := 1 ≤ x ∧ 1 ≤ y ∧ x + y ≤ 90
set_option maxRecDepth 100000 in
theorem shares_yes {x y : Int} (h : Shr x y) (w : World) : Calls Tryz.prog 70 #[.int .i64 x, .int .i64 y] w fun r w' => r = .returned (.bool true) ∧ w = w' := by
  obtain ⟨h1, h2, h3⟩ := h
  have e1 : IntKind.i64.wrap (90 - x) = 90 - x := by rw [IntKind.wrap_i64]; omega
  have d1 : decide (x ≥ 1) = true := decide_eq_true h1
  have d2 : decide (y ≥ 1) = true := decide_eq_true h2
  have d3 : decide (y ≤ 90 - x) = true := decide_eq_true (by omega)
  go_enter Tryz.func70, Tryz.ntmps70
  go_wp2
  go_ret
  exact ⟨by simp, rfl⟩
set_option maxRecDepth 100000 in
theorem shares_no {x y : Int} (hx : -9223372036854775808 ≤ x ∧ x < 9223372036854775808) (hy : -9223372036854775808 ≤ y ∧ y < 9223372036854775808) (h : ¬ Shr x y) (w : World) : Calls Tryz.prog 70 #[.int .i64 x, .int .i64 y] w fun r w' => r = .returned (.bool false) ∧ w = w' := by
  unfold Shr at h
  by_cases h1 : 1 ≤ x
  · by_cases h2 : 1 ≤ y
    · have e1 : IntKind.i64.wrap (90 - x) = 90 - x := by rw [IntKind.wrap_i64]; omega
      have h3 : ¬ y ≤ 90 - x := by omega
      clear h
      go_enter Tryz.func70, Tryz.ntmps70
      go_wp2
      go_ret
      exact ⟨by simp, rfl⟩
    · clear h
      go_enter Tryz.func70, Tryz.ntmps70
      go_wp2
      go_ret
      exact ⟨by simp, rfl⟩
  · clear h
    go_enter Tryz.func70, Tryz.ntmps70
    go_wp2
    go_ret
    exact ⟨by simp, rfl⟩
set_option maxRecDepth 100000 in
theorem lnew_yes {x y : Int} (h : Shr x y) (sb qb : Nat) (w : World) : Calls Tryz.prog 24 #[.pointer (some ⟨sb, 0, none⟩), .pointer (some ⟨qb, 0, none⟩), .int .i64 x, .int .i64 y] w fun r w' => r = .returned (.tuple #[.pointer (some ⟨w.heap.size, 0, none⟩), .int .i64 0]) ∧ w' = w.alloc (.cells #[.pointer (some ⟨sb, 0, none⟩), .pointer (some ⟨qb, 0, none⟩), .int .i64 x, .int .i64 y] 120) := by
  have hs := fun W => shares_yes h W
  go_enter Tryz.func24, Tryz.ntmps24
  go_wp2_with (go_at_call 70; go_must (refine (hs _).mono ?_); rintro r w' ⟨rfl, rfl⟩)
  go_ret2
  exact ⟨rfl, rfl⟩
set_option maxRecDepth 100000 in
theorem lnew_no {x y : Int} (hx : -9223372036854775808 ≤ x ∧ x < 9223372036854775808) (hy : -9223372036854775808 ≤ y ∧ y < 9223372036854775808) (h : ¬ Shr x y) (sb qb : Nat) (w : World) : Calls Tryz.prog 24 #[.pointer (some ⟨sb, 0, none⟩), .pointer (some ⟨qb, 0, none⟩), .int .i64 x, .int .i64 y] w fun r w' => r = .returned (.tuple #[.pointer none, .int .i64 1]) ∧ w = w' := by
  have hs := fun W => shares_no hx hy h W
  go_enter Tryz.func24, Tryz.ntmps24
  go_wp2_with (go_at_call 70; go_must (refine (hs _).mono ?_); rintro r w' ⟨rfl, rfl⟩)
  go_ret2
  exact ⟨rfl, rfl⟩
set_option maxRecDepth 100000 in
theorem lnew_nil1 (x y : Int) (qb : Nat) (w : World) : Calls Tryz.prog 24 #[.pointer none, .pointer (some ⟨qb, 0, none⟩), .int .i64 x, .int .i64 y] w fun r w' => r = .returned (.tuple #[.pointer none, .int .i64 1]) ∧ w = w' := by
  go_enter Tryz.func24, Tryz.ntmps24
  go_wp2
  go_ret2
  exact ⟨rfl, rfl⟩
set_option maxRecDepth 100000 in
theorem lnew_nil2 (x y : Int) (sb : Nat) (w : World) : Calls Tryz.prog 24 #[.pointer (some ⟨sb, 0, none⟩), .pointer none, .int .i64 x, .int .i64 y] w fun r w' => r = .returned (.tuple #[.pointer none, .int .i64 1]) ∧ w = w' := by
  go_enter Tryz.func24, Tryz.ntmps24
  go_wp2
  go_ret2
  exact ⟨rfl, rfl⟩
set_option maxRecDepth 100000 in
theorem rlnew_yes {x y : Int} (h : Shr x y) (lb : Nat) (w : World) : Calls Tryz.prog 25 #[.pointer (some ⟨lb, 0, none⟩), .int .i64 x, .int .i64 y] w fun r w' => r = .returned (.tuple #[.pointer (some ⟨w.heap.size, 0, none⟩), .int .i64 0]) ∧ w' = w.alloc (.cells #[.pointer (some ⟨lb, 0, none⟩), .int .i64 x, .int .i64 y, .slice none 0 0] 104) := by
  obtain ⟨h1, h2, h3⟩ := h
  have e1 : IntKind.i64.wrap (x + y) = x + y := by rw [IntKind.wrap_i64]; omega
  have d1 : decide (x < 1) = false := decide_eq_false (by omega)
  have d2 : decide (y < 1) = false := decide_eq_false (by omega)
  have d3 : decide (x > 90) = false := decide_eq_false (by omega)
  have d4 : decide (y > 90) = false := decide_eq_false (by omega)
  have d5 : decide (x + y > 90) = false := decide_eq_false (by omega)
  have f1 : ¬ x < 1 := by omega
  have f2 : ¬ y < 1 := by omega
  have f3 : ¬ 90 < x := by omega
  have f4 : ¬ 90 < y := by omega
  have f5 : ¬ 90 < x + y := by omega
  go_enter Tryz.func25, Tryz.ntmps25
  go_wp2
  go_ret2
  exact ⟨rfl, rfl⟩
set_option maxRecDepth 100000 in
theorem rlnew_no {x y : Int} (hx : -9223372036854775808 ≤ x ∧ x < 9223372036854775808) (hy : -9223372036854775808 ≤ y ∧ y < 9223372036854775808) (h : ¬ Shr x y) (lb : Nat) (w : World) : Calls Tryz.prog 25 #[.pointer (some ⟨lb, 0, none⟩), .int .i64 x, .int .i64 y] w fun r w' => r = .returned (.tuple #[.pointer none, .int .i64 1]) ∧ w = w' := by
  unfold Shr at h
  by_cases h1 : x < 1
  · have d1 : decide (x < 1) = true := decide_eq_true h1
    clear h
    go_enter Tryz.func25, Tryz.ntmps25
    go_wp2
    go_ret2
    exact ⟨rfl, rfl⟩
  · by_cases h2 : y < 1
    · have d1 : decide (x < 1) = false := decide_eq_false h1
      have d2 : decide (y < 1) = true := decide_eq_true h2
      clear h
      go_enter Tryz.func25, Tryz.ntmps25
      go_wp2
      go_ret2
      exact ⟨rfl, rfl⟩
    · have d1 : decide (x < 1) = false := decide_eq_false h1
      have d2 : decide (y < 1) = false := decide_eq_false h2
      by_cases h3 : x > 90
      · have d3 : decide (x > 90) = true := decide_eq_true h3
        have f3 : 90 < x := h3
        clear h
        go_enter Tryz.func25, Tryz.ntmps25
        go_wp2
        go_ret2
        exact ⟨rfl, rfl⟩
      · have d3 : decide (x > 90) = false := decide_eq_false h3
        have f3 : ¬ 90 < x := h3
        by_cases h4 : y > 90
        · have d4 : decide (y > 90) = true := decide_eq_true h4
          have f4 : 90 < y := h4
          clear h
          go_enter Tryz.func25, Tryz.ntmps25
          go_wp2
          go_ret2
          exact ⟨rfl, rfl⟩
        · have d4 : decide (y > 90) = false := decide_eq_false h4
          have f4 : ¬ 90 < y := h4
          have f5 : 90 < x + y := by omega
          have d5 : decide (x + y > 90) = true := decide_eq_true f5
          have e1 : IntKind.i64.wrap (x + y) = x + y := by rw [IntKind.wrap_i64]; omega
          clear h
          go_enter Tryz.func25, Tryz.ntmps25
          go_wp2
          go_ret2
          exact ⟨rfl, rfl⟩
end Go.Proofs.YtohneboimmcocaaGreat
