import Derived.Test.YtndjimdegkdljaaW
/-
  NewDisk refused, of both.
-/
namespace Go.Proofs.Ytndjimdegkdljaa
open Go.RowKit Go.MapKept
set_option linter.unusedVariables false
set_option linter.unusedSimpArgs false
attribute [local go_sem] Oper.semAt_some

set_option maxRecDepth 100000 in
theorem new_6x (n : Int) (h0 : ¬ (0 ≤ n ∧ n ≤ 1099511627776)) (w : World) :
    Calls Try.prog 6 #[.int .i64 n] w fun e w' => ∃ v, e = .returned (.tuple #[.pointer none, v]) ∧ ErrV w' v [110, 101, 119, 100, 105, 115, 107] [] 1 ∧ w.grownBy w' none := by
  have h30 := fun W => refusal_30 [110, 101, 119, 100, 105, 115, 107] [] 1 W
  by_cases hn : n < 0
  · have d0 : decide (n < 0) = true := decide_eq_true hn
    go_enter Try.func6, Try.ntmps6
    go_wp2_with (go_at_call 30; go_must (refine (h30 _).mono ?_); rintro e w1 ⟨v, rfl, hv, g1⟩)
    go_ret2
    exact ⟨v, rfl, hv, g1⟩
  · have hn2 : (1099511627776 : Int) < n := by omega
    have d0 : decide (n < 0) = false := decide_eq_false hn
    have d1 : decide ((1099511627776 : Int) < n) = true := decide_eq_true hn2
    go_enter Try.func6, Try.ntmps6
    go_wp2_with (go_at_call 30; go_must (refine (h30 _).mono ?_); rintro e w1 ⟨v, rfl, hv, g1⟩)
    go_ret2
    exact ⟨v, rfl, hv, g1⟩
set_option maxRecDepth 100000 in
theorem rnew_7x (n : Int) (h0 : ¬ (0 ≤ n ∧ n ≤ 1099511627776)) (w : World) :
    Calls Try.prog 7 #[.int .i64 n] w fun e w' => e = .returned (.tuple #[.pointer none, .agg #[sv [110, 101, 119, 100, 105, 115, 107], sv [], .int .i64 1]]) ∧ w.grownBy w' none := by
  by_cases hn : n < 0
  · have d0 : decide (n < 0) = true := decide_eq_true hn
    go_enter Try.func7, Try.ntmps7
    go_wp2
    refine bodyPost_ret (v := .tuple #[.pointer none, .agg #[sv [110, 101, 119, 100, 105, 115, 107], sv [], .int .i64 1]]) (by simp [results, Try.results7, go_sem]) rfl ⟨rfl, ?_⟩
    exact gb_alloc (gb_refl _ _) _
  · have hn2 : (1099511627776 : Int) < n := by omega
    have d0 : decide (n < 0) = false := decide_eq_false hn
    have d1 : decide ((1099511627776 : Int) < n) = true := decide_eq_true hn2
    go_enter Try.func7, Try.ntmps7
    go_wp2
    refine bodyPost_ret (v := .tuple #[.pointer none, .agg #[sv [110, 101, 119, 100, 105, 115, 107], sv [], .int .i64 1]]) (by simp [results, Try.results7, go_sem]) rfl ⟨rfl, ?_⟩
    exact gb_alloc (gb_refl _ _) _
end Go.Proofs.Ytndjimdegkdljaa
