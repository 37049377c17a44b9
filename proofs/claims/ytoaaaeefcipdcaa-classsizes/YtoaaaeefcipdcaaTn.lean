/-
  ClassSizes' walk, of whatever came in.
-/
import Derived.Test.YtoaaaeefcipdcaaTm
namespace Go.Proofs.Ytoaaaeefcipdcaa
open Go.RowKit
set_option linter.unusedVariables false

theorem csizes_any (x0 x1 x2 x3 x4 x5 x6 : Int) (a : Option Addr) (na c : Nat) (w : World) (hna : na ≤ maxLen) (hin : IntsIn w a na) : Calls Try.prog 4 #[.agg #[.int .i64 x0, .int .i64 x1, .int .i64 x2, .int .i64 x3, .int .i64 x4, .int .i64 x5, .int .i64 x6], .slice a na c] w fun e w' => e = .returned (.bool true) ∧ w.grownBy w' none := by
  obtain ⟨r, hr⟩ := refd_ex x0 x1 x2 x3 x4
  by_cases h0 : r ≠ 0 ∨ 2097152 / x0 < x1
  · exact sizes_none (x5 := x5) (x6 := x6) a na c w hr h0
  · have h1 : r = 0 := by
      rcases Classical.em (r = 0) with h | h
      · exact h
      · exact absurd (.inl h) h0
    have h2 : ¬ 2097152 / x0 < x1 := fun h => h0 (.inr h)
    subst h1
    obtain ⟨hV, n, hNC, hmn⟩ := refd_zero hr
    obtain ⟨ps, m, F, s0, il, rfl, rfl, rfl, rfl, rfl, hC⟩ := hV.cfg
    obtain ⟨hn62, hcls⟩ := hNC
    simp only [Int.toNat_natCast] at hcls
    obtain ⟨n1, rfl⟩ : ∃ n1, n = n1 + 1 := ⟨n - 1, by have := hcls.1; omega⟩
    exact sizes_some hC x5 x6 hn62 hcls (by omega) hr h2 a na c w hna hin

end Go.Proofs.Ytoaaaeefcipdcaa
