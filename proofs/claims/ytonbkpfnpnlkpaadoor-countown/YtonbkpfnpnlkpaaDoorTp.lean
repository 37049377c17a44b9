/-
  CountTop.
-/
import Derived.Test.YtonbkpfnpnlkpaaDoorN
namespace Go.Proofs.YtonbkpfnpnlkpaaDoor
open Go.RowKit
set_option linter.unusedVariables false
set_option linter.unusedSimpArgs false
attribute [local go_sem] Oper.semAt_some

/-- A row of numbers without a sign. -/
def Us (w : World) (v : Value) (l : List Nat) : Prop := ∃ ao c, v = .slice ao l.length c ∧ l.length ≤ c ∧ c ≤ maxLen ∧ (∀ x ∈ l, x ≤ 18446744073709551615) ∧ (∀ (i x : Nat), l[i]? = some x → ∃ g o, ao = some ⟨g, o, none⟩ ∧ w.cell? ⟨g, o + i, none⟩ = some (.int .u64 (x : Nat)))
/-- The name that the law makes of a number. -/
def nmOf (n : Int) : Nat := ((if n < 0 then -(n + 1) else n) % 30).toNat
theorem nmOf_lt (n : Int) : nmOf n < 30 := by unfold nmOf; split <;> omega
theorem upd_plus (m s x : Nat) (hs : s ≤ 18446744073709551615) : plus (upd N0 m s) (sgl m x) = upd N0 m (min (s + x) 18446744073709551615) := by
  funext i; simp only [plus, upd, sgl, N0]
  by_cases h : i = m
  · simp [h]
  · simp [h]
theorem upd_fit (m s : Nat) (hs : s ≤ 18446744073709551615) : Fit (upd N0 m s) := by
  intro i; simp only [upd, N0]; split <;> omega
theorem rd_upd (i s : Nat) (hi : i < 30) : rd (upd N0 (i + 1) s) ((i : Int) + 1) = s := by
  simp only [rd]; rw [if_pos (by simp [nm]; omega)]; simp only [upd]; rw [if_pos (by omega)]
end Go.Proofs.YtonbkpfnpnlkpaaDoor
