import Derived.Test.YtoaaaeefcipdcaaMp
/-
  The sizes of the classes, as numbers.
-/
namespace Go.Proofs.Ytoaaaeefcipdcaa
open Go.RowKit
set_option linter.unusedVariables false

/-- A number rounded up to a multiple of 8. -/
def limOf (il : Nat) : Nat := (il + 7) / 8 * 8
/-- The size behind s. -/
def nxt (F L s : Nat) : Nat := min L ((s * F + 799) / 800 * 8)
def chain (F L s0 : Nat) : Nat → Nat
  | 0 => s0
  | k + 1 => nxt F L (chain F L s0 k)
/-- There are n classes. -/
def Cls (F L s0 n : Nat) : Prop := 1 ≤ n ∧ L ≤ chain F L s0 (n - 1) ∧ ∀ j, j < n - 1 → chain F L s0 j < L
/-- Numbers that sizes are made of. -/
structure GoodF (F L s0 : Nat) : Prop where
  f0 : 105 ≤ F
  f1 : F ≤ 400
  s64 : 64 ≤ s0
  sL : s0 ≤ L
  s8 : s0 % 8 = 0
  l8 : L % 8 = 0
  l1 : L ≤ 1048576

theorem limOf_8 (n : Nat) : limOf n % 8 = 0 := by simp [limOf]
theorem limOf_ge (n : Nat) : n ≤ limOf n ∧ limOf n < n + 8 := by simp only [limOf]; omega

theorem chain_facts {F L s0 : Nat} (h : GoodF F L s0) : ∀ k, chain F L s0 k % 8 = 0 ∧ s0 ≤ chain F L s0 k ∧ chain F L s0 k ≤ L
  | 0 => ⟨h.s8, Nat.le_refl _, h.sL⟩
  | k + 1 => by
    obtain ⟨h1, h2, h3⟩ := chain_facts h k
    obtain ⟨f0, f1, a, b, c, d, e⟩ := h
    simp only [chain, nxt]
    generalize hs : chain F L s0 k = s at *
    have hm : s * 105 ≤ s * F := Nat.mul_le_mul_left _ f0
    have hge : s ≤ (s * F + 799) / 800 * 8 := by omega
    rcases Nat.le_total L ((s * F + 799) / 800 * 8) with hc | hc
    · rw [Nat.min_eq_left hc]; exact ⟨d, b, Nat.le_refl _⟩
    · rw [Nat.min_eq_right hc]; exact ⟨by omega, by omega, hc⟩

theorem chain_up {F L s0 : Nat} (h : GoodF F L s0) (k : Nat) (hk : chain F L s0 k < L) : chain F L s0 k + 8 ≤ chain F L s0 (k + 1) := by
  obtain ⟨h1, h2, h3⟩ := chain_facts h k
  obtain ⟨f0, f1, a, b, c, d, e⟩ := h
  simp only [chain, nxt]
  generalize hs : chain F L s0 k = s at *
  have hm : s * 105 ≤ s * F := Nat.mul_le_mul_left _ f0
  have : s + 8 ≤ (s * F + 799) / 800 * 8 := by omega
  omega

theorem chain_lt {F L s0 n : Nat} (h : GoodF F L s0) (hn : Cls F L s0 n) : ∀ {i j : Nat}, i < j → j < n → chain F L s0 i + 8 ≤ chain F L s0 j := by
  intro i j hij hj
  obtain ⟨c1, c2, c3⟩ := hn
  induction j with
  | zero => omega
  | succ j ih =>
    have h1 := chain_up h j (c3 j (by omega))
    rcases Nat.lt_or_ge i j with hlt | hge
    · have := ih hlt (by omega); omega
    · have : i = j := by omega
      subst this; exact h1

theorem chain_last {F L s0 n : Nat} (h : GoodF F L s0) (hn : Cls F L s0 n) : chain F L s0 (n - 1) = L := by
  have := (chain_facts h (n - 1)).2.2
  have := hn.2.1
  omega

/-- There are as many classes as may be, or too many. -/
theorem cls_or (F L s0 : Nat) (m : Nat) : (∃ n, n ≤ m ∧ Cls F L s0 n) ∨ ∀ j, j < m → chain F L s0 j < L := by
  induction m with
  | zero => exact .inr fun j h => by omega
  | succ m ih =>
    rcases ih with ⟨n, h1, h2⟩ | h
    · exact .inl ⟨n, by omega, h2⟩
    · by_cases hl : chain F L s0 m < L
      · refine .inr fun j hj => ?_
        rcases Nat.lt_or_ge j m with h1 | h1
        · exact h j h1
        · have : j = m := by omega
          subst this; exact hl
      · exact .inl ⟨m + 1, Nat.le_refl _, by omega, by simpa using hl, fun j hj => h j (by omega)⟩

theorem cls_uniq {F L s0 n m : Nat} (h : Cls F L s0 n) (k : Cls F L s0 m) : n = m := by
  obtain ⟨a1, a2, a3⟩ := h
  obtain ⟨b1, b2, b3⟩ := k
  rcases Nat.lt_trichotomy n m with h | h | h
  · have := b3 (n - 1) (by omega); omega
  · exact h
  · have := a3 (m - 1) (by omega); omega

/-- The sizes, as values. -/
def szL (F L s0 n : Nat) : List Nat := (List.range n).map (chain F L s0)
def ints (xs : List Nat) : List Value := xs.map fun (n : Nat) => Value.int .i64 (n : Int)
theorem length_szL (F L s0 n : Nat) : (szL F L s0 n).length = n := by simp [szL]
theorem szL_succ (F L s0 n : Nat) : szL F L s0 (n + 1) = szL F L s0 n ++ [chain F L s0 n] := by simp [szL, List.range_succ]
theorem szL_get (F L s0 n i : Nat) (h : i < n) : (szL F L s0 n)[i]? = some (chain F L s0 i) := by simp [szL, h]
theorem ints_get (xs : List Nat) (i : Nat) (x : Nat) (h : xs[i]? = some x) : (ints xs)[i]? = some (.int .i64 (x : Int)) := by simp [ints, h]
theorem ints_snoc (xs : List Nat) (x : Nat) : ints (xs ++ [x]) = ints xs ++ [.int .i64 (x : Int)] := by simp [ints]
theorem length_ints (xs : List Nat) : (ints xs).length = xs.length := by simp [ints]

/-- What the document's loop finds: the least multiple of 8 above s that is not below the factor's. -/
theorem up_eq {F L s0 : Nat} (h : GoodF F L s0) (s n : Nat) (hs : s % 8 = 0) (h0 : 64 ≤ s) (hn : n % 8 = 0) (hle : n ≤ (s * F + 799) / 800 * 8) (hge : ¬ 100 * n < s * F) : n = (s * F + 799) / 800 * 8 := by
  omega
theorem up_first {F L s0 : Nat} (h : GoodF F L s0) (s : Nat) (hs : s % 8 = 0) (h0 : 64 ≤ s) : s + 8 ≤ (s * F + 799) / 800 * 8 := by
  have hm : s * 105 ≤ s * F := Nat.mul_le_mul_left _ h.f0
  omega
theorem up_more (s F n : Nat) (hn : n % 8 = 0) (h : 100 * n < s * F) : n + 8 ≤ (s * F + 799) / 800 * 8 := by
  omega

end Go.Proofs.Ytoaaaeefcipdcaa
