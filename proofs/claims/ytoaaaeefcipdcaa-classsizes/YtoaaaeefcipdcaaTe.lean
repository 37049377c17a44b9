/-
  ClassSizes' walk: words.
-/
import Derived.Test.YtoaaaeefcipdcaaTc
import Derived.Test.YtoaaaeefcipdcaaTd
namespace Go.Proofs.Ytoaaaeefcipdcaa
open Go.RowKit
set_option linter.unusedVariables false

/-- A new Set, and the law's own config. -/
structure PS (w0 : World) (sb : Nat) (G : Nat → Prop) (B : Bl) (ps m F s0 il n : Nat) (f g : Int) (cfb : Nat) (W : World) : Prop where
  is : IsS W sb G B m F s0 il f g (A0 ps m n (chain F (limOf il) s0)) (List.replicate (ps * m) 0)
  gr : w0.grownBy W none
  c7 : C7 W cfb ps m F s0 il f g
theorem PS.step {w0 : World} {sb : Nat} {G : Nat → Prop} {B : Bl} {ps m F s0 il n : Nat} {f g : Int} {cfb : Nat} {W W' : World} (h : PS w0 sb G B ps m F s0 il n f g cfb W) (hf : W.grownBy W' none) : PS w0 sb G B ps m F s0 il n f g cfb W' := ⟨h.is.kept0 hf, gb_trans h.gr hf, h.c7.kept hf⟩
theorem PS.drew {w0 : World} {sb : Nat} {G : Nat → Prop} {B : Bl} {ps m F s0 il n : Nat} {f g : Int} {cfb : Nat} {W : World} (h : PS w0 sb G B ps m F s0 il n f g cfb W) : PS w0 sb G B ps m F s0 il n f g cfb W.drew := h.step (gb_drew (gb_refl _ _))

section
variable {w0 : World} {sb : Nat} {G : Nat → Prop} {B : Bl} {ps m F s0 il n : Nat} {f g : Int} {cfb : Nat}
theorem ps_chunk (hA : Szs (A0 ps m n (chain F (limOf il) s0))) (i : Nat) (hi : i < n) (s : Nat) (hs : Hid (chain F (limOf il) s0 i = s)) (W : World) (h : PS w0 sb G B ps m F s0 il n f g cfb W) :
    Calls Try.prog 19 #[.pointer (some ⟨sb, 0, none⟩), .int .i64 i] W fun y w' => y = .returned (.int .i64 s) ∧ PS w0 sb G B ps m F s0 il n f g cfb w' := by
  have := chunk_yes h.is hA i hi
  rw [show (A0 ps m n (chain F (limOf il) s0)).sz i = s from hs.out] at this
  exact this.mono (by rintro y w' ⟨rfl, hf⟩; exact ⟨rfl, h.step hf⟩)
theorem ps_chunk_no (hA : Szs (A0 ps m n (chain F (limOf il) s0))) (x : Int) (hx : ¬ (0 ≤ x ∧ x < n)) (W : World) (h : PS w0 sb G B ps m F s0 il n f g cfb W) :
    Calls Try.prog 19 #[.pointer (some ⟨sb, 0, none⟩), .int .i64 x] W fun y w' => y = .returned (.int .i64 0) ∧ PS w0 sb G B ps m F s0 il n f g cfb w' :=
  (chunk_no h.is hA x hx).mono (by rintro y w' ⟨rfl, hf⟩; exact ⟨rfl, h.step hf⟩)
end

/-- A size against the one ahead of it. -/
theorem chain_ratio {F L s0 : Nat} (h : GoodF F L s0) (i : Nat) (hi : chain F L s0 i < L) : 100 * (chain F L s0 (i + 1) - 8) < chain F L s0 i * F ∧ (chain F L s0 (i + 1) < L → chain F L s0 i * F ≤ 100 * chain F L s0 (i + 1)) := by
  obtain ⟨h1, h2, h3⟩ := chain_facts h i
  have h64 := h.s64
  have f0 := h.f0
  simp only [chain, nxt]
  generalize chain F L s0 i = s at *
  have hm : s * 105 ≤ s * F := Nat.mul_le_mul_left _ f0
  generalize s * F = p at *
  omega

/-- The least class that fits. -/
theorem least_k {F L s0 n : Nat} (h : GoodF F L s0) (hc : Cls F L s0 n) (x : Int) (hx : x ≤ L) : ∃ k, k < n ∧ x ≤ chain F L s0 k ∧ ∀ j, j < k → (chain F L s0 j : Int) < x := by
  have hl := chain_last h hc
  have h1 := hc.1
  have go : ∀ d, d < n → (∃ k, k ≤ d ∧ x ≤ chain F L s0 k ∧ ∀ j, j < k → (chain F L s0 j : Int) < x) ∨ ∀ j, j ≤ d → (chain F L s0 j : Int) < x := by
    intro d
    induction d with
    | zero =>
      intro _
      by_cases h0 : x ≤ chain F L s0 0
      · exact .inl ⟨0, Nat.le_refl _, h0, fun j hj => by omega⟩
      · exact .inr fun j hj => by
          obtain rfl : j = 0 := by omega
          omega
    | succ d ih =>
      intro hd
      rcases ih (by omega) with ⟨k, h2, h3, h4⟩ | h2
      · exact .inl ⟨k, by omega, h3, h4⟩
      · by_cases h0 : x ≤ chain F L s0 (d + 1)
        · exact .inl ⟨d + 1, Nat.le_refl _, h0, fun j hj => h2 j (by omega)⟩
        · refine .inr fun j hj => ?_
          rcases Nat.lt_or_ge j (d + 1) with h5 | h5
          · exact h2 j (by omega)
          · obtain rfl : j = d + 1 := by omega
            omega
  rcases go (n - 1) (by omega) with ⟨k, h2, h3, h4⟩ | h2
  · exact ⟨k, by omega, h3, h4⟩
  · have := h2 (n - 1) (Nat.le_refl _)
    rw [hl] at this
    omega

end Go.Proofs.Ytoaaaeefcipdcaa
