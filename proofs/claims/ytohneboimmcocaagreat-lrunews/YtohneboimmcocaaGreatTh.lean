import Derived.Test.YtohneboimmcocaaGreatTg
import Derived.Test.YtohneboimmcocaaGreatSu
/-
  A class that is filled: Take, At, Give.
-/
namespace Go.Proofs.YtohneboimmcocaaGreat
open Go.RowKit
set_option linter.unusedVariables false

/-- The i-th chunk's place and number. -/
def plN (A : Ab) (k i : Nat) : Nat := i / A.each k * A.ps + i % A.each k * A.sz k
def hN (A : Ab) (k i : Nat) : Nat := plN A k i / 8 + 1

theorem divmod (e p j : Nat) (h : j < e) : (p * e + j) / e = p ∧ (p * e + j) % e = j := by
  have he : 0 < e := by omega
  constructor
  · rw [Nat.mul_comm, Nat.mul_add_div he, Nat.div_eq_of_lt h]; omega
  · rw [Nat.mul_comm, Nat.mul_add_mod, Nat.mod_eq_of_lt h]

theorem Fil.isH {A0 A : Ab} {k i fr : Nat} (h : Fil A0 A k i fr) {l : Nat} (hl : l < i) : IsH A (hN A0 k l) (l / A.each k) (l % A.each k) ∧ A.place (l / A.each k) (l % A.each k) = plN A0 k l ∧ A.own (l / A.each k) = k := by
  have he := h.frl
  have hc := h.cnt
  have hdm := Nat.div_add_mod l (A.each k)
  have hm : l % A.each k < A.each k := Nat.mod_lt _ (by omega)
  rw [Nat.mul_comm] at hdm
  have hp : l / A.each k < A.np := by
    rcases Nat.lt_or_ge (l / A.each k) A.np with h1 | h1
    · exact h1
    · have := Nat.mul_le_mul_right (A.each k) h1
      omega
  have ho := h.own _ hp
  have hpl : A.place (l / A.each k) (l % A.each k) = plN A0 k l := by
    unfold Ab.place plN
    rw [ho, h.each k, h.ps, h.sz]
  refine ⟨⟨hp, by rw [ho]; exact hm, ?_, ?_⟩, hpl, ho⟩
  · rw [h.tkn _ _ hp hm]; simp; omega
  · unfold Ab.hdl Ab.num hN
    rw [h.gen _ _ hp, hpl]; simp

section
variable {w : World} {sb : Nat} {F : Nat → Prop} {B : Bl} {b c d e f g : Int} {A A0 : Ab} {zs : List Int}

theorem fil_take {k i fr : Nat} (hF : Fil A0 A k i fr) (hk : k < A.n) (h : IsS w sb F B b c d e f g A zs) (hi : i < A.m * A.each k) :
    Calls Tryz.prog 88 #[.pointer (some ⟨sb, 0, none⟩), .int .i64 k] w fun y w' => y = .returned (.tuple #[.int .u64 (hN A0 k i), .int .i64 0]) ∧ Kp F w w' ∧ ∃ F' B' zs' A' fr', IsS w' sb F' B' b c d e f g A' zs' ∧ Fil A0 A' k (i + 1) fr' ∧ ∀ k, F' k → F k ∨ w.heap.size ≤ k := by
  have hc := hF.cnt
  have he := hF.frl
  by_cases hfr : fr = 0
  · subst hfr
    have hi' : i = A.np * A.each k := by omega
    have hnp : A.np < A.m := by
      rcases Nat.lt_or_ge A.np A.m with h1 | h1
      · exact h1
      · have := Nat.mul_le_mul_right (A.each k) h1
        omega
    have hr0 : A.row k = [] := by rw [hF.row]; simp
    have hIo := hF.inv.own hk hnp
    have hrl : ((A.owned k).row k).getLast? = some ((A.owned k).num A.np 0) := by
      rw [owned_row, if_pos rfl, hr0, List.nil_append, nums_last A k (by omega), owned_num2]
    have hIt := hIo.take (c := k) (p := A.np) (k := 0) (by rw [owned_n]; exact hk) (by rw [owned_np]; omega) (by rw [owned_own, if_pos rfl]) (by rw [owned_each]; omega) (by rw [owned_tkn, if_pos rfl]) hrl
    have hh : (A.owned k).hdl A.np 0 = hN A0 k i := by
      obtain ⟨d1, d2⟩ := divmod (A.each k) A.np 0 (by omega)
      unfold Ab.hdl hN plN
      rw [owned_gen, if_pos rfl, owned_num2, hi', ← hF.each k, ← hF.ps, ← hF.sz]
      rw [Nat.add_zero] at d1 d2
      rw [d1, d2]; simp
    have := take_page h hF.inv hk hr0 hnp
    rw [hh] at this
    refine this.mono ?_
    rintro y w' ⟨rfl, hK, F', B', hS, hF'⟩
    exact ⟨rfl, hK, F', B', _, _, _, hS, hF.page hk hIt, hF'⟩
  · have hnp : 0 < A.np := by
      rcases Nat.eq_zero_or_pos A.np with e1 | e1
      · rw [e1] at hc; simp at hc; omega
      · exact e1
    obtain ⟨q, hq⟩ : ∃ q, A.np = q + 1 := ⟨A.np - 1, by omega⟩
    have hq1 : A.np - 1 = q := by omega
    have hmul : A.np * A.each k = q * A.each k + A.each k := by rw [hq, Nat.add_mul, Nat.one_mul]
    have hi' : i = q * A.each k + (A.each k - fr) := by omega
    obtain ⟨d1, d2⟩ := divmod (A.each k) q (A.each k - fr) (by omega)
    have hoq := hF.own q (by omega)
    have htq : A.tkn q (A.each k - fr) = false := by
      rw [hF.tkn q _ (by omega) (by omega)]; simp; omega
    have hrl : (A.row k).getLast? = some (A.num q (A.each k - fr)) := by
      rw [hF.row, if_neg hfr, hq1]; exact rowF_last A k q _ (by omega)
    have hIt := hF.inv.take hk (p := q) (k := A.each k - fr) (by omega) hoq (by omega) htq hrl
    have hh : A.hdl q (A.each k - fr) = hN A0 k i := by
      unfold Ab.hdl hN plN Ab.num Ab.place
      rw [hF.gen q _ (by omega), hoq, hi', ← hF.each k, ← hF.ps, ← hF.sz, d1, d2]; simp
    have := take_row h hF.inv.fit hk (p := q) (k := A.each k - fr) (by omega) hoq (by omega) htq hrl
    rw [hh] at this
    refine this.mono ?_
    rintro y w' ⟨rfl, ⟨B', _, hS⟩, hK⟩
    have hft := hF.taken hk (by omega) (by rw [hq1]; exact hIt)
    rw [hq1] at hft
    exact ⟨rfl, hK, F, B', _, _, _, hS, hft, fun k hk => .inl hk⟩
end

end Go.Proofs.YtohneboimmcocaaGreat
