import Derived.Test.YtohneboimmcocaaGreatSr
/-
  A class that is filled.
-/
namespace Go.Proofs.YtohneboimmcocaaGreat
open Go.RowKit
set_option linter.unusedVariables false

/-- The free chunks of a page, from the r-th on, as they stand in the row. -/
def rowF (A : Ab) (k p r : Nat) : List Nat := ((List.range (A.each k)).drop r).reverse.map fun j => A.num p j
theorem rowF_step (A : Ab) (k p r : Nat) (h : r < A.each k) : rowF A k p r = rowF A k p (r + 1) ++ [A.num p r] := by
  unfold rowF
  rw [List.drop_eq_getElem_cons (i := r) (by simpa using h)]
  simp
theorem rowF_end (A : Ab) (k p : Nat) : rowF A k p (A.each k) = [] := by simp [rowF]
theorem rowF_dropLast (A : Ab) (k p r : Nat) (h : r < A.each k) : (rowF A k p r).dropLast = rowF A k p (r + 1) := by
  rw [rowF_step A k p r h]; simp
theorem rowF_last (A : Ab) (k p r : Nat) (h : r < A.each k) : (rowF A k p r).getLast? = some (A.num p r) := by
  rw [rowF_step A k p r h, List.getLast?_append]; simp

/-- i chunks of class k are taken, no others; fr of the last page are free. -/
structure Fil (A0 A : Ab) (k i fr : Nat) : Prop where
  inv : Inv A
  ps : A.ps = A0.ps
  m : A.m = A0.m
  n : A.n = A0.n
  sz : A.sz = A0.sz
  own : ∀ p, p < A.np → A.own p = k
  gen : ∀ p j, p < A.np → A.gen p j = 0
  cnt : i + fr = A.np * A.each k
  frl : fr < A.each k
  tkn : ∀ p j, p < A.np → j < A.each k → A.tkn p j = decide (p * A.each k + j < i)
  row : A.row k = if fr = 0 then [] else rowF A k (A.np - 1) (A.each k - fr)
  oth : ∀ c, c ≠ k → A.row c = []

theorem Fil.each {A0 A : Ab} {k i fr : Nat} (h : Fil A0 A k i fr) (c : Nat) : A.each c = A0.each c := by unfold Ab.each; rw [h.ps, h.sz]
theorem Fil.tk0 {A0 A : Ab} {k i fr : Nat} (h : Fil A0 A k i fr) {c : Nat} (hc : c < A.n) (hck : c ≠ k) : A.tk c = 0 := by
  rw [h.inv.tc c hc]
  unfold Ab.tkc
  have : (List.range A.np).map (fun p => if A.own p = c then A.tkp p else 0) = (List.range A.np).map (fun _ => 0) := by
    refine List.map_congr_left fun p hp => ?_
    simp at hp
    rw [h.own p hp, if_neg (fun e => hck e.symm)]
  rw [this]
  induction A.np with
  | zero => rfl
  | succ n ih => rw [List.range_succ]; simpa using ih
theorem Fil.tkk {A0 A : Ab} {k i fr : Nat} (h : Fil A0 A k i fr) (hk : k < A.n) : A.tk k = i := by
  have h1 := h.inv.rl k hk
  have h2 : ((List.range A.np).countP fun p => A.own p = k) = A.np := by
    have := List.countP_eq_length (p := fun p => decide (A.own p = k)) (l := List.range A.np)
    rw [List.length_range] at this
    exact this.2 (fun a ha => by simp at ha; simp [h.own a ha])
  rw [h2, ← h.cnt, h.row] at h1
  have h3 : (if fr = 0 then ([] : List Nat) else rowF A k (A.np - 1) (A.each k - fr)).length = fr := by
    by_cases e : fr = 0
    · simp [e]
    · have := h.frl
      rw [if_neg e]; simp [rowF]; omega
  rw [h3] at h1
  omega

/-- The first taken page. -/
theorem Fil.zero {A : Ab} (hI : Inv A) (hnp : A.np = 0) (hr : ∀ c, A.row c = []) {k : Nat} (hk : k < A.n) : Fil A A k 0 0 := by
  have he := (hI.toSzs.each hk).1
  refine ⟨hI, rfl, rfl, rfl, rfl, fun p hp => by omega, fun p j hp => by omega, by rw [hnp]; simp, by omega, fun p j hp => by omega, by simp [hr k], fun c _ => hr c⟩

theorem num_of {A B : Ab} (h1 : B.ps = A.ps) (h2 : B.sz = A.sz) (p j : Nat) (h3 : B.own p = A.own p) : B.num p j = A.num p j := by
  unfold Ab.num Ab.place
  rw [h1, h2, h3]

theorem Fil.taken {A0 A : Ab} {k i fr : Nat} (h : Fil A0 A k i fr) (hk : k < A.n) (hf : 0 < fr) (hI : Inv (A.taken k (A.np - 1) (A.each k - fr))) : Fil A0 (A.taken k (A.np - 1) (A.each k - fr)) k (i + 1) (fr - 1) := by
  have hfr := h.frl
  have hc := h.cnt
  have hnp : 0 < A.np := by
    rcases Nat.eq_zero_or_pos A.np with e | e
    · rw [e] at hc; simp at hc; omega
    · exact e
  obtain ⟨q, hq⟩ : ∃ q, A.np = q + 1 := ⟨A.np - 1, by omega⟩
  have hq1 : A.np - 1 = q := by omega
  rw [hq1] at hI ⊢
  have hmul : A.np * A.each k = q * A.each k + A.each k := by rw [hq, Nat.add_mul, Nat.one_mul]
  have hrow : ∀ j, (A.taken k q (A.each k - fr)).row j = if j = k then (A.row k).dropLast else A.row j := fun j => rfl
  have htkn : ∀ p l, (A.taken k q (A.each k - fr)).tkn p l = if p = q ∧ l = A.each k - fr then true else A.tkn p l := fun p l => rfl
  have hnpe : (A.taken k q (A.each k - fr)).np = A.np := rfl
  have heach : (A.taken k q (A.each k - fr)).each k = A.each k := rfl
  have hps : (A.taken k q (A.each k - fr)).ps = A.ps := rfl
  have hsz : (A.taken k q (A.each k - fr)).sz = A.sz := rfl
  have hown : ∀ p, (A.taken k q (A.each k - fr)).own p = A.own p := fun p => rfl
  have hgen : ∀ p j, (A.taken k q (A.each k - fr)).gen p j = A.gen p j := fun p j => rfl
  refine ⟨hI, by rw [hps]; exact h.ps, h.m, h.n, by rw [hsz]; exact h.sz, ?_, ?_, ?_, ?_, ?_, ?_, ?_⟩
  · intro p hp; rw [hnpe] at hp; rw [hown]; exact h.own p hp
  · intro p j hp; rw [hnpe] at hp; rw [hgen]; exact h.gen p j hp
  · rw [hnpe, heach]; omega
  · rw [heach]; omega
  · intro p l hp hl
    rw [hnpe] at hp
    rw [heach] at hl ⊢
    rw [htkn, h.tkn p l hp hl]
    by_cases e : p = q ∧ l = A.each k - fr
    · obtain ⟨rfl, rfl⟩ := e
      rw [if_pos ⟨rfl, rfl⟩]
      simp; omega
    · rw [if_neg e]
      have : p * A.each k + l ≠ i := by
        intro e2
        apply e
        have hpq : p ≤ q := by omega
        rcases Nat.lt_or_ge p q with h1 | h1
        · have h2 : (p + 1) * A.each k ≤ q * A.each k := Nat.mul_le_mul_right _ h1
          rw [Nat.add_mul, Nat.one_mul] at h2
          omega
        · have : p = q := by omega
          subst this
          exact ⟨rfl, by omega⟩
      simp only [decide_eq_decide]
      omega
  · rw [hrow, if_pos rfl, h.row, if_neg (by omega), hq1, rowF_dropLast A k q _ (by omega), heach, hnpe, hq1]
    have e1 : rowF (A.taken k q (A.each k - fr)) k q (A.each k - fr + 1) = rowF A k q (A.each k - fr + 1) := rfl
    by_cases e : fr - 1 = 0
    · rw [if_pos e, show A.each k - fr + 1 = A.each k by omega, rowF_end]
    · rw [if_neg e, ← e1, show A.each k - (fr - 1) = A.each k - fr + 1 by omega]
  · intro c hck
    rw [hrow, if_neg hck]; exact h.oth c hck

theorem Fil.page {A0 A : Ab} {k i : Nat} (h : Fil A0 A k i 0) (hk : k < A.n) (hI : Inv ((A.owned k).taken k A.np 0)) : Fil A0 ((A.owned k).taken k A.np 0) k (i + 1) (A.each k - 1) := by
  have hc := h.cnt
  have he := h.frl
  have hrow : ∀ j, ((A.owned k).taken k A.np 0).row j = if j = k then ((A.owned k).row k).dropLast else (A.owned k).row j := fun j => rfl
  have htkn : ∀ p l, ((A.owned k).taken k A.np 0).tkn p l = if p = A.np ∧ l = 0 then true else (A.owned k).tkn p l := fun p l => rfl
  have hnpe : ((A.owned k).taken k A.np 0).np = A.np + 1 := rfl
  have heach : ((A.owned k).taken k A.np 0).each k = A.each k := rfl
  have hown : ∀ p, ((A.owned k).taken k A.np 0).own p = (A.owned k).own p := fun p => rfl
  have hgen : ∀ p j, ((A.owned k).taken k A.np 0).gen p j = (A.owned k).gen p j := fun p j => rfl
  have hr0 : A.row k = [] := by rw [h.row]; simp
  have hnums : A.nums k 0 = rowF (A.owned k) k A.np 0 := by
    unfold Ab.nums rowF
    rw [owned_each]
    refine List.map_congr_left fun j _ => ?_
    rw [owned_num2]
  refine ⟨hI, h.ps, h.m, h.n, h.sz, ?_, ?_, ?_, ?_, ?_, ?_, ?_⟩
  · intro p hp
    rw [hnpe] at hp
    rw [hown, owned_own]
    by_cases e : p = A.np
    · rw [if_pos e]
    · rw [if_neg e]; exact h.own p (by omega)
  · intro p j hp
    rw [hnpe] at hp
    rw [hgen, owned_gen]
    by_cases e : p = A.np
    · rw [if_pos e]
    · rw [if_neg e]; exact h.gen p j (by omega)
  · rw [hnpe, heach, Nat.add_mul, Nat.one_mul]; omega
  · rw [heach]; omega
  · intro p l hp hl
    rw [hnpe] at hp
    rw [heach] at hl ⊢
    rw [htkn, owned_tkn]
    by_cases e : p = A.np
    · subst e
      by_cases e2 : l = 0
      · subst e2
        rw [if_pos ⟨rfl, rfl⟩]; simp; omega
      · rw [if_neg (fun ⟨_, e3⟩ => e2 e3), if_pos rfl]
        simp; omega
    · rw [if_neg (fun ⟨e3, _⟩ => e e3), if_neg e, h.tkn p l (by omega) hl]
      have h2 : (p + 1) * A.each k ≤ A.np * A.each k := Nat.mul_le_mul_right _ (by omega)
      rw [Nat.add_mul, Nat.one_mul] at h2
      simp only [decide_eq_decide]
      omega
  · have e1 : rowF ((A.owned k).taken k A.np 0) k A.np 1 = rowF (A.owned k) k A.np 1 := rfl
    rw [hrow, if_pos rfl, owned_row, if_pos rfl, hr0, List.nil_append, hnums, rowF_dropLast _ k A.np 0 (by rw [owned_each]; omega), heach, hnpe]
    by_cases e : A.each k - 1 = 0
    · rw [if_pos e, show (0 + 1 : Nat) = (A.owned k).each k by rw [owned_each]; omega, rowF_end]
    · rw [if_neg e, Nat.add_sub_cancel, show A.each k - (A.each k - 1) = 0 + 1 by omega]
      exact e1.symm
  · intro c hck
    rw [hrow, if_neg hck, owned_row, if_neg hck]; exact h.oth c hck

end Go.Proofs.YtohneboimmcocaaGreat
