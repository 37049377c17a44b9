import Derived.Test.YtohneboimmcocaaGreatHa
/-
  LruSpares: what is seen, and whom Pick names (pure).
-/
namespace Go.Proofs.YtohneboimmcocaaGreat
set_option linter.unusedVariables false

/-- What the law sees. -/
def snf (own : Nat) (looks : Int) (dd : Nat → Bool) : List Nat → List Nat → List Nat
  | [], acc => acc
  | x :: l, acc => if looks ≤ (acc.length : Int) ∨ (acc ≠ [] ∧ dd (acc.getLastD 0) = true) then acc else if x = own then snf own looks dd l acc else snf own looks dd l (acc ++ [x])
/-- The first that is not active, else the first. -/
def cf (mk : Nat → Nat) : List Nat → Option Nat
  | [] => none
  | x :: l => if mk x % 2 = 1 then cf mk l else some x
def nmd (mk : Nat → Nat) (l : List Nat) : Nat := (cf mk l).getD (l.headD 0)
theorem cf_snoc (mk : Nat → Nat) : ∀ (l : List Nat) (x : Nat), cf mk (l ++ [x]) = match cf mk l with | some y => some y | none => if mk x % 2 = 1 then none else some x
  | [], x => by simp [cf]
  | y :: l, x => by
    simp only [List.cons_append, cf]
    split
    · exact cf_snoc mk l x
    · rfl
/-- Pick's state is what was seen. -/
structure PR (mk : Nat → Nat) (s : PS) (acc : List Nat) : Prop where
  lk : s.lk = acc.length
  h : s.h = nmd mk acc
  sp : s.sp = true ↔ acc ≠ [] ∧ cf mk acc = none
theorem pr0 (mk : Nat → Nat) : PR mk ⟨0, false, 0⟩ [] := ⟨rfl, rfl, by simp⟩
theorem PR.step {mk : Nat → Nat} {s : PS} {acc : List Nat} {own x : Nat} {looks : Int} (h : PR mk s acc) (hx : ¬ x = own) (hf : ¬ looks ≤ (s.lk : Int)) : PR mk (pst own looks mk s x) (acc ++ [x]) := by
  unfold pst
  rw [if_neg hx, if_neg hf]
  have hl := h.lk
  cases acc with
  | nil =>
    simp at hl
    rw [if_pos (.inl (by omega))]
    refine ⟨by simp [hl], ?_, ?_⟩
    · simp only [List.nil_append, nmd, cf]
      split <;> simp
    · simp only [List.nil_append, cf]
      by_cases ha : mk x % 2 = 1 <;> simp [ha]
  | cons y l =>
    have hne : ¬ s.lk + 1 = 1 := by rw [hl]; simp
    cases hc : cf mk (y :: l) with
    | some z =>
      have hsp : ¬ s.sp = true := fun hh => by have := (h.sp.1 hh).2; rw [hc] at this; cases this
      rw [if_neg (by rintro (h1 | h1); exact hne h1; exact hsp h1.1)]
      refine ⟨by simp [hl], ?_, ?_⟩
      · show s.h = _
        rw [h.h]
        unfold nmd
        rw [cf_snoc, hc]
        try rfl
      · rw [cf_snoc, hc]
        simp [hsp]
    | none =>
      have hsp : s.sp = true := h.sp.2 ⟨by simp, hc⟩
      by_cases ha : mk x % 2 = 1
      · rw [if_neg (by rintro (h1 | h1); exact hne h1; exact h1.2 ha)]
        refine ⟨by simp [hl], ?_, ?_⟩
        · show s.h = _
          rw [h.h]
          unfold nmd
          rw [cf_snoc, hc]
          simp [ha]
        · rw [cf_snoc, hc]
          simp [hsp, ha]
      · rw [if_pos (.inr ⟨hsp, ha⟩)]
        refine ⟨by simp [hl], ?_, ?_⟩
        · show x = _
          unfold nmd
          rw [cf_snoc, hc]
          simp [ha]
        · rw [cf_snoc, hc]
          simp [ha]
/-- Whom Pick names. -/
theorem pd_snf {own : Nat} {looks : Int} {mk : Nat → Nat} {dd : Nat → Bool} : ∀ (l : List Nat) (s : PS) (acc : List Nat), PR mk s acc → (acc ≠ [] → dd (acc.getLastD 0) = false) →
    (pd own looks mk dd s l).1.lk = (snf own looks dd l acc).length ∧ ((pd own looks mk dd s l).2 = true ↔ snf own looks dd l acc ≠ [] ∧ dd ((snf own looks dd l acc).getLastD 0) = true) ∧ ((pd own looks mk dd s l).2 = true → (pd own looks mk dd s l).1.h = (snf own looks dd l acc).getLastD 0) ∧ ((pd own looks mk dd s l).2 = false → (pd own looks mk dd s l).1.h = nmd mk (snf own looks dd l acc))
  | [], s, acc, h, hd => by
    simp only [pd, snf]
    refine ⟨h.lk, ⟨fun hh => (by cases hh), fun hh => (by rw [hd hh.1] at hh; exact absurd hh.2 (by decide))⟩, fun hh => (by cases hh), fun _ => h.h⟩
  | x :: l, s, acc, h, hd => by
    by_cases hf : looks ≤ (s.lk : Int)
    · have hs : snf own looks dd (x :: l) acc = acc := by rw [snf, if_pos (.inl (by rw [← h.lk]; exact hf))]
      have hpd : pd own looks mk dd s (x :: l) = (s, false) := by
        clear hs
        induction l generalizing x with
        | nil =>
          rw [pd]
          split
          · rfl
          · first | rfl | rw [if_pos hf]
        | cons y l ih =>
          rw [pd]
          split
          · exact ih y
          · first | rfl | rw [if_pos hf]
      rw [hs, hpd]
      exact ⟨h.lk, ⟨fun hh => (by cases hh), fun hh => (by rw [hd hh.1] at hh; exact absurd hh.2 (by decide))⟩, fun hh => (by cases hh), fun _ => h.h⟩
    · have hc : ¬ (looks ≤ (acc.length : Int) ∨ (acc ≠ [] ∧ dd (acc.getLastD 0) = true)) := by
        rintro (h1 | h1)
        · rw [← h.lk] at h1; exact hf h1
        · rw [hd h1.1] at h1; exact absurd h1.2 (by decide)
      rw [snf, if_neg hc, pd]
      by_cases hx : x = own
      · rw [if_pos hx, if_pos hx]
        exact pd_snf l s acc h hd
      · rw [if_neg hx, if_neg hx, if_neg hf]
        cases hdx : dd x with
        | true =>
          have hs : snf own looks dd l (acc ++ [x]) = acc ++ [x] := by
            cases l with
            | nil => rfl
            | cons y l => rw [snf, if_pos (.inr ⟨by simp, by simp [hdx]⟩)]
          rw [if_pos rfl, hs]
          exact ⟨by simp [h.lk], ⟨fun _ => ⟨by simp, by simp [hdx]⟩, fun _ => rfl⟩, fun _ => by simp, fun hh => (by cases hh)⟩
        | false =>
          rw [if_neg (by decide)]
          exact pd_snf l _ (acc ++ [x]) (h.step hx hf) (fun _ => by simp [hdx])
end Go.Proofs.YtohneboimmcocaaGreat
