import Derived.Test.YtobegepebochkaaGreatDoorWe
/-
  The document's Flags: functions.
-/
namespace Go.Proofs.YtobegepebochkaaGreatDoor
open Go.RowKit
set_option linter.unusedVariables false
set_option linter.unusedSimpArgs false

theorem full_mem {v : Int} {a : UInt8} (h : (full v).contains a = true) : a ∈ ([79, 84, 78, 82, 70, 67, 77, 68, 74] : Bs) := by
  have h := List.contains_iff_mem.1 h
  unfold full at h
  split at h
  · revert h; simp; intro h; rcases h with h | h | h | h <;> simp [h]
  · split at h
    · revert h; simp; intro h; rcases h with h | h | h | h | h <;> simp [h]
    · split at h
      · revert h; simp; intro h; rcases h with h | h | h <;> simp [h]
      · split at h
        · revert h; simp; intro h; rcases h with h | h | h | h | h | h | h <;> simp [h]
        · simp at h
theorem bare_full {v : Int} {a : UInt8} (h : (bare v).contains a = true) : (full v).contains a = false := by
  have h := List.contains_iff_mem.1 h
  unfold bare at h
  unfold full
  split at h
  · rename_i e; simp only [e, if_true]; revert h; simp; intro h; rcases h with h | h | h | h | h | h | h | h | h <;> subst h <;> decide
  · rename_i e0; split at h
    · rename_i e; simp only [e, if_true]; revert h; simp; intro h; rcases h with h | h | h | h <;> subst h <;> decide
    · rename_i e1; split at h
      · rename_i e; simp only [e, if_true]; revert h; simp; intro h; rcases h with h | h | h | h <;> subst h <;> decide
      · rename_i e2; split at h
        · rename_i e; simp only [e, if_true]; revert h; simp; intro h; rcases h with h | h | h | h | h <;> subst h <;> decide
        · simp at h
theorem nb_nil (n : Nat) : nb n [] = none := by simp [nb, Lib.parseUintB]
theorem tm_nil : tm [] = none := by simp [tm, Lib.parseIntB]
theorem bh_nil (v : Int) (a : UInt8) (q : Bool) : bh v ⟨a, [], q⟩ = false := by
  simp [bh, nb_nil, tm_nil, mode_no v (l := []) (by simp)]
theorem bh_follows {v : Int} {a : UInt8} {l : Bs} {q : Bool} (h : (full v).contains a = true) (h2 : ¬ (a = 79 ∧ (l = [] ∨ 32 < l.length))) : bh v ⟨a, l, q⟩ = follows v ⟨a, l, q⟩ := by
  have hm := full_mem h
  simp only [List.mem_cons, List.not_mem_nil, or_false] at hm
  unfold bh follows
  rcases hm with rfl | rfl | rfl | rfl | rfl | rfl | rfl | rfl | rfl
  · have h3 : l ≠ [] ∧ l.length ≤ 32 := by
      constructor
      · intro e; exact h2 ⟨rfl, .inl e⟩
      · apply Nat.le_of_not_lt; intro e; exact h2 ⟨rfl, .inr e⟩
    have h4 : 1 ≤ l.length := List.length_pos_iff.2 h3.1
    simp only [if_true]
    rw [decide_eq_true h4, decide_eq_true (show l.length ≤ 250 by omega)]
    simp
  all_goals simp
/-- What the document calls bad is what the program calls so. -/
theorem bad_eq {v : Int} {a : UInt8} {l : Bs} {q : Bool} (h : (bare v).contains a = true ∨ (full v).contains a = true) (h2 : ¬ (a = 79 ∧ (l = [] ∨ 32 < l.length))) :
    ((q ≠ decide (l ≠ []) ∨ ((bare v).contains a = true ∧ q = true)) ∨ ((full v).contains a = true ∧ bh v ⟨a, l, q⟩ = false)) ↔ (q ≠ decide (l ≠ []) ∨ q ≠ (full v).contains a ∨ (q = true ∧ follows v ⟨a, l, q⟩ = false)) := by
  by_cases hq : q = decide (l ≠ [])
  · rcases Bool.eq_false_or_eq_true ((full v).contains a) with hf | hf
    · have hb : (bare v).contains a = false := by
        rcases Bool.eq_false_or_eq_true ((bare v).contains a) with hb | hb
        · rw [bare_full hb] at hf; cases hf
        · exact hb
      rw [hf, hb, ← bh_follows hf h2]
      rcases Bool.eq_false_or_eq_true q with hq1 | hq1
      · subst hq1; simp [hq.symm]
      · have hl : l = [] := by
          rw [hq1] at hq
          simpa using hq
        subst hl
        subst hq1
        simp [bh_nil]
    · have hb : (bare v).contains a = true := by
        rcases h with h | h
        · exact h
        · rw [hf] at h; cases h
      rw [hf, hb]
      rcases Bool.eq_false_or_eq_true q with hq1 | hq1 <;> subst hq1 <;> simp
  · exact ⟨fun _ => .inl hq, fun _ => .inl (.inl hq)⟩
end Go.Proofs.YtobegepebochkaaGreatDoor
