import Derived.Test.YtobegepebochkaaGreatDoorWg
import Derived.Test.YtobegepebochkaaGreatDoorUy
/-
  Flags that came in, appended.
-/
namespace Go.Proofs.YtobegepebochkaaGreatDoor
open Go.RowKit Go.Maps
set_option linter.unusedVariables false
set_option linter.unusedSimpArgs false

/-- A row of flags that came in. -/
def Fi (w : World) (v : Value) (fs : List Fl) : Prop := (fs = [] ∧ (v = .slice none 0 0 ∨ ∃ a c, v = .slice (some a) 0 c)) ∨ ∃ g o c, v = .slice (some ⟨g, o, none⟩) fs.length c ∧ ∀ i f, fs[i]? = some f →
  w.cell? ⟨g, o + i * 3, none⟩ = some (.int .u8 f.letter.toNat) ∧ w.cell? ⟨g, o + i * 3 + 1, none⟩ = some (sv f.arg) ∧ w.cell? ⟨g, o + i * 3 + 2, none⟩ = some (.bool f.has)
theorem Fi.fg {w : World} {v : Value} {fs : List Fl} (h : Fi w v fs) : Fg w v fs := by
  rcases h with ⟨h1, h2 | ⟨a, c, h2⟩⟩ | h
  · exact .inl ⟨h1, _, _, h2⟩
  · exact .inl ⟨h1, _, _, h2⟩
  · exact .inr h
theorem Fi.kept {w w' : World} {v : Value} {fs : List Fl} (h : Fi w v fs) (hf : w.grownBy w' none) : Fi w' v fs := by
  rcases h with h | ⟨g, o, c, e, h⟩
  · exact .inl h
  · exact .inr ⟨g, o, c, e, fun i f hi => ⟨gb_cellN hf (h i f hi).1, gb_cellN hf (h i f hi).2.1, gb_cellN hf (h i f hi).2.2⟩⟩
theorem fcs_len (fs : List Fl) : (fcs fs).length = fs.length * 3 := by
  induction fs with
  | nil => rfl
  | cons f l ih => rw [show fcs (f :: l) = .int .u8 f.letter.toNat :: sv f.arg :: .bool f.has :: fcs l from rfl]; simp [ih]; omega
theorem fcs_one {fs : List Fl} : ∀ u ∈ fcs fs, u.oneCell' = true := by
  intro u hu
  simp only [fcs, List.mem_flatMap] at hu
  obtain ⟨f, _, hu⟩ := hu
  simp at hu
  rcases hu with rfl | rfl | rfl <;> rfl
theorem fcs_at {w : World} {g o : Nat} : ∀ (fs : List Fl), (∀ i f, fs[i]? = some f → w.cell? ⟨g, o + i * 3, none⟩ = some (.int .u8 f.letter.toNat) ∧ w.cell? ⟨g, o + i * 3 + 1, none⟩ = some (sv f.arg) ∧ w.cell? ⟨g, o + i * 3 + 2, none⟩ = some (.bool f.has)) →
    ∀ j u, (fcs fs)[j]? = some u → w.cell? ⟨g, o + j, none⟩ = some u := by
  intro fs h j u hj
  have hl : j < fs.length * 3 := by rw [← fcs_len]; exact (List.getElem?_eq_some_iff.1 hj).1
  obtain ⟨f, hf⟩ : ∃ f, fs[j / 3]? = some f := ⟨_, List.getElem?_eq_getElem (by omega)⟩
  obtain ⟨a, b, d⟩ := fcs_get3 fs (j / 3) f hf
  obtain ⟨x, y, z⟩ := h (j / 3) f hf
  have hr : j = j / 3 * 3 ∨ j = j / 3 * 3 + 1 ∨ j = j / 3 * 3 + 2 := by omega
  rcases hr with e | e | e
  · rw [← e] at a x; rw [a] at hj; injection hj with hj; rw [x, hj]
  · rw [← e] at b; rw [b] at hj; injection hj with hj
    rw [← hj, ← y]; congr 2; omega
  · rw [← e] at d; rw [d] at hj; injection hj with hj
    rw [← hj, ← z]; congr 2; omega
section
variable {w : World} {ops : Array Oper} {rest : List Oper} {o : Oper} {a : Act} {Q : Exit → Act → World → Prop}
/-- append(l, r...) of flags that came in. -/
theorem more79 (hgd : o.guard = none) (s x : Operand) (ho : o.op = .call { callee := .builtin .append, args := #[s, x], argTypes := #[39, 39] })
    (B : Nat) (v : Value) (n : Nat) (xs : List Value) (hs : a.eval s = v) (hown : w.ownsRow B 79 3 v n xs) (uv : Value) (fs : List Fl) (hx : a.eval x = uv) (hu : Fi w uv fs) (hn : (n + fs.length) * 32 ≤ 140737488355328) (hB : B ≤ w.heap.size)
    (h : ∀ v' w', w'.ownsRow B 79 3 v' (n + fs.length) (xs ++ fcs fs) → w.grownBy w' v.ownBlock → wpList Tryz.prog ops Q rest (a.put o.dst v') w') : wpList Tryz.prog ops Q (o :: rest) a w := by
  obtain ⟨i0, hi, hz0, hz1, hz2⟩ := info_parts Tryz.info79
  rcases hu with ⟨rfl, rfl | ⟨ad, cap, rfl⟩⟩ | ⟨g, o', cap, rfl, hc⟩
  rotate_left
  · refine wpList_append_own w hgd s x 39 ho B 79 i0 _ 3 32 Tryz.underlying39 hi hz0 hz1 hz2 rfl (by decide) _ _ _ hs hown ad 0 cap [] hx rfl (fun j u hj => by simp at hj) (fun u hu => by simp at hu) ?_ ?_ hB ?_
    · simp at hn; unfold maxLen; omega
    · simp at hn; omega
    · intro v' w' hown' hgr _
      exact h v' w' (by simpa [fcs] using hown') hgr
  rotate_left
  · refine wpList_append_own_none hgd s x 39 ho B 79 i0 3 Tryz.underlying39 hi _ _ _ hs hown hx ?_
    exact h v w (by simpa [fcs] using hown) (gb_refl _ _)
  · refine wpList_append_own w hgd s x 39 ho B 79 i0 _ 3 32 Tryz.underlying39 hi hz0 hz1 hz2 rfl (by decide) _ _ _ hs hown ⟨g, o', none⟩ fs.length cap (fcs fs) hx (fcs_len fs) ?_ fcs_one ?_ ?_ hB ?_
    · intro j u hj
      rw [Addr.add_mid]
      exact fcs_at fs hc j u hj
    · unfold maxLen; omega
    · omega
    · intro v' w' hown' hgr _
      exact h v' w' hown' hgr
end
end Go.Proofs.YtobegepebochkaaGreatDoor
