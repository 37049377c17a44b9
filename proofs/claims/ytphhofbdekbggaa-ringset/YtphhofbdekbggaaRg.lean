/-
  Points, as a caller gets them.
-/
import Derived.Test.YtphhofbdekbggaaRf
namespace Go.Proofs.Ytphhofbdekbggaa
open Go.RowKit
set_option linter.unusedVariables false
set_option linter.unusedSimpArgs false

/-- Points as cells. -/
def flatP (ps : List Pt) : List Value := ps.flatMap fun p => [.int .u32 p.1, .int .i64 p.2.1, .int .i64 p.2.2]
def part (p : Pt) : Nat → Value
  | 0 => .int .u32 p.1
  | 1 => .int .i64 p.2.1
  | _ => .int .i64 p.2.2
theorem flatP_len (ps : List Pt) : (flatP ps).length = ps.length * 3 := by
  induction ps with
  | nil => rfl
  | cons p ps ih =>
    unfold flatP at ih ⊢
    rw [List.flatMap_cons, List.length_append, ih, List.length_cons]
    simp; omega
theorem flatP_one (ps : List Pt) : ∀ u ∈ flatP ps, u.oneCell' = true := by
  intro u hu
  simp only [flatP, List.mem_flatMap] at hu
  obtain ⟨p, _, hp⟩ := hu
  simp at hp
  rcases hp with rfl | rfl | rfl <;> rfl
theorem pat_succ (p : Pt) (ps : List Pt) (i : Nat) : pat (p :: ps) (i + 1) = pat ps i := by simp [pat]
theorem flatP_get : ∀ (ps : List Pt) (j : Nat), j < ps.length * 3 → (flatP ps)[j]? = some (part (pat ps (j / 3)) (j % 3))
  | [], j, h => by simp at h
  | p :: ps, 0, _ => by simp [flatP, pat, part]
  | p :: ps, 1, _ => by simp [flatP, pat, part]
  | p :: ps, 2, _ => by simp [flatP, pat, part]
  | p :: ps, j + 3, h => by
    have ih := flatP_get ps j (by simp at h; omega)
    rw [show (j + 3) / 3 = j / 3 + 1 by omega, show (j + 3) % 3 = j % 3 by omega, pat_succ, ← ih]
    simp [flatP]
theorem PtAt.flat {w : World} {g : Nat} {ps : List Pt} (h : PtAt w g ps) (j : Nat) (u : Value) (hu : (flatP ps)[j]? = some u) : w.cell? ⟨g, j, none⟩ = some u := by
  have hj : j < ps.length * 3 := by
    have := (List.getElem?_eq_some_iff.1 hu).1
    rw [flatP_len] at this
    exact this
  rw [flatP_get ps j hj] at hu
  obtain ⟨h0, h1, h2⟩ := h (j / 3) (by omega)
  rw [← hu]
  rcases (show j % 3 = 0 ∨ j % 3 = 1 ∨ j % 3 = 2 by omega) with e | e | e
  · rw [e, show j = j / 3 * 3 by omega, Nat.mul_div_cancel _ (by omega)]; exact h0
  · rw [e]; rw [show w.cell? ⟨g, j, none⟩ = w.cell? ⟨g, j / 3 * 3 + 1, none⟩ by congr 2; omega]; exact h1
  · rw [e]; rw [show w.cell? ⟨g, j, none⟩ = w.cell? ⟨g, j / 3 * 3 + 2, none⟩ by congr 2; omega]; exact h2
theorem PtAt.of_row {w : World} {B g n c : Nat} {ps : List Pt} (h : w.ownsRow B 49 3 (.slice (some ⟨g, 0, none⟩) n c) n (flatP ps)) (hn : ps.length = n) : PtAt w g ps := fun i hi => by
  have e0 := flatP_get ps (i * 3) (by omega)
  have e1 := flatP_get ps (i * 3 + 1) (by omega)
  have e2 := flatP_get ps (i * 3 + 2) (by omega)
  rw [show i * 3 / 3 = i by omega, show i * 3 % 3 = 0 by omega] at e0
  rw [show (i * 3 + 1) / 3 = i by omega, show (i * 3 + 1) % 3 = 1 by omega] at e1
  rw [show (i * 3 + 2) / 3 = i by omega, show (i * 3 + 2) % 3 = 2 by omega] at e2
  exact ⟨row_cell h _ _ e0, row_cell h _ _ e1, row_cell h _ _ e2⟩
set_option maxRecDepth 100000 in
theorem Try.info49 : (Try.prog.info? 49).map (fun i => (i.zero, i.size, i.bytes)) = some (some (.agg #[.int .u32 0, .int .i64 0, .int .i64 0]), 3, 24) := by kernel_rfl
section
variable {w : World} {ops : Array Oper} {rest : List Oper} {o : Oper} {a : Act} {Q : Exit → Act → World → Prop}
/-- append([]Point{}, l...). -/
theorem copyP (hgd : o.guard = none) (s x : Operand) (ho : o.op = .call { callee := .builtin .append, args := #[s, x], argTypes := #[30, 30] })
    (B : Nat) (v : Value) (hs : a.eval s = v) (hown : w.ownsRow B 49 3 v 0 []) (g n c : Nat) (ps : List Pt) (hx : a.eval x = .slice (some ⟨g, 0, none⟩) n c) (hn : ps.length = n) (h0 : 0 < n) (hn2 : n ≤ 1000000) (hP : PtAt w g ps) (hB : B ≤ w.heap.size)
    (h : ∀ g' cap w', w'.ownsRow B 49 3 (.slice (some ⟨g', 0, none⟩) n cap) n (flatP ps) → w.grownBy w' v.ownBlock → wpList Try.prog ops Q rest (a.put o.dst (.slice (some ⟨g', 0, none⟩) n cap)) w') : wpList Try.prog ops Q (o :: rest) a w := by
  obtain ⟨i0, hi, hz0, hz1, hz2⟩ := info_parts Try.info49
  refine wpList_plain hgd fun K hK => ?_
  refine wp_append_lies _ s x 30 ho B 49 i0 _ 3 24 Try.underlying30 hi hz0 hz1 hz2 rfl (by omega) v 0 [] hs hown ⟨g, 0, none⟩ n c (flatP ps) hx (by rw [flatP_len, hn]) (fun j u hu => ?_) (flatP_one ps) h0 (by unfold maxLen; omega) (by omega) hB _ rfl ?_
  · rw [Addr.add_mid, Nat.zero_add]
    exact hP.flat j u hu
  · intro g' cap w' h1 h2 _ _
    rw [Nat.zero_add] at h1 ⊢
    exact hK _ _ (h g' cap w' h1 h2)
end
set_option maxRecDepth 100000 in
set_option maxHeartbeats 2000000 in
theorem clone_37 {w : World} {g n c : Nat} {ps : List Pt} (h : PtAt w g ps) (hn : ps.length = n) (h0 : 0 < n) (hn2 : n ≤ 1000000) :
    Calls Try.prog 37 #[.slice (some ⟨g, 0, none⟩) n c] w fun e w' => (∃ g' c', e = .returned (.slice (some ⟨g', 0, none⟩) n c') ∧ w'.ownsRow w.heap.size 49 3 (.slice (some ⟨g', 0, none⟩) n c') n (flatP ps)) ∧ w.grownBy w' none := by
  have hq : ∀ (W : World) (n c : Nat), Sem.run Try.prog (binOp .eql 30 (.slice (some ⟨g, 0, none⟩) n c) (.slice none 0 0)) W = .ok (.bool false) W := fun _ _ _ => by first | rfl | kernel_rfl | simp [binOp, go_sem]
  have ga := gb_alloc (gb_refl w none) (.cells #[] 49)
  have hE0 : (w.alloc (.cells #[] 49)).ownsRow w.heap.size 49 3 (.slice (some ⟨w.heap.size, 0, none⟩) 0 0) 0 [] := ⟨rfl, .inr ⟨w.heap.size, 0, #[], rfl, Nat.le_refl _, heap_alloc_new w _, Nat.le_refl _, by unfold maxLen; omega, rfl, rfl⟩⟩
  have hnew := h.grown ga
  clear h
  go_enter Try.func37, Try.ntmps37
  go_wp2_with (at_builtin; go_must (refine copyP rfl _ _ rfl w.heap.size _ (by rfl) hE0 g n c ps (by rfl) hn h0 hn2 hnew (by simp) ?_); intro g1 cap1 w1 h1 h2)
  go_ret
  exact ⟨⟨_, _, rfl, h1⟩, gb_mine ga h2 (by simp [Value.ownBlock])⟩
end Go.Proofs.Ytphhofbdekbggaa
