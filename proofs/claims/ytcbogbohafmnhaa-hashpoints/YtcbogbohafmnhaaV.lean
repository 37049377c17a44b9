/-
  HashPoints: the lists, written full; and grown.
-/
import Derived.Test.YtcbogbohafmnhaaR
namespace Go.Proofs.Ytcbogbohafmnhaa
open Go.RowKit
set_option linter.unusedVariables false

/-- The program's lists: those below i are full of their marks. -/
structure P3 (B : Nat) (w : World) (vA : Value) (es : List (Nat × Nat)) (i : Nat) : Prop where
  rA : w.ownsRow B 41 1 vA es.length (es.map ev)
  ge : ∀ e ∈ es, B ≤ e.1
  inc : es.Pairwise (fun a b => a.1 < b.1)
  le : ∀ e ∈ es, e.2 ≤ 512
  done : ∀ j e, es[j]? = some e → 0 < e.2 → j < i → Box w 34 e.1 (uvals (List.replicate e.2 (1000 + j))).toArray
  todo : ∀ j e, es[j]? = some e → 0 < e.2 → i ≤ j → ∃ cs : Array Value, cs.size = e.2 ∧ Box w 34 e.1 cs

theorem P1.p3 {B : Nat} {w : World} {vA vW : Value} {T : List Tr} (h : P1 B w vA vW T) : P3 B w vA (T.map (·.1)) 0 := by
  refine ⟨?_, ?_, ?_, ?_, ?_, ?_⟩
  · have := h.rA
    rw [List.length_map, List.map_map]
    exact this
  · intro e he
    obtain ⟨t, ht, rfl⟩ := List.mem_map.1 he
    exact (h.el t ht).ge
  · rw [List.pairwise_map]
    exact h.inc
  · intro e he
    obtain ⟨t, ht, rfl⟩ := List.mem_map.1 he
    exact (h.el t ht).le
  · intro j e _ _ hj
    omega
  · intro j e he h0 _
    rw [List.getElem?_map] at he
    obtain ⟨t, ht, rfl⟩ := Option.map_eq_some_iff.1 he
    have hel := h.el t (List.mem_of_getElem? ht)
    exact ⟨_, by rw [uvals_size]; exact hel.len, hel.box h0⟩
theorem P3.kept {B : Nat} {w w' : World} {vA : Value} {es : List (Nat × Nat)} {i : Nat} (h : P3 B w vA es i) (hf : w.grownBy w' none) : P3 B w' vA es i :=
  ⟨row_kept h.rA hf (by simp), h.ge, h.inc, h.le, fun j e a b c => (h.done j e a b c).kept hf (by simp), fun j e a b c => by
    obtain ⟨cs, h1, h2⟩ := h.todo j e a b c
    exact ⟨cs, h1, h2.kept hf (by simp)⟩⟩
theorem P3.apart {B : Nat} {w : World} {vA : Value} {es : List (Nat × Nat)} {i : Nat} (h : P3 B w vA es i) {j k : Nat} {e f : Nat × Nat} (hj : es[j]? = some e) (hk : es[k]? = some f) (hne : j ≠ k) : e.1 ≠ f.1 := by
  obtain ⟨h1, rfl⟩ := List.getElem?_eq_some_iff.1 hj
  obtain ⟨h2, rfl⟩ := List.getElem?_eq_some_iff.1 hk
  have hp := List.pairwise_iff_getElem.1 h.inc
  rcases Nat.lt_or_gt_of_ne hne with h3 | h3
  · have := hp j k h1 h2 h3; omega
  · have := hp k j h2 h1 h3; omega
/-- One number of list i is written. -/
theorem P3.set {B : Nat} {w : World} {vA : Value} {es : List (Nat × Nat)} {i : Nat} (h : P3 B w vA es i) {e : Nat × Nat} (he : es[i]? = some e) (h0 : 0 < e.2) (k : Nat) (v : Value) : P3 B (w.setCell ⟨e.1, k, none⟩ v) vA es i := by
  have hs := gb_setCell (gb_refl w (some e.1)) (i := k) v
  obtain ⟨cs0, hc0, hb0⟩ := h.todo i e he h0 (Nat.le_refl _)
  refine ⟨row_kept h.rA hs (fun b hb e1 => ?_), h.ge, h.inc, h.le, ?_, ?_⟩
  · obtain ⟨cur, hc⟩ := row_block h.rA b hb
    exact ne_of_type hc (show w.heap[e.1]? = _ from hb0) (by decide) (by simpa using e1)
  · intro j f hj hf hji
    exact (h.done j f hj hf hji).kept hs (by
      have := h.apart hj he (by omega)
      simpa using this)
  · intro j f hj hf hji
    by_cases hij : j = i
    · subst hij
      rw [he] at hj
      cases hj
      exact ⟨_, by rw [Array.size_setIfInBounds]; exact hc0, hb0.set k v⟩
    · obtain ⟨cs, h1, h2⟩ := h.todo j f hj hf hji
      exact ⟨cs, h1, h2.kept hs (by
        have := h.apart hj he hij
        simpa using this)⟩
/-- List i is full. -/
theorem P3.next {B : Nat} {w : World} {vA : Value} {es : List (Nat × Nat)} {i : Nat} (h : P3 B w vA es i) {e : Nat × Nat} (he : es[i]? = some e)
    (hf : 0 < e.2 → ∃ cs : Array Value, cs.size = e.2 ∧ (∀ l, l < e.2 → cs[l]? = some (.int .u32 ((1000 + i : Nat) : Int))) ∧ Box w 34 e.1 cs) : P3 B w vA es (i + 1) := by
  refine ⟨h.rA, h.ge, h.inc, h.le, ?_, fun j f hj h0 hji => h.todo j f hj h0 (by omega)⟩
  intro j f hj h0 hji
  by_cases hij : j = i
  · subst hij
    rw [he] at hj
    cases hj
    obtain ⟨cs, h1, h2, h3⟩ := hf h0
    have : cs = (uvals (List.replicate e.2 (1000 + j))).toArray := by
      apply Array.ext_getElem?
      intro l
      by_cases hl : l < e.2
      · rw [h2 l hl, uvals_get _ _ (by rw [List.length_replicate]; exact hl)]
        simp [List.getD, hl]
      · rw [Array.getElem?_eq_none (by omega), Array.getElem?_eq_none (by rw [uvals_size, List.length_replicate]; omega)]
    rw [← this]
    exact h3
  · exact h.done j f hj h0 (by omega)

theorem two_lo (a b n m k : Nat) (h : k < n) : (List.replicate n a ++ List.replicate m b).getD k 0 = a := by
  rw [List.getD_eq_getElem?_getD, List.getElem?_append_left (by simpa using h), List.getElem?_replicate, if_pos h]
  rfl
theorem two_hi (a b n m k : Nat) (h : n ≤ k) (h2 : k < n + m) : (List.replicate n a ++ List.replicate m b).getD k 0 = b := by
  rw [List.getD_eq_getElem?_getD, List.getElem?_append_right (by simpa using h), List.getElem?_replicate, List.length_replicate, if_pos (by omega)]
  rfl

theorem pts_at (xs : List Int) (m k : Nat) (h : k < m) : (pts xs m).getD k 0 = ptN xs k := by
  unfold pts
  rw [List.getD_eq_getElem?_getD, List.getElem?_map, List.getElem?_range h, Option.map_some, Option.getD_some]

/-- The lists grown. -/
def P5 (H : Nat) (w : World) (vG : Value) (es : List (Nat × Nat)) (i : Nat) : Prop := ∃ gs : List Value, gs.length = i ∧ w.ownsRow H 41 1 vG i gs ∧
  ∀ j e, j < i → es[j]? = some e → ∃ v, gs[j]? = some v ∧ OwnU H w v (List.replicate e.2 (1000 + j) ++ List.replicate 600 (7000 + j))
theorem P5.nil (H : Nat) (w : World) (es : List (Nat × Nat)) : P5 H w (.slice none 0 0) es 0 := ⟨[], rfl, World.ownsRow_nil w H 41 1, fun j e h => by omega⟩
theorem P5.kept {H : Nat} {w w' : World} {vG : Value} {es : List (Nat × Nat)} {i : Nat} (h : P5 H w vG es i) (hf : w.grownBy w' none) : P5 H w' vG es i := by
  obtain ⟨gs, h1, h2, h3⟩ := h
  refine ⟨gs, h1, row_kept h2 hf (by simp), fun j e hj he => ?_⟩
  obtain ⟨v, h4, h5⟩ := h3 j e hj he
  exact ⟨v, h4, h5.kept0 hf⟩
theorem P5.push {H : Nat} {w w' : World} {vG vG' : Value} {es : List (Nat × Nat)} {i : Nat} {gs : List Value} (h1 : gs.length = i) (h2 : w.ownsRow H 41 1 vG i gs)
    (h3 : ∀ j e, j < i → es[j]? = some e → ∃ v, gs[j]? = some v ∧ OwnU H w v (List.replicate e.2 (1000 + j) ++ List.replicate 600 (7000 + j)))
    {e : Nat × Nat} (he : es[i]? = some e) {v : Value} (hv : OwnU H w v (List.replicate e.2 (1000 + i) ++ List.replicate 600 (7000 + i)))
    (b1 : w'.ownsRow H 41 1 vG' (i + 1) (gs ++ [v])) (b2 : w.grownBy w' vG.ownBlock) : P5 H w' vG' es (i + 1) := by
  have kp : ∀ {x : Value} {us : List Nat}, OwnU H w x us → OwnU H w' x us := fun {x us} hx => row_kept hx b2 (fun k hk e1 => by
    obtain ⟨c1, k1⟩ := row_block hx k hk
    obtain ⟨c2, k2⟩ := row_block h2 k e1.symm
    exact ne_of_type k1 k2 (by decide) rfl)
  refine ⟨gs ++ [v], by simp [h1], b1, fun j f hj hf => ?_⟩
  by_cases hji : j < i
  · obtain ⟨x, h4, h5⟩ := h3 j f hji hf
    exact ⟨x, by rw [List.getElem?_append_left (by omega)]; exact h4, kp h5⟩
  · obtain rfl : j = i := by omega
    rw [he] at hf
    cases hf
    exact ⟨v, by rw [List.getElem?_append_right (by omega), h1]; simp, kp hv⟩

end Go.Proofs.Ytcbogbohafmnhaa
