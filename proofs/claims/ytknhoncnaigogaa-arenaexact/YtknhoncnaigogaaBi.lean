/-
  Held.Add: words for its state.
-/
import Derived.Test.YtknhoncnaigogaaBh
import Derived.Deep.AppendLies
import Derived.Deep.RegionLaw
namespace Go.Proofs.Ytknhoncnaigogaa
open Go.RowKit
set_option linter.unusedVariables false

/-- Held, its two rows of whatever lengths. -/
structure IsK (w : World) (hb : Nat) (F : Nat → Prop) (gv wv : Value) (L : List Got) (M : List Value) (sz : Int) : Prop where
  box : Box w 75 hb #[gv, wv, .int .i64 sz]
  rg : w.ownsRow 0 29 1 gv L.length (L.map Got.val)
  rw : w.ownsRow 0 29 1 wv M.length M
  fb : F hb
  fg : ∀ k, gv.ownBlock = some k → F k
  fw : ∀ k, wv.ownBlock = some k → F k
  apart : ∀ k, gv.ownBlock = some k → wv.ownBlock ≠ some k
  data : ∀ (i : Nat) t, L[i]? = some t → isBytes t.xs ∧ t.xs.length ≤ 1000000000 ∧ (t.a = none → t.xs = []) ∧ ∀ g, t.a = some g → F g ∧ w.heap[g]? = some (.cells (vals t.xs) 5 (0, 0))
  want : ∀ (i : Nat) t u, L[i]? = some t → M[i]? = some u → ∃ wa wc, u = .slice wa t.xs.length wc ∧ Own 0 w wa wc t.xs ∧ ∀ k, blk wa = some k → F k
  once : ∀ (i j : Nat) t u g, L[i]? = some t → L[j]? = some u → t.a = some g → u.a = some g → i = j
  inF : ∀ k, F k → k < w.heap.size

theorem IsK.toH {w : World} {hb : Nat} {F : Nat → Prop} {gv wv : Value} {L : List Got} {M : List Value} {sz : Int} (h : IsK w hb F gv wv L M sz) (hl : M.length = L.length) : IsH w hb F gv wv L M sz := by
  refine ⟨h.box, h.rg, hl ▸ h.rw, h.fb, h.fg, h.fw, h.apart, h.data, fun i t ht => ?_, h.once, h.inF⟩
  have hi := (List.getElem?_eq_some_iff.1 ht).1
  obtain ⟨u, hu⟩ : ∃ u, M[i]? = some u := ⟨M[i]'(by omega), by simp⟩
  obtain ⟨wa, wc, rfl, h1, h2⟩ := h.want i t u ht hu
  exact ⟨wa, wc, hu, h1, h2⟩
theorem IsH.toK {w : World} {hb : Nat} {F : Nat → Prop} {gv wv : Value} {L : List Got} {M : List Value} {sz : Int} (h : IsH w hb F gv wv L M sz) : IsK w hb F gv wv L M sz ∧ M.length = L.length := by
  have hl : M.length = L.length := by have := h.rw.1; omega
  refine ⟨⟨h.box, h.rg, hl ▸ h.rw, h.fb, h.fg, h.fw, h.apart, h.data, fun i t u ht hu => ?_, h.once, h.inF⟩, hl⟩
  obtain ⟨wa, wc, h0, h1, h2⟩ := h.want i t ht
  rw [hu] at h0; cases h0
  exact ⟨wa, wc, rfl, h1, h2⟩

/-- A row, where its block is as it was. -/
theorem row_same {w w' : World} {B : Nat} {e : TypeId} {v : Value} {n : Nat} {xs : List Value} (h1 : w.ownsRow B e 1 v n xs) (hf : ∀ k, v.ownBlock = some k → w'.heap[k]? = w.heap[k]?) : w'.ownsRow B e 1 v n xs := by
  refine ⟨h1.1, ?_⟩
  rcases h1.2 with h3 | ⟨g, c, cur, rfl, h4, h5, h6⟩
  · exact .inl h3
  · exact .inr ⟨g, c, cur, rfl, h4, by rw [hf g rfl]; exact h5, h6⟩

/-- What was held is so where the bytes' blocks are as they were. -/
theorem IsK.datas {w w' : World} {hb : Nat} {F F' : Nat → Prop} {gv wv : Value} {L : List Got} {M : List Value} {sz : Int} (h : IsK w hb F gv wv L M sz) (hF : ∀ k, F k → F' k) (hf : ∀ k cur z, F k → w.heap[k]? = some (.cells cur 5 z) → w'.heap[k]? = w.heap[k]?) :
    (∀ (i : Nat) t, L[i]? = some t → isBytes t.xs ∧ t.xs.length ≤ 1000000000 ∧ (t.a = none → t.xs = []) ∧ ∀ g, t.a = some g → F' g ∧ w'.heap[g]? = some (.cells (vals t.xs) 5 (0, 0))) ∧
    (∀ (i : Nat) t u, L[i]? = some t → M[i]? = some u → ∃ wa wc, u = .slice wa t.xs.length wc ∧ Own 0 w' wa wc t.xs ∧ ∀ k, blk wa = some k → F' k) := by
  constructor
  · intro i t ht
    obtain ⟨h1, h2, h3, h4⟩ := h.data i t ht
    exact ⟨h1, h2, h3, fun g hg => ⟨hF g (h4 g hg).1, by rw [hf g _ _ (h4 g hg).1 (h4 g hg).2]; exact (h4 g hg).2⟩⟩
  · intro i t u ht hu
    obtain ⟨wa, wc, h1, h2, h3⟩ := h.want i t u ht hu
    refine ⟨wa, wc, h1, row_same h2 (fun k hk => ?_), fun k hk => hF k (h3 k hk)⟩
    obtain ⟨cur, hc⟩ := row_block h2 k hk
    rw [ownBlock_blk] at hk
    exact hf k cur _ (h3 k hk) hc

theorem IsK.kept0 {w w' : World} {hb : Nat} {F : Nat → Prop} {gv wv : Value} {L : List Got} {M : List Value} {sz : Int} (h : IsK w hb F gv wv L M sz) (hf : w.grownBy w' none) : IsK w' hb F gv wv L M sz := by
  have hs : ∀ k, F k → w'.heap[k]? = w.heap[k]? := fun k hk => hf.block k (h.inF k hk) (by simp)
  obtain ⟨d1, d2⟩ := h.datas (w' := w') (F' := F) (fun k hk => hk) (fun k cur z hk _ => hs k hk)
  exact ⟨h.box.kept hf (by simp), row_same h.rg (fun k hk => hs k (h.fg k hk)), row_same h.rw (fun k hk => hs k (h.fw k hk)), h.fb, h.fg, h.fw, h.apart, d1, d2, h.once, fun k hk => Nat.lt_of_lt_of_le (h.inF k hk) hf.size⟩

section
variable {w w1 : World} {hb : Nat} {F : Nat → Prop} {gv wv : Value} {L : List Got} {M : List Value} {sz : Int}

/-- Behind an append to the first row, and its store. -/
theorem IsK.more_got (h : IsK w hb F gv wv L M sz) (hle : M.length ≤ L.length) (t : Got) (ht1 : isBytes t.xs) (ht2 : t.xs.length ≤ 1000000000) (ht3 : t.a = none → t.xs = []) (ht4 : ∀ g, t.a = some g → ¬ F g ∧ w.heap[g]? = some (.cells (vals t.xs) 5 (0, 0)))
    {g1 cap1 : Nat} (hf : w.grownBy w1 gv.ownBlock) (hr : w1.ownsRow 0 29 1 (.slice (some ⟨g1, 0, none⟩) (L.length + 1) cap1) (L.length + 1) (L.map Got.val ++ [t.val])) (hat : gv.ownBlock = some g1 ∨ w.heap.size ≤ g1) :
    IsK (w1.setCell ⟨hb, 0, none⟩ (.slice (some ⟨g1, 0, none⟩) (L.length + 1) cap1)) hb (fun k => F k ∨ t.a = some k ∨ k = g1) (.slice (some ⟨g1, 0, none⟩) (L.length + 1) cap1) wv (L ++ [t]) M sz ∧ Kp F w (w1.setCell ⟨hb, 0, none⟩ (.slice (some ⟨g1, 0, none⟩) (L.length + 1) cap1)) := by
  have hbl := lt_of_block h.box
  have hng : ∀ k cur t z, w.heap[k]? = some (.cells cur t z) → t ≠ 29 → some k ≠ gv.ownBlock := by
    intro k cur t z h1 h2 e
    obtain ⟨cur2, hc2⟩ := row_block h.rg k e.symm
    exact ne_of_type h1 hc2 h2 rfl
  have hbx1 : Box w1 75 hb #[gv, wv, .int .i64 sz] := h.box.kept hf (hng hb _ _ _ h.box (by decide))
  have hot : ∀ k, k ≠ hb → (w1.setCell ⟨hb, 0, none⟩ (.slice (some ⟨g1, 0, none⟩) (L.length + 1) cap1)).heap[k]? = w1.heap[k]? := fun k hk => heap_setCell_other _ _ _ _ hk
  have hsz : (w1.setCell ⟨hb, 0, none⟩ (.slice (some ⟨g1, 0, none⟩) (L.length + 1) cap1)).heap.size = w1.heap.size := by simp [World.setCell]
  have hg1b : g1 ≠ hb := by
    obtain ⟨cur2, hc2⟩ := row_block hr g1 rfl
    exact ne_of_type hc2 hbx1 (by decide)
  have hkeep : ∀ k, k < w.heap.size → k ≠ hb → some k ≠ gv.ownBlock → (w1.setCell ⟨hb, 0, none⟩ (.slice (some ⟨g1, 0, none⟩) (L.length + 1) cap1)).heap[k]? = w.heap[k]? := fun k hk h1 h2 => by rw [hot k h1]; exact hf.block k hk h2
  have h5 : ∀ k cur z, F k → w.heap[k]? = some (.cells cur 5 z) → (w1.setCell ⟨hb, 0, none⟩ (.slice (some ⟨g1, 0, none⟩) (L.length + 1) cap1)).heap[k]? = w.heap[k]? := fun k cur z hk hc => hkeep k (h.inF k hk) (ne_of_type hc h.box (by decide)) (hng k _ _ _ hc (by decide))
  obtain ⟨d1, d2⟩ := h.datas (F' := fun k => F k ∨ t.a = some k ∨ k = g1) (fun k hk => .inl hk) h5
  refine ⟨⟨?_, ?_, ?_, .inl h.fb, ?_, fun k hk => .inl (h.fw k hk), ?_, ?_, ?_, ?_, ?_⟩, ?_⟩
  · have := heap_setCell_same w1 hb 0 _ _ (.slice (some ⟨g1, 0, none⟩) (L.length + 1) cap1) hbx1
    exact this
  · rw [List.length_append, List.map_append]
    exact row_same hr (fun k hk => hot k (by cases hk; exact hg1b))
  · refine row_same h.rw (fun k hk => hkeep k ((h.rw.lt k hk).2) ?_ (fun e => h.apart k e.symm hk))
    obtain ⟨cur2, hc2⟩ := row_block h.rw k hk
    exact ne_of_type hc2 h.box (by decide)
  · intro k hk; cases hk; exact .inr (.inr rfl)
  · intro k hk e
    cases hk
    rcases hat with h1 | h1
    · exact h.apart _ h1 e
    · have : g1 < w.heap.size := (h.rw.lt _ e).2
      omega
  · intro i u hu
    by_cases hi : i < L.length
    · rw [List.getElem?_append_left hi] at hu; exact d1 i u hu
    · have hi2 : i = L.length := by
        have := (List.getElem?_eq_some_iff.1 hu).1
        simp at this; omega
      subst hi2
      simp at hu; subst hu
      refine ⟨ht1, ht2, ht3, fun g hg => ⟨.inr (.inl hg), ?_⟩⟩
      have hc := (ht4 g hg).2
      rw [hkeep g (lt_of_block hc) (ne_of_type hc h.box (by decide)) (hng g _ _ _ hc (by decide))]
      exact hc
  · intro i u x hu hx
    have hi : i < L.length := Nat.lt_of_lt_of_le (List.getElem?_eq_some_iff.1 hx).1 hle
    rw [List.getElem?_append_left hi] at hu
    exact d2 i u x hu hx
  · intro i j u x g hu hx h1 h2
    have old : ∀ (i : Nat) u g, L[i]? = some u → u.a = some g → F g := fun i u g hu hg => ((h.data i u hu).2.2.2 g hg).1
    have hi := (List.getElem?_eq_some_iff.1 hu).1
    have hj := (List.getElem?_eq_some_iff.1 hx).1
    simp at hi hj
    by_cases ei : i < L.length
    · rw [List.getElem?_append_left ei] at hu
      by_cases ej : j < L.length
      · rw [List.getElem?_append_left ej] at hx
        exact h.once i j u x g hu hx h1 h2
      · have : j = L.length := by omega
        subst this
        simp at hx; subst hx
        exact absurd (old i u g hu h1) (ht4 g h2).1
    · have : i = L.length := by omega
      subst this
      simp at hu; subst hu
      by_cases ej : j < L.length
      · rw [List.getElem?_append_left ej] at hx
        exact absurd (old j x g hx h2) (ht4 g h1).1
      · omega
  · intro k hk
    rw [hsz]
    rcases hk with h1 | h1 | h1
    · exact Nat.lt_of_lt_of_le (h.inF k h1) hf.size
    · exact Nat.lt_of_lt_of_le (lt_of_block (ht4 k h1).2) hf.size
    · subst h1; exact (hr.lt k rfl).2
  · exact ((Kp.refl F w).step hf (fun i hi => .inl (h.fg i hi))).step (gb_setCell (gb_refl w1 (some hb)) _) (fun i hi => by cases hi; exact .inl h.fb)

/-- Behind an append to the second row, and its store. -/
theorem IsK.more_want (h : IsK w hb F gv wv L M sz) {t : Got} (hl : L.length = M.length + 1) (ht : L[M.length]? = some t) {wa : Option Addr} {wc : Nat} (hw : Own 0 w wa wc t.xs)
    {g1 cap1 : Nat} (hf : w.grownBy w1 wv.ownBlock) (hr : w1.ownsRow 0 29 1 (.slice (some ⟨g1, 0, none⟩) (M.length + 1) cap1) (M.length + 1) (M ++ [.slice wa t.xs.length wc])) (hat : wv.ownBlock = some g1 ∨ w.heap.size ≤ g1) :
    IsK (w1.setCell ⟨hb, 1, none⟩ (.slice (some ⟨g1, 0, none⟩) (M.length + 1) cap1)) hb (fun k => F k ∨ blk wa = some k ∨ k = g1) gv (.slice (some ⟨g1, 0, none⟩) (M.length + 1) cap1) L (M ++ [.slice wa t.xs.length wc]) sz ∧ Kp F w (w1.setCell ⟨hb, 1, none⟩ (.slice (some ⟨g1, 0, none⟩) (M.length + 1) cap1)) := by
  have hng : ∀ k cur t z, w.heap[k]? = some (.cells cur t z) → t ≠ 29 → some k ≠ wv.ownBlock := by
    intro k cur t z h1 h2 e
    obtain ⟨cur2, hc2⟩ := row_block h.rw k e.symm
    exact ne_of_type h1 hc2 h2 rfl
  have hbx1 : Box w1 75 hb #[gv, wv, .int .i64 sz] := h.box.kept hf (hng hb _ _ _ h.box (by decide))
  have hot : ∀ k, k ≠ hb → (w1.setCell ⟨hb, 1, none⟩ (.slice (some ⟨g1, 0, none⟩) (M.length + 1) cap1)).heap[k]? = w1.heap[k]? := fun k hk => heap_setCell_other _ _ _ _ hk
  have hsz : (w1.setCell ⟨hb, 1, none⟩ (.slice (some ⟨g1, 0, none⟩) (M.length + 1) cap1)).heap.size = w1.heap.size := by simp [World.setCell]
  have hg1b : g1 ≠ hb := by
    obtain ⟨cur2, hc2⟩ := row_block hr g1 rfl
    exact ne_of_type hc2 hbx1 (by decide)
  have hkeep : ∀ k, k < w.heap.size → k ≠ hb → some k ≠ wv.ownBlock → (w1.setCell ⟨hb, 1, none⟩ (.slice (some ⟨g1, 0, none⟩) (M.length + 1) cap1)).heap[k]? = w.heap[k]? := fun k hk h1 h2 => by rw [hot k h1]; exact hf.block k hk h2
  have h5 : ∀ k cur z, F k → w.heap[k]? = some (.cells cur 5 z) → (w1.setCell ⟨hb, 1, none⟩ (.slice (some ⟨g1, 0, none⟩) (M.length + 1) cap1)).heap[k]? = w.heap[k]? := fun k cur z hk hc => hkeep k (h.inF k hk) (ne_of_type hc h.box (by decide)) (hng k _ _ _ hc (by decide))
  obtain ⟨d1, d2⟩ := h.datas (F' := fun k => F k ∨ blk wa = some k ∨ k = g1) (fun k hk => .inl hk) h5
  refine ⟨⟨?_, ?_, ?_, .inl h.fb, fun k hk => .inl (h.fg k hk), ?_, ?_, d1, ?_, h.once, ?_⟩, ?_⟩
  · have := heap_setCell_same w1 hb 1 _ _ (.slice (some ⟨g1, 0, none⟩) (M.length + 1) cap1) hbx1
    exact this
  · refine row_same h.rg (fun k hk => hkeep k ((h.rg.lt k hk).2) ?_ (fun e => h.apart k hk e.symm))
    obtain ⟨cur2, hc2⟩ := row_block h.rg k hk
    exact ne_of_type hc2 h.box (by decide)
  · rw [List.length_append]
    exact row_same hr (fun k hk => hot k (by cases hk; exact hg1b))
  · intro k hk; cases hk; exact .inr (.inr rfl)
  · intro k hk e
    cases e
    rcases hat with h1 | h1
    · exact h.apart _ hk h1
    · have : g1 < w.heap.size := (h.rg.lt _ hk).2
      omega
  · intro i u x hu hx
    by_cases hi : i < M.length
    · rw [List.getElem?_append_left hi] at hx; exact d2 i u x hu hx
    · have hi2 : i = M.length := by
        have := (List.getElem?_eq_some_iff.1 hx).1
        simp at this; omega
      subst hi2
      simp at hx; subst hx
      rw [ht] at hu; cases hu
      refine ⟨wa, wc, rfl, row_same hw (fun k hk => ?_), fun k hk => .inr (.inl hk)⟩
      obtain ⟨cur2, hc2⟩ := row_block hw k hk
      exact hkeep k (lt_of_block hc2) (ne_of_type hc2 h.box (by decide)) (hng k _ _ _ hc2 (by decide))
  · intro k hk
    rw [hsz]
    rcases hk with h1 | h1 | h1
    · exact Nat.lt_of_lt_of_le (h.inF k h1) hf.size
    · exact Nat.lt_of_lt_of_le (hw.lt k h1).2 hf.size
    · subst h1; exact (hr.lt k rfl).2
  · exact ((Kp.refl F w).step hf (fun i hi => .inl (h.fw i hi))).step (gb_setCell (gb_refl w1 (some hb)) _) (fun i hi => by cases hi; exact .inl h.fb)

theorem IsK.resize (h : IsK w hb F gv wv L M sz) (z : Int) : IsK (w.setCell ⟨hb, 2, none⟩ (.int .i64 z)) hb F gv wv L M z ∧ Kp F w (w.setCell ⟨hb, 2, none⟩ (.int .i64 z)) := by
  have hot : ∀ k, k ≠ hb → (w.setCell ⟨hb, 2, none⟩ (.int .i64 z)).heap[k]? = w.heap[k]? := fun k hk => heap_setCell_other _ _ _ _ hk
  have hsz : (w.setCell ⟨hb, 2, none⟩ (.int .i64 z)).heap.size = w.heap.size := by simp [World.setCell]
  have row : ∀ {v : Value} {n : Nat} {xs : List Value}, w.ownsRow 0 29 1 v n xs → (w.setCell ⟨hb, 2, none⟩ (.int .i64 z)).ownsRow 0 29 1 v n xs := fun h1 => row_same h1 (fun k hk => hot k (by
    obtain ⟨cur2, hc2⟩ := row_block h1 k hk
    exact ne_of_type hc2 h.box (by decide)))
  obtain ⟨d1, d2⟩ := h.datas (F' := F) (fun k hk => hk) (w' := w.setCell ⟨hb, 2, none⟩ (.int .i64 z)) (fun k cur z hk hc => hot k (ne_of_type hc h.box (by decide)))
  refine ⟨⟨?_, row h.rg, row h.rw, h.fb, h.fg, h.fw, h.apart, d1, d2, h.once, fun k hk => by rw [hsz]; exact h.inF k hk⟩, ?_⟩
  · exact heap_setCell_same w hb 2 _ _ (.int .i64 z) h.box
  · exact (Kp.refl F w).step (gb_setCell (gb_refl w (some hb)) _) (fun i hi => by cases hi; exact .inl h.fb)
end

end Go.Proofs.Ytknhoncnaigogaa
