import Derived.Test.YtoaaaeefcipdcaaSl
/-
  A Set that is changed.
-/
namespace Go.Proofs.Ytoaaaeefcipdcaa
open Go.RowKit
set_option linter.unusedVariables false

def upd {α : Type} (f : Nat → α) (i : Nat) (v : α) : Nat → α := fun j => if j = i then v else f j
theorem upd_same {α : Type} (f : Nat → α) (i : Nat) (v : α) : upd f i v i = v := by simp [upd]
theorem upd_other {α : Type} (f : Nat → α) {i j : Nat} (v : α) (h : j ≠ i) : upd f i v j = f j := by simp [upd, h]
def upd2 {α : Type} (f : Nat → Nat → α) (p k : Nat) (v : α) : Nat → Nat → α := fun q j => if q = p ∧ j = k then v else f q j

def Ab.push (A : Ab) (c x : Nat) : Ab := { A with row := upd A.row c (A.row c ++ [x]) }
def Ab.pop (A : Ab) (c : Nat) : Ab := { A with row := upd A.row c (A.row c).dropLast }
def Ab.stk (A : Ab) (c n : Nat) : Ab := { A with tk := upd A.tk c n }
def Ab.sgen (A : Ab) (p k v : Nat) : Ab := { A with gen := upd2 A.gen p k v }
def Ab.stkn (A : Ab) (p k : Nat) (v : Bool) : Ab := { A with tkn := upd2 A.tkn p k v }
def Ab.page (A : Ab) (c : Nat) : Ab := { A with np := A.np + 1, own := upd A.own A.np c, gen := fun p k => if p = A.np then 0 else A.gen p k, tkn := fun p k => if p = A.np then false else A.tkn p k }

theorem type_keep {w w' : World} {row : Option Nat} (hf : w.grownBy w' row) {T : TypeId} (hT : ∀ k, row = some k → ∃ cur z, w.heap[k]? = some (.cells cur T z)) {k : Nat} {cur : Array Value} {t : TypeId} {z : Nat × Nat} (hk : w.heap[k]? = some (.cells cur t z)) (hne : t ≠ T) : w'.heap[k]? = w.heap[k]? := by
  refine hf.block k (lt_of_block hk) (fun e => ?_)
  obtain ⟨c2, z2, h2⟩ := hT k e.symm
  exact ne_of_type hk h2 hne rfl
theorem set_keep {w : World} {a : Nat} {i : Nat} {v : Value} {c1 : Array Value} {T : TypeId} {z1 : Nat × Nat} (ha : w.heap[a]? = some (.cells c1 T z1)) {k : Nat} {cur : Array Value} {t : TypeId} {z : Nat × Nat} (hk : w.heap[k]? = some (.cells cur t z)) (hne : t ≠ T) : (w.setCell ⟨a, i, none⟩ v).heap[k]? = w.heap[k]? :=
  heap_setCell_other _ _ _ _ (ne_of_type hk ha hne)

section
variable {w : World} {sb : Nat} {F : Nat → Prop} {B : Bl} {b c d e f g : Int} {A : Ab} {zs : List Int}

theorem IsS.kbl (h : IsS w sb F B b c d e f g A zs) : ∃ cur, w.heap[B.kb]? = some (.cells cur 112 (0, 0)) := row_block h.kinds B.kb rfl

/-- A number is put at the end of a class's row. -/
theorem IsS.push (h : IsS w sb F B b c d e f g A zs) {i x : Nat} (hi : i < A.n) {w2 : World} {g2 cap2 : Nat} (hown : w2.ownsRow 0 126 1 (.slice (some ⟨g2, 0, none⟩) ((A.row i).length + 1) cap2) ((A.row i).length + 1) (u32s (A.row i) ++ [.int .u32 (x : Int)]))
    (hg : w.grownBy w2 (B.rv i).ownBlock) (hat : (B.rv i).ownBlock = some g2 ∨ w.heap.size ≤ g2) :
    IsS (w2.setCell ⟨B.kb, i * 4 + 2, none⟩ (.slice (some ⟨g2, 0, none⟩) ((A.row i).length + 1) cap2)) sb (fun k => F k ∨ k = g2) { B with rv := upd B.rv i (.slice (some ⟨g2, 0, none⟩) ((A.row i).length + 1) cap2) } b c d e f g (A.push i x) zs ∧
    Kp F w (w2.setCell ⟨B.kb, i * 4 + 2, none⟩ (.slice (some ⟨g2, 0, none⟩) ((A.row i).length + 1) cap2)) := by
  have hT : ∀ k, (B.rv i).ownBlock = some k → ∃ cur z, w.heap[k]? = some (.cells cur 126 z) := fun k hk => by
    obtain ⟨cur, hc⟩ := row_block (h.rows i hi) k hk
    exact ⟨cur, _, hc⟩
  obtain ⟨kcur, hkb⟩ := h.kbl
  have hkb2 : w2.heap[B.kb]? = some (.cells kcur 112 (0, 0)) := by rw [type_keep hg hT hkb (by decide)]; exact hkb
  obtain ⟨gcur, hg2⟩ := row_block hown g2 rfl
  generalize hV : (Value.slice (some ⟨g2, 0, none⟩) ((A.row i).length + 1) cap2) = V at *
  have keep : ∀ {k : Nat} {cur : Array Value} {t : TypeId} {z : Nat × Nat}, w.heap[k]? = some (.cells cur t z) → t ≠ 126 → t ≠ 112 → (w2.setCell ⟨B.kb, i * 4 + 2, none⟩ V).heap[k]? = w.heap[k]? := by
    intro k cur t z hk h1 h2
    have e := type_keep hg hT hk h1
    rw [set_keep hkb2 (by rw [e]; exact hk) h2, e]
  have hsz : (w2.setCell ⟨B.kb, i * 4 + 2, none⟩ V).heap.size = w2.heap.size := by simp
  have hg2l := lt_of_block hg2
  refine ⟨⟨?_, ?_, ?_, fun p hp => ?_, fun j hj => ?_, ?_, .inl h.fs, .inl h.fk, fun k hk => .inl (h.fp k hk), fun p hp => .inl (h.fc p hp), fun j k hj hk => ?_, ⟨.inl h.fa.1, .inl h.fa.2⟩, ?_, h.cinj, ?_, h.bm⟩, ?_⟩
  · unfold Box
    rw [keep h.box (by decide) (by decide)]
    exact h.box
  · have h1 := row_set (row_kept h.kinds hg (fun k hk e => by
      simp [Value.ownBlock] at hk; subst hk
      obtain ⟨c2, z2, h2⟩ := hT _ e.symm
      exact ne_of_type hkb h2 (by decide) rfl)) (i * 4 + 2) V
    have e := rng_set (kindC_len A B.rv) (i := i) (j := 2) (by omega) V (g := kindC (A.push i x) (upd B.rv i V)) (fun k hk => by
      simp only [kindC, Ab.push, Ab.each]; rw [upd_other _ _ hk]) (by
      simp only [kindC, Ab.push, Ab.each]; rw [upd_same]; rfl) hi
    rw [e] at h1
    exact h1
  · refine row_same h.pages fun k hk => ?_
    obtain ⟨cur, hc⟩ := row_block h.pages k hk
    exact keep hc (by decide) (by decide)
  · rw [keep (h.chunks p hp) (by decide) (by decide)]
    exact h.chunks p hp
  · by_cases e : j = i
    · subst e
      show World.ownsRow _ 0 126 1 (upd B.rv j V j) (upd A.row j (A.row j ++ [x]) j).length (u32s (upd A.row j (A.row j ++ [x]) j))
      rw [upd_same, upd_same]
      simp only [List.length_append, List.length_cons, List.length_nil, u32s, List.map_append, List.map_cons, List.map_nil]
      refine row_same hown fun k hk => ?_
      obtain ⟨cur, hc⟩ := row_block hown k hk
      exact set_keep hkb2 hc (by decide)
    · show World.ownsRow _ 0 126 1 (upd B.rv i V j) (upd A.row i (A.row i ++ [x]) j).length (u32s (upd A.row i (A.row i ++ [x]) j))
      rw [upd_other _ _ e, upd_other _ _ e]
      refine row_same (h.rows j hj) fun k hk => ?_
      obtain ⟨cur, hc⟩ := row_block (h.rows j hj) k hk
      have e1 := hg.block k (lt_of_block hc) (fun e2 => e (h.rinj j i k hj hi hk e2.symm))
      rw [set_keep hkb2 (by rw [e1]; exact hc) (by decide), e1]
  · exact h.ar.same (keep h.ar.hb (by decide) (by decide)) (keep h.ar.hg (by decide) (by decide))
  · by_cases e : j = i
    · subst e
      change (upd B.rv j V j).ownBlock = some k at hk
      rw [upd_same, ← hV] at hk
      simp [Value.ownBlock] at hk
      exact .inr hk.symm
    · change (upd B.rv i V j).ownBlock = some k at hk
      rw [upd_other _ _ e] at hk
      exact .inl (h.fr j k hj hk)
  · rintro k (hk | hk)
    · have := h.lt k hk; have := hg.size; omega
    · omega
  · intro j l k hj hl hjk hlk
    change (upd B.rv i V j).ownBlock = some k at hjk
    change (upd B.rv i V l).ownBlock = some k at hlk
    have fresh : ∀ q, q < A.n → (B.rv q).ownBlock = some g2 → q = i := by
      intro q hq hqk
      rcases hat with h1 | h1
      · exact h.rinj q i g2 hq hi hqk h1
      · have := h.lt _ (h.fr q g2 hq hqk); omega
    by_cases e1 : j = i <;> by_cases e2 : l = i
    · omega
    · rw [e1, upd_same, ← hV] at hjk
      simp [Value.ownBlock] at hjk
      rw [upd_other _ _ e2, ← hjk] at hlk
      exact absurd (fresh l hl hlk) e2
    · rw [e2, upd_same, ← hV] at hlk
      simp [Value.ownBlock] at hlk
      rw [upd_other _ _ e1, ← hlk] at hjk
      exact absurd (fresh j hj hjk) e1
    · rw [upd_other _ _ e1] at hjk
      rw [upd_other _ _ e2] at hlk
      exact h.rinj j l k hj hl hjk hlk
  · refine ((Kp.refl F w).step hg (fun k hk => .inl (h.fr i k hi hk))).step (gb_setCell (gb_refl _ _) _) (fun k hk => .inl ?_)
    simp at hk; subst hk; exact h.fk
end

end Go.Proofs.Ytoaaaeefcipdcaa
