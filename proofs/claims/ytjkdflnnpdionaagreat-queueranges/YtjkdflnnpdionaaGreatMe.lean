import Derived.Test.YtjkdflnnpdionaaGreatMd
/-
  A Set that is changed.
-/
namespace Go.Proofs.YtjkdflnnpdionaaGreat
open Go.RowKit
set_option linter.unusedVariables false

def upd {α : Type} (f : Nat → α) (i : Nat) (v : α) : Nat → α := fun j => if j = i then v else f j
theorem upd_same {α : Type} (f : Nat → α) (i : Nat) (v : α) : upd f i v i = v := by simp [upd]
theorem upd_other {α : Type} (f : Nat → α) {i j : Nat} (v : α) (h : j ≠ i) : upd f i v j = f j := by simp [upd, h]
def upd2 {α : Type} (f : Nat → Nat → α) (p k : Nat) (v : α) : Nat → Nat → α := fun q j => if q = p ∧ j = k then v else f q j

def Ab.push (A : Ab) (c x : Nat) : Ab := { A with row := upd A.row c (A.row c ++ [x]) }
def Ab.pop (A : Ab) (c : Nat) : Ab := { A with row := upd A.row c (A.row c).dropLast }
def Ab.stk (A : Ab) (c n : Nat) : Ab := { A with tk := upd A.tk c n }
def Ab.sgen (A : Ab) (p k v : Nat) : Ab := { A with gen := upd2 A.gen p k v }
def Ab.stkn (A : Ab) (p k : Nat) (v : Bool) : Ab := { A with tkn := upd2 A.tkn p k v }
def Ab.page (A : Ab) (c : Nat) : Ab := { A with np := A.np + 1, own := upd A.own A.np c, gen := fun p k => if p = A.np then 0 else A.gen p k, tkn := fun p k => if p = A.np then false else A.tkn p k }

theorem type_keep {w w' : World} {row : Option Nat} (hf : w.grownBy w' row) {T : TypeId} (hT : ∀ k, row = some k → ∃ cur z, w.heap[k]? = some (.cells cur T z)) {k : Nat} {cur : Array Value} {t : TypeId} {z : Nat × Nat} (hk : w.heap[k]? = some (.cells cur t z)) (hne : t ≠ T) : w'.heap[k]? = w.heap[k]? := by
  refine hf.block k (lt_of_block hk) (fun e => ?_)
  obtain ⟨c2, z2, h2⟩ := hT k e.symm
  exact ne_of_type hk h2 hne rfl
theorem set_keep {w : World} {a : Nat} {i : Nat} {v : Value} {c1 : Array Value} {T : TypeId} {z1 : Nat × Nat} (ha : w.heap[a]? = some (.cells c1 T z1)) {k : Nat} {cur : Array Value} {t : TypeId} {z : Nat × Nat} (hk : w.heap[k]? = some (.cells cur t z)) (hne : t ≠ T) : (w.setCell ⟨a, i, none⟩ v).heap[k]? = w.heap[k]? :=
  heap_setCell_other _ _ _ _ (ne_of_type hk ha hne)

section
variable {w : World} {sb : Nat} {F : Nat → Prop} {B : Bl} {b c d e f g : Int} {A : Ab} {zs : List Int}

theorem IsS.kbl (h : IsS w sb F B b c d e f g A zs) : ∃ cur, w.heap[B.kb]? = some (.cells cur 190 (0, 0)) := row_block h.kinds B.kb rfl

/-- A number is put at the end of a class's row. -/
theorem IsS.push (h : IsS w sb F B b c d e f g A zs) {i x : Nat} (hi : i < A.n) {w2 : World} {g2 cap2 : Nat} (hown : w2.ownsRow 0 205 1 (.slice (some ⟨g2, 0, none⟩) ((A.row i).length + 1) cap2) ((A.row i).length + 1) (u32s (A.row i) ++ [.int .u32 (x : Int)]))
    (hg : w.grownBy w2 (B.rv i).ownBlock) (hat : (B.rv i).ownBlock = some g2 ∨ w.heap.size ≤ g2) :
    IsS (w2.setCell ⟨B.kb, i * 4 + 2, none⟩ (.slice (some ⟨g2, 0, none⟩) ((A.row i).length + 1) cap2)) sb (fun k => F k ∨ k = g2) { B with rv := upd B.rv i (.slice (some ⟨g2, 0, none⟩) ((A.row i).length + 1) cap2) } b c d e f g (A.push i x) zs ∧
    Kp F w (w2.setCell ⟨B.kb, i * 4 + 2, none⟩ (.slice (some ⟨g2, 0, none⟩) ((A.row i).length + 1) cap2)) := by
  have hT : ∀ k, (B.rv i).ownBlock = some k → ∃ cur z, w.heap[k]? = some (.cells cur 205 z) := fun k hk => by
    obtain ⟨cur, hc⟩ := row_block (h.rows i hi) k hk
    exact ⟨cur, _, hc⟩
  obtain ⟨kcur, hkb⟩ := h.kbl
  have hkb2 : w2.heap[B.kb]? = some (.cells kcur 190 (0, 0)) := by rw [type_keep hg hT hkb (by decide)]; exact hkb
  obtain ⟨gcur, hg2⟩ := row_block hown g2 rfl
  generalize hV : (Value.slice (some ⟨g2, 0, none⟩) ((A.row i).length + 1) cap2) = V at *
  have keep : ∀ {k : Nat} {cur : Array Value} {t : TypeId} {z : Nat × Nat}, w.heap[k]? = some (.cells cur t z) → t ≠ 205 → t ≠ 190 → (w2.setCell ⟨B.kb, i * 4 + 2, none⟩ V).heap[k]? = w.heap[k]? := by
    intro k cur t z hk h1 h2
    have e := type_keep hg hT hk h1
    rw [set_keep hkb2 (by rw [e]; exact hk) h2, e]
  have hsz : (w2.setCell ⟨B.kb, i * 4 + 2, none⟩ V).heap.size = w2.heap.size := by simp
  have hg2l := lt_of_block hg2
  refine ⟨⟨?_, ?_, ?_, fun p hp => ?_, fun j hj => ?_, ?_, .inl h.fs, .inl h.fk, fun k hk => .inl (h.fp k hk), fun p hp => .inl (h.fc p hp), fun j k hj hk => ?_, ⟨.inl h.fa.1, .inl h.fa.2⟩, ?_, h.cinj, ?_, h.bm⟩, ?_⟩
  · unfold Box
    rw [keep h.box (by decide) (by decide)]
    exact h.box
  · have h1 := row_set (row_kept h.kinds hg (fun k hk e => by
      simp [Value.ownBlock] at hk; subst hk
      obtain ⟨c2, z2, h2⟩ := hT _ e.symm
      exact ne_of_type hkb h2 (by decide) rfl)) (i * 4 + 2) V
    have e := rng_set (kindC_len A B.rv) (i := i) (j := 2) (by omega) V (g := kindC (A.push i x) (upd B.rv i V)) (fun k hk => by
      simp only [kindC, Ab.push, Ab.each]; rw [upd_other _ _ hk]) (by
      simp only [kindC, Ab.push, Ab.each]; rw [upd_same]; rfl) hi
    rw [e] at h1
    exact h1
  · refine row_same h.pages fun k hk => ?_
    obtain ⟨cur, hc⟩ := row_block h.pages k hk
    exact keep hc (by decide) (by decide)
  · rw [keep (h.chunks p hp) (by decide) (by decide)]
    exact h.chunks p hp
  · by_cases e : j = i
    · subst e
      show World.ownsRow _ 0 205 1 (upd B.rv j V j) (upd A.row j (A.row j ++ [x]) j).length (u32s (upd A.row j (A.row j ++ [x]) j))
      rw [upd_same, upd_same]
      simp only [List.length_append, List.length_cons, List.length_nil, u32s, List.map_append, List.map_cons, List.map_nil]
      refine row_same hown fun k hk => ?_
      obtain ⟨cur, hc⟩ := row_block hown k hk
      exact set_keep hkb2 hc (by decide)
    · show World.ownsRow _ 0 205 1 (upd B.rv i V j) (upd A.row i (A.row i ++ [x]) j).length (u32s (upd A.row i (A.row i ++ [x]) j))
      rw [upd_other _ _ e, upd_other _ _ e]
      refine row_same (h.rows j hj) fun k hk => ?_
      obtain ⟨cur, hc⟩ := row_block (h.rows j hj) k hk
      have e1 := hg.block k (lt_of_block hc) (fun e2 => e (h.rinj j i k hj hi hk e2.symm))
      rw [set_keep hkb2 (by rw [e1]; exact hc) (by decide), e1]
  · exact h.ar.same (keep h.ar.hb (by decide) (by decide)) (keep h.ar.hg (by decide) (by decide))
  · by_cases e : j = i
    · subst e
      change (upd B.rv j V j).ownBlock = some k at hk
      rw [upd_same, ← hV] at hk
      simp [Value.ownBlock] at hk
      exact .inr hk.symm
    · change (upd B.rv i V j).ownBlock = some k at hk
      rw [upd_other _ _ e] at hk
      exact .inl (h.fr j k hj hk)
  · rintro k (hk | hk)
    · have := h.lt k hk; have := hg.size; omega
    · omega
  · intro j l k hj hl hjk hlk
    change (upd B.rv i V j).ownBlock = some k at hjk
    change (upd B.rv i V l).ownBlock = some k at hlk
    have fresh : ∀ q, q < A.n → (B.rv q).ownBlock = some g2 → q = i := by
      intro q hq hqk
      rcases hat with h1 | h1
      · exact h.rinj q i g2 hq hi hqk h1
      · have := h.lt _ (h.fr q g2 hq hqk); omega
    by_cases e1 : j = i <;> by_cases e2 : l = i
    · omega
    · rw [e1, upd_same, ← hV] at hjk
      simp [Value.ownBlock] at hjk
      rw [upd_other _ _ e2, ← hjk] at hlk
      exact absurd (fresh l hl hlk) e2
    · rw [e2, upd_same, ← hV] at hlk
      simp [Value.ownBlock] at hlk
      rw [upd_other _ _ e1, ← hlk] at hjk
      exact absurd (fresh j hj hjk) e1
    · rw [upd_other _ _ e1] at hjk
      rw [upd_other _ _ e2] at hlk
      exact h.rinj j l k hj hl hjk hlk
  · refine ((Kp.refl F w).step hg (fun k hk => .inl (h.fr i k hi hk))).step (gb_setCell (gb_refl _ _) _) (fun k hk => .inl ?_)
    simp at hk; subst hk; exact h.fk
end

end Go.Proofs.YtjkdflnnpdionaaGreat
/-
  A Set that is changed: pop, counts, chunks, pages, bytes.
-/
namespace Go.Proofs.YtjkdflnnpdionaaGreat
open Go.RowKit
set_option linter.unusedVariables false

section
variable {w : World} {sb : Nat} {F : Nat → Prop} {B : Bl} {b c d e f g : Int} {A : Ab} {zs : List Int}

theorem IsS.kp_set (h : IsS w sb F B b c d e f g A zs) {k j : Nat} (hk : F k) (v : Value) : Kp F w (w.setCell ⟨k, j, none⟩ v) :=
  (Kp.refl F w).step (gb_setCell (gb_refl _ _) _) (fun i hi => .inl (by simp at hi; subst hi; exact hk))

/-- The last number of a class's row is cut off. -/
theorem IsS.pop (h : IsS w sb F B b c d e f g A zs) {i gg cap n : Nat} (hi : i < A.n) (hrv : B.rv i = .slice (some ⟨gg, 0, none⟩) (A.row i).length cap) (hn : (A.row i).length = n + 1) :
    IsS (w.setCell ⟨B.kb, i * 4 + 2, none⟩ (.slice (some ⟨gg, 0, none⟩) n cap)) sb F { B with rv := upd B.rv i (.slice (some ⟨gg, 0, none⟩) n cap) } b c d e f g (A.pop i) zs := by
  obtain ⟨kcur, hkb⟩ := h.kbl
  have hri := h.rows i hi
  rw [hrv] at hri
  have hl : (A.row i).dropLast.length = n := by simp [hn]
  have hrt := row_take hri (m := n) (by omega)
  have hrtx : (u32s (A.row i)).take (n * 1) = u32s (A.row i).dropLast := by
    unfold u32s
    rw [← List.map_take, List.dropLast_eq_take, hn]; simp
  rw [hrtx] at hrt
  have hob : ∀ j k, (upd B.rv i (.slice (some ⟨gg, 0, none⟩) n cap) j).ownBlock = some k → (B.rv j).ownBlock = some k := by
    intro j k hk
    by_cases e : j = i
    · rw [e, upd_same] at hk
      rw [e, hrv]; exact hk
    · rwa [upd_other _ _ e] at hk
  generalize hV : (Value.slice (some ⟨gg, 0, none⟩) n cap) = V at *
  have keep : ∀ {k : Nat} {cur : Array Value} {t : TypeId} {z : Nat × Nat}, w.heap[k]? = some (.cells cur t z) → t ≠ 190 → (w.setCell ⟨B.kb, i * 4 + 2, none⟩ V).heap[k]? = w.heap[k]? := fun hk h2 => set_keep hkb hk h2
  refine ⟨?_, ?_, ?_, fun p hp => ?_, fun j hj => ?_, ?_, h.fs, h.fk, h.fp, h.fc, fun j k hj hk => h.fr j k hj (hob j k hk), h.fa, fun k hk => by simpa using h.lt k hk, h.cinj, fun j l k hj hl hjk hlk => h.rinj j l k hj hl (hob j k hjk) (hob l k hlk), h.bm⟩
  · unfold Box
    rw [keep h.box (by decide)]
    exact h.box
  · have h1 := row_set h.kinds (i * 4 + 2) V
    have e := rng_set (kindC_len A B.rv) (i := i) (j := 2) (by omega) V (g := kindC (A.pop i) (upd B.rv i V)) (fun k hk => by
      simp only [kindC, Ab.pop, Ab.each]; rw [upd_other _ _ hk]) (by
      simp only [kindC, Ab.pop, Ab.each]; rw [upd_same]; rfl) hi
    rw [e] at h1
    exact h1
  · refine row_same h.pages fun k hk => ?_
    obtain ⟨cur, hc⟩ := row_block h.pages k hk
    exact keep hc (by decide)
  · rw [keep (h.chunks p hp) (by decide)]
    exact h.chunks p hp
  · by_cases e : j = i
    · subst e
      show World.ownsRow _ 0 205 1 (upd B.rv j V j) (upd A.row j (A.row j).dropLast j).length (u32s (upd A.row j (A.row j).dropLast j))
      rw [upd_same, upd_same, hl]
      refine row_same hrt fun k hk => ?_
      obtain ⟨cur, hc⟩ := row_block hrt k hk
      exact set_keep hkb hc (by decide)
    · show World.ownsRow _ 0 205 1 (upd B.rv i V j) (upd A.row i (A.row i).dropLast j).length (u32s (upd A.row i (A.row i).dropLast j))
      rw [upd_other _ _ e, upd_other _ _ e]
      refine row_same (h.rows j hj) fun k hk => ?_
      obtain ⟨cur, hc⟩ := row_block (h.rows j hj) k hk
      exact set_keep hkb hc (by decide)
  · exact h.ar.same (keep h.ar.hb (by decide)) (keep h.ar.hg (by decide))

/-- How many of a class are taken. -/
theorem IsS.stk (h : IsS w sb F B b c d e f g A zs) {i : Nat} (hi : i < A.n) (n : Nat) :
    IsS (w.setCell ⟨B.kb, i * 4 + 3, none⟩ (.int .i64 (n : Int))) sb F B b c d e f g (A.stk i n) zs := by
  obtain ⟨kcur, hkb⟩ := h.kbl
  generalize hV : (Value.int .i64 (n : Int)) = V
  have keep : ∀ {k : Nat} {cur : Array Value} {t : TypeId} {z : Nat × Nat}, w.heap[k]? = some (.cells cur t z) → t ≠ 190 → (w.setCell ⟨B.kb, i * 4 + 3, none⟩ V).heap[k]? = w.heap[k]? := fun hk h2 => set_keep hkb hk h2
  refine ⟨?_, ?_, ?_, fun p hp => ?_, fun j hj => ?_, ?_, h.fs, h.fk, h.fp, h.fc, h.fr, h.fa, fun k hk => by simpa using h.lt k hk, h.cinj, h.rinj, h.bm⟩
  · unfold Box
    rw [keep h.box (by decide)]
    exact h.box
  · have h1 := row_set h.kinds (i * 4 + 3) V
    have e := rng_set (kindC_len A B.rv) (i := i) (j := 3) (by omega) V (g := kindC (A.stk i n) B.rv) (fun k hk => by
      simp only [kindC, Ab.stk, Ab.each]; rw [upd_other _ _ hk]) (by
      simp only [kindC, Ab.stk, Ab.each]; rw [upd_same, ← hV]; rfl) hi
    rw [e] at h1
    exact h1
  · refine row_same h.pages fun k hk => ?_
    obtain ⟨cur, hc⟩ := row_block h.pages k hk
    exact keep hc (by decide)
  · rw [keep (h.chunks p hp) (by decide)]
    exact h.chunks p hp
  · refine row_same (h.rows j hj) fun k hk => ?_
    obtain ⟨cur, hc⟩ := row_block (h.rows j hj) k hk
    exact keep hc (by decide)
  · exact h.ar.same (keep h.ar.hb (by decide)) (keep h.ar.hg (by decide))

theorem IsS.cset (h : IsS w sb F B b c d e f g A zs) {p k j : Nat} (hp : p < A.np) (hj : j < 2) (hk : k < A.each (A.own p)) (V : Value) (A' : Ab) (h1 : A' = { A with gen := A'.gen, tkn := A'.tkn })
    (h2 : chunkC A' p k = (chunkC A p k).set j V) (h3 : ∀ q l, (q = p → l ≠ k) → chunkC A' q l = chunkC A q l) :
    IsS (w.setCell ⟨B.cb p, k * 2 + j, none⟩ V) sb F B b c d e f g A' zs := by
  have hcb := h.chunks p hp
  have keep : ∀ {k' : Nat} {cur : Array Value} {t : TypeId} {z : Nat × Nat}, w.heap[k']? = some (.cells cur t z) → t ≠ 210 → (w.setCell ⟨B.cb p, k * 2 + j, none⟩ V).heap[k']? = w.heap[k']? := fun hk h2 => set_keep hcb hk h2
  rw [h1]
  have e1 : A'.each = A.each := by rw [h1]; rfl
  refine ⟨?_, ?_, ?_, fun q hq => ?_, fun i hi => ?_, ?_, h.fs, h.fk, h.fp, h.fc, h.fr, h.fa, fun k hk => by simpa using h.lt k hk, h.cinj, h.rinj, h.bm⟩
  · unfold Box
    rw [keep h.box (by decide)]
    exact h.box
  · refine row_same h.kinds fun k hk => ?_
    obtain ⟨cur, hc⟩ := row_block h.kinds k hk
    exact keep hc (by decide)
  · refine row_same h.pages fun k hk => ?_
    obtain ⟨cur, hc⟩ := row_block h.pages k hk
    exact keep hc (by decide)
  · show (w.setCell ⟨B.cb p, k * 2 + j, none⟩ V).heap[B.cb q]? = some (.cells (rng (A.each (A.own q)) (chunkC A' q)).toArray 210 (0, 0))
    by_cases e : q = p
    · subst e
      rw [heap_setCell_same _ _ _ _ _ _ hcb]
      have e2 := rng_set (chunkC_len A q) (i := k) (j := j) hj V (g := chunkC A' q) (fun l hl => h3 q l (fun _ => hl)) h2 hk
      rw [← e2]
      simp
    · rw [heap_setCell_other _ _ _ _ (fun e2 => e (h.cinj q p hq hp e2)), h.chunks q hq]
      rw [rng_congr (g := chunkC A' q) (fun l _ => (h3 q l (fun e2 => absurd e2 e)).symm)]
  · refine row_same (h.rows i hi) fun k hk => ?_
    obtain ⟨cur, hc⟩ := row_block (h.rows i hi) k hk
    exact keep hc (by decide)
  · exact h.ar.same (keep h.ar.hb (by decide)) (keep h.ar.hg (by decide))

theorem IsS.sgen (h : IsS w sb F B b c d e f g A zs) {p k : Nat} (hp : p < A.np) (hk : k < A.each (A.own p)) (v : Nat) :
    IsS (w.setCell ⟨B.cb p, k * 2, none⟩ (.int .u32 (v : Int))) sb F B b c d e f g (A.sgen p k v) zs := by
  refine h.cset hp (j := 0) (by omega) hk _ _ rfl ?_ ?_
  · simp [chunkC, Ab.sgen, upd2]
  · intro q l hql
    have : ¬ (q = p ∧ l = k) := fun ⟨a, b⟩ => hql a b
    simp [chunkC, Ab.sgen, upd2, this]
theorem IsS.stkn (h : IsS w sb F B b c d e f g A zs) {p k : Nat} (hp : p < A.np) (hk : k < A.each (A.own p)) (v : Bool) :
    IsS (w.setCell ⟨B.cb p, k * 2 + 1, none⟩ (.bool v)) sb F B b c d e f g (A.stkn p k v) zs := by
  refine h.cset hp (j := 1) (by omega) hk _ _ rfl ?_ ?_
  · simp [chunkC, Ab.stkn, upd2]
  · intro q l hql
    have : ¬ (q = p ∧ l = k) := fun ⟨a, b⟩ => hql a b
    simp [chunkC, Ab.stkn, upd2, this]

/-- The arena's bytes alone have turned. -/
theorem IsS.bytes (h : IsS w sb F B b c d e f g A zs) {w' : World} {zs' : List Int} (hg : w.grownBy w' (some B.ag)) (hA : IsA w' B.ab B.ag A.ps A.m zs') :
    IsS w' sb F B b c d e f g A zs' ∧ Kp F w w' := by
  have hT : ∀ k, some B.ag = some k → ∃ cur z, w.heap[k]? = some (.cells cur 5 z) := fun k hk => by cases hk; exact ⟨_, _, h.ar.hg⟩
  have keep : ∀ {k' : Nat} {cur : Array Value} {t : TypeId} {z : Nat × Nat}, w.heap[k']? = some (.cells cur t z) → t ≠ 5 → w'.heap[k']? = w.heap[k']? := fun hk h2 => type_keep hg hT hk h2
  refine ⟨⟨?_, ?_, ?_, fun q hq => ?_, fun i hi => ?_, hA, h.fs, h.fk, h.fp, h.fc, h.fr, h.fa, fun k hk => Nat.lt_of_lt_of_le (h.lt k hk) hg.size, h.cinj, h.rinj, h.bm⟩, (Kp.refl F w).step hg (fun i hi => .inl (by cases hi; exact h.fa.2))⟩
  · unfold Box
    rw [keep h.box (by decide)]
    exact h.box
  · refine row_same h.kinds fun k hk => ?_
    obtain ⟨cur, hc⟩ := row_block h.kinds k hk
    exact keep hc (by decide)
  · refine row_same h.pages fun k hk => ?_
    obtain ⟨cur, hc⟩ := row_block h.pages k hk
    exact keep hc (by decide)
  · rw [keep (h.chunks q hq) (by decide)]
    exact h.chunks q hq
  · refine row_same (h.rows i hi) fun k hk => ?_
    obtain ⟨cur, hc⟩ := row_block (h.rows i hi) k hk
    exact keep hc (by decide)

/-- A page is a class's. -/
theorem IsS.page (h : IsS w sb F B b c d e f g A zs) {i : Nat} {w2 : World} {cb g2 cap2 : Nat} (hcb0 : w.heap.size ≤ cb) (hcb : w2.heap[cb]? = some (.cells (rng (A.each i) (fun _ => [.int .u32 0, .bool false])).toArray 210 (0, 0)))
    (hown : w2.ownsRow 0 263 2 (.slice (some ⟨g2, 0, none⟩) (A.np + 1) cap2) (A.np + 1) (rng A.np (pageC A B.cb) ++ [.int .i64 (i : Int), .slice (some ⟨cb, 0, none⟩) (A.each i) (A.each i)]))
    (hg : w.grownBy w2 B.pv.ownBlock) (hat : B.pv.ownBlock = some g2 ∨ w.heap.size ≤ g2) :
    IsS (w2.setCell ⟨sb, 9, none⟩ (.slice (some ⟨g2, 0, none⟩) (A.np + 1) cap2)) sb (fun k => F k ∨ k = g2 ∨ k = cb) { B with pv := .slice (some ⟨g2, 0, none⟩) (A.np + 1) cap2, cb := upd B.cb A.np cb } b c d e f g (A.page i) zs ∧
    Kp F w (w2.setCell ⟨sb, 9, none⟩ (.slice (some ⟨g2, 0, none⟩) (A.np + 1) cap2)) := by
  have hT : ∀ k, B.pv.ownBlock = some k → ∃ cur z, w.heap[k]? = some (.cells cur 263 z) := fun k hk => by
    obtain ⟨cur, hc⟩ := row_block h.pages k hk
    exact ⟨cur, _, hc⟩
  have hbx2 : Box w2 187 sb (setC A.ps b c d e f g B A.n) := by
    unfold Box; rw [type_keep hg hT h.box (by decide)]; exact h.box
  generalize hV : (Value.slice (some ⟨g2, 0, none⟩) (A.np + 1) cap2) = V at *
  have keep : ∀ {k : Nat} {cur : Array Value} {t : TypeId} {z : Nat × Nat}, w.heap[k]? = some (.cells cur t z) → t ≠ 263 → t ≠ 187 → (w2.setCell ⟨sb, 9, none⟩ V).heap[k]? = w.heap[k]? := by
    intro k cur t z hk h1 h2
    have e := type_keep hg hT hk h1
    rw [set_keep hbx2 (by rw [e]; exact hk) h2, e]
  have hcbl := lt_of_block hcb
  have hownV : V.ownBlock = some g2 := by rw [← hV]; rfl
  obtain ⟨gcur, hg2b⟩ := row_block hown g2 hownV
  have hg2l := lt_of_block hg2b
  have hcp : ∀ q, q < A.np → upd B.cb A.np cb q = B.cb q := fun q hq => upd_other _ _ (by omega)
  have hop : ∀ q, q < A.np → upd A.own A.np i q = A.own q := fun q hq => upd_other _ _ (by omega)
  refine ⟨⟨hbx2.set 9 V, ?_, ?_, fun q hq => ?_, fun j hj => ?_, ?_, .inl h.fs, .inl h.fk, fun k hk => ?_, fun q hq => ?_, fun j k hj hk => .inl (h.fr j k hj hk), ⟨.inl h.fa.1, .inl h.fa.2⟩, ?_, ?_, h.rinj, h.bm⟩, ?_⟩
  · refine row_same h.kinds fun k hk => ?_
    obtain ⟨cur, hc⟩ := row_block h.kinds k hk
    exact keep hc (by decide) (by decide)
  · show World.ownsRow _ 0 263 2 V (A.np + 1) (rng (A.np + 1) (pageC (A.page i) (upd B.cb A.np cb)))
    rw [rng_succ, rng_congr (g := pageC A B.cb) (fun q hq => by
      simp only [pageC, Ab.page, Ab.each]; rw [hcp q hq, hop q hq])]
    have e : pageC (A.page i) (upd B.cb A.np cb) A.np = [.int .i64 (i : Int), .slice (some ⟨cb, 0, none⟩) (A.each i) (A.each i)] := by
      simp only [pageC, Ab.page, Ab.each]; rw [upd_same, upd_same]
    rw [e]
    refine row_same hown fun k hk => ?_
    obtain ⟨cur, hc⟩ := row_block hown k hk
    exact set_keep hbx2 hc (by decide)
  · change q < A.np + 1 at hq
    show (w2.setCell ⟨sb, 9, none⟩ V).heap[upd B.cb A.np cb q]? = some (.cells (rng ((A.page i).each (upd A.own A.np i q)) (chunkC (A.page i) q)).toArray 210 (0, 0))
    by_cases e : q = A.np
    · subst e
      rw [upd_same, upd_same, set_keep hbx2 hcb (by decide), hcb]
      congr 3
      first | exact rng_congr (fun l _ => by simp [chunkC, Ab.page]) | (funext l; simp [chunkC, Ab.page]) | exact congrArg _ (by funext l; simp [chunkC, Ab.page])
    · have hq' : q < A.np := by omega
      rw [hcp q hq', hop q hq', keep (h.chunks q hq') (by decide) (by decide), h.chunks q hq']
      congr 3
      first | exact rng_congr (fun l _ => by simp [chunkC, Ab.page, e]) | (funext l; simp [chunkC, Ab.page, e]) | exact congrArg _ (by funext l; simp [chunkC, Ab.page, e])
  · refine row_same (h.rows j hj) fun k hk => ?_
    obtain ⟨cur, hc⟩ := row_block (h.rows j hj) k hk
    exact keep hc (by decide) (by decide)
  · exact h.ar.same (keep h.ar.hb (by decide) (by decide)) (keep h.ar.hg (by decide) (by decide))
  · change V.ownBlock = some k at hk
    rw [hownV] at hk
    exact .inr (.inl (by simpa using hk.symm))
  · change q < A.np + 1 at hq
    show F (upd B.cb A.np cb q) ∨ upd B.cb A.np cb q = g2 ∨ upd B.cb A.np cb q = cb
    by_cases e : q = A.np
    · subst e; rw [upd_same]; exact .inr (.inr rfl)
    · have hq' : q < A.np := by omega
      rw [hcp q hq']; exact .inl (h.fc q hq')
  · rintro k (hk | hk | hk)
    · have := h.lt k hk; have := hg.size; simp; omega
    · simp; omega
    · simp; omega
  · intro p q hp hq hpq
    change p < A.np + 1 at hp
    change q < A.np + 1 at hq
    change upd B.cb A.np cb p = upd B.cb A.np cb q at hpq
    by_cases e1 : p = A.np <;> by_cases e2 : q = A.np
    · omega
    · rw [e1, upd_same, hcp q (by omega)] at hpq
      have := h.lt _ (h.fc q (by omega)); omega
    · rw [e2, upd_same, hcp p (by omega)] at hpq
      have := h.lt _ (h.fc p (by omega)); omega
    · rw [hcp p (by omega), hcp q (by omega)] at hpq
      exact h.cinj p q (by omega) (by omega) hpq
  · refine ((Kp.refl F w).step hg (fun k hk => .inl (h.fp k hk))).step (gb_setCell (gb_refl _ _) _) (fun k hk => .inl ?_)
    simp at hk; subst hk; exact h.fs
end

end Go.Proofs.YtjkdflnnpdionaaGreat
/-
  layHead, own.
-/
namespace Go.Proofs.YtjkdflnnpdionaaGreat
open Go.RowKit
set_option linter.unusedVariables false

/-- The first bytes of a chunk that is taken. -/
def headZ (zs : List Int) (x g : Nat) : List Int := putL (lay zs x (List.replicate 56 0)) (x + 12) 4 g

section
variable {w : World} {sb : Nat} {F : Nat → Prop} {B : Bl} {b c d e f g : Int} {A : Ab} {zs : List Int}

theorem there_of (h : IsS w sb F B b c d e f g A zs) (hA : Fit1 A) {p k : Nat} (hp : p < A.np) (hk : k < A.each (A.own p)) {o n : Nat} (hon : o + n ≤ A.sz (A.own p)) : There A.ps zs.length ((A.place p k + o : Nat) : Int) n := by
  obtain ⟨h1, h2, h3⟩ := place_div hA hp hk
  have h4 := h.ar.hN
  have h5 := hA.nm
  have h6 := hA.ps0
  have h7 : (p + 1) * A.ps ≤ A.m * A.ps := Nat.mul_le_mul_right _ (by omega)
  rw [Nat.mul_comm A.m] at h7
  have hea := (hA.toSzs.each (hA.on p hp)).2.2
  have h8 : (k + 1) * A.sz (A.own p) ≤ A.each (A.own p) * A.sz (A.own p) := Nat.mul_le_mul_right _ hk
  rw [Nat.add_mul, Nat.one_mul] at h8
  have h9 : p * A.ps + (k * A.sz (A.own p)) = A.place p k := rfl
  rcases Nat.eq_zero_or_pos n with hn | hn
  · subst hn
    refine ⟨by omega, by omega, by omega, ?_⟩
    have : ((A.place p k + o : Nat) : Int) % A.ps < A.ps := Int.emod_lt_of_pos _ (by omega)
    omega
  · have e : (A.place p k + o) % A.ps = k * A.sz (A.own p) + o := by
      rw [← h9, Nat.add_assoc, Nat.mul_comm p, Nat.mul_add_mod, Nat.mod_eq_of_lt (by omega)]
    have e2 : ((A.place p k + o : Nat) : Int) % A.ps = ((k * A.sz (A.own p) + o : Nat) : Int) := by rw [← e]; exact (Int.natCast_emod _ _).symm
    refine ⟨by omega, by omega, by omega, ?_⟩
    rw [e2]; omega

theorem lay_54 (h : IsS w sb F B b c d e f g A zs) (hA : Fit1 A) {p k : Nat} (hp : p < A.np) (hk : k < A.each (A.own p)) (gn : Nat) (hgn : gn < 4294967296) :
    Calls Tryz.prog 136 #[.pointer (some ⟨sb, 0, none⟩), .int .i64 (A.place p k), .int .u32 gn] w fun y w' => y = .returned (.tuple #[]) ∧ IsS w' sb F B b c d e f g A (headZ zs (A.place p k) gn) ∧ Kp F w w' := by
  have hlo := hA.lo _ (hA.on p hp)
  have t1 := there_of h hA hp hk (o := 0) (n := 56) (by omega)
  rw [Nat.add_zero] at t1
  have hl := (place_le hA hp hk).1
  have hfl := (fill_yes h.ar (A.place p k) 56 0 (by omega) t1).mono (R' := fun y w' => y = .returned (.int .i64 0) ∧ IsS w' sb F B b c d e f g A (lay zs (A.place p k) (List.replicate 56 0)) ∧ Kp F w w') (by
    rintro y w' ⟨rfl, hf, hA'⟩
    obtain ⟨i1, i2⟩ := h.bytes hf hA'
    exact ⟨rfl, i1, i2⟩)
  have c7 := h.sc 7
  simp [setC] at c7
  have hpt := fun (w1 : World) (h1 : IsS w1 sb F B b c d e f g A (lay zs (A.place p k) (List.replicate 56 0))) => (put_84 h1.ar ((A.place p k + 12 : Nat) : Int) gn (by omega) (there_of h1 hA hp hk (o := 12) (n := 4) (by omega))).mono (R' := fun y w' => y = .returned (.int .i64 0) ∧ IsS w' sb F B b c d e f g A (headZ zs (A.place p k) gn) ∧ Kp F w1 w') (by
    rintro y w' ⟨rfl, hf, hg⟩
    have hA' := h1.ar.turned hf hg (length_putL _ _ _ _) (putL_mem _ _ _ _ h1.ar.hz)
    obtain ⟨i1, i2⟩ := h1.bytes hf hA'
    exact ⟨rfl, i1, i2⟩)
  have e12 : ((A.place p k + 12 : Nat) : Int) = (A.place p k : Int) + 12 := by omega
  rw [e12] at hpt
  clear t1 h
  generalize A.place p k = pl at *
  go_enter Tryz.func136, Tryz.ntmps136
  go_wp2_with (first | (go_at_call 145; go_must (refine hfl.mono ?_); rintro y w1 ⟨rfl, hS1, hK1⟩; have d7 := hS1.sc 7; simp [setC] at d7) | (go_at_call 184; go_must (refine (hpt _ hS1).mono ?_); rintro y w2 ⟨rfl, hS2, hK2⟩) | fail)
  go_end0
  exact ⟨rfl, hS2, hK1.trans hK2 (fun _ h => h) (fun _ h => .inl h)⟩
end

def Ab.pushes (A : Ab) (i : Nat) (xs : List Nat) : Ab := { A with row := upd A.row i (A.row i ++ xs) }
theorem pushes_nil (A : Ab) (i : Nat) : A.pushes i [] = A := by
  have : upd A.row i (A.row i ++ []) = A.row := by
    funext j
    by_cases e : j = i
    · subst e; simp [upd]
    · simp [upd, e]
  unfold Ab.pushes
  rw [this]
theorem pushes_push (A : Ab) (i x : Nat) (xs : List Nat) : (A.pushes i xs).push i x = A.pushes i (xs ++ [x]) := by
  have : upd (upd A.row i (A.row i ++ xs)) i (upd A.row i (A.row i ++ xs) i ++ [x]) = upd A.row i (A.row i ++ (xs ++ [x])) := by
    funext j
    by_cases e : j = i
    · subst e; simp [upd]
    · simp [upd, e]
  unfold Ab.push Ab.pushes
  simp only
  rw [this]
/-- The numbers of a page's chunks, from the highest on. -/
def Ab.nums (A : Ab) (i j : Nat) : List Nat := ((List.range (A.each i)).drop j).reverse.map fun k => (A.np * A.ps + k * A.sz i) / 8 + 1
theorem nums_step (A : Ab) (i j : Nat) (h : j < A.each i) : A.nums i (j + 1) ++ [(A.np * A.ps + j * A.sz i) / 8 + 1] = A.nums i j := by
  unfold Ab.nums
  rw [List.drop_eq_getElem_cons (i := j) (by simpa using h)]
  simp
theorem nums_end (A : Ab) (i : Nat) : A.nums i (A.each i) = [] := by simp [Ab.nums]
/-- A page more. -/
def Ab.owned (A : Ab) (i : Nat) : Ab := (A.page i).pushes i (A.nums i 0)

theorem Tryz.info210 : (Tryz.prog.info? 210).map (fun i => (i.zero, i.size, i.bytes)) = some (some (.agg #[.int .u32 0, .bool false]), 2, 8) := by kernel_rfl
theorem Tryz.info205 : (Tryz.prog.info? 205).map (fun i => (i.zero, i.size, i.bytes)) = some (some (.int .u32 0), 1, 4) := by kernel_rfl
theorem Tryz.info263 : (Tryz.prog.info? 263).map (fun i => (i.zero, i.size, i.bytes)) = some (some (.agg #[.int .i64 0, .slice none 0 0]), 2, 32) := by kernel_rfl

theorem made_chunks (N : Nat) : madeCells (Value.agg #[.int .u32 0, .bool false]).cells (N * 2) = (rng N (fun _ => [.int .u32 0, .bool false])).toArray := by
  apply Array.ext'
  apply List.ext_getElem?
  intro i
  have hl := rng_len (f := fun _ => [.int .u32 0, .bool false]) (s := 2) (fun _ => rfl) N
  by_cases h : i < N * 2
  · have e := rng_get (f := fun _ => [.int .u32 0, .bool false]) (s := 2) (fun _ => rfl) (n := N) (i := i / 2) (j := i % 2) (by omega) (by omega)
    rw [show i / 2 * 2 + i % 2 = i by omega] at e
    simp only at e ⊢
    rw [e]
    simp only [madeCells, Value.cells, Array.toList_map, List.getElem?_map, Array.toList_range, List.getElem?_range h, Option.map_some]
    rcases Nat.mod_two_eq_zero_or_one i with h2 | h2 <;> simp [h2]
  · rw [List.getElem?_eq_none (by simp [madeCells, Value.cells]; omega), List.getElem?_eq_none (by simp; omega)]

theorem run_make_chunks (N : Nat) (h : N ≤ 1000000) (w : World) : (Instr.makeSlice 261 (.int .i64 N) (.int .i64 N)).run Tryz.prog w = .ok (.slice (some ⟨w.heap.size, 0, none⟩) N N) (w.alloc (.cells (rng N (fun _ => [.int .u32 0, .bool false])).toArray 210)) := by
  obtain ⟨i0, hi, hz0, hz1, hz2⟩ := info_parts Tryz.info210
  have := run_make (P := Tryz.prog) w 261 210 i0 (.agg #[.int .u32 0, .bool false]) Tryz.underlying261 hi hz0 .i64 .i64 N N (by omega) (by omega) (by rw [hz2]; omega) (by omega)
  rw [this, hz1]
  simp only [Int.toNat_natCast]
  rw [made_chunks]


end Go.Proofs.YtjkdflnnpdionaaGreat
