import Derived.Test.YtoaaaeefcipdcaaSm
/-
  A Set that is changed: pop, counts, chunks, pages, bytes.
-/
namespace Go.Proofs.Ytoaaaeefcipdcaa
open Go.RowKit
set_option linter.unusedVariables false

section
variable {w : World} {sb : Nat} {F : Nat → Prop} {B : Bl} {b c d e f g : Int} {A : Ab} {zs : List Int}

theorem IsS.kp_set (h : IsS w sb F B b c d e f g A zs) {k j : Nat} (hk : F k) (v : Value) : Kp F w (w.setCell ⟨k, j, none⟩ v) :=
  (Kp.refl F w).step (gb_setCell (gb_refl _ _) _) (fun i hi => .inl (by simp at hi; subst hi; exact hk))

/-- The last number of a class's row is cut off. -/
theorem IsS.pop (h : IsS w sb F B b c d e f g A zs) {i gg cap n : Nat} (hi : i < A.n) (hrv : B.rv i = .slice (some ⟨gg, 0, none⟩) (A.row i).length cap) (hn : (A.row i).length = n + 1) :
    IsS (w.setCell ⟨B.kb, i * 4 + 2, none⟩ (.slice (some ⟨gg, 0, none⟩) n cap)) sb F { B with rv := upd B.rv i (.slice (some ⟨gg, 0, none⟩) n cap) } b c d e f g (A.pop i) zs := by
  obtain ⟨kcur, hkb⟩ := h.kbl
  have hri := h.rows i hi
  rw [hrv] at hri
  have hl : (A.row i).dropLast.length = n := by simp [hn]
  have hrt := row_take hri (m := n) (by omega)
  have hrtx : (u32s (A.row i)).take (n * 1) = u32s (A.row i).dropLast := by
    unfold u32s
    rw [← List.map_take, List.dropLast_eq_take, hn]; simp
  rw [hrtx] at hrt
  have hob : ∀ j k, (upd B.rv i (.slice (some ⟨gg, 0, none⟩) n cap) j).ownBlock = some k → (B.rv j).ownBlock = some k := by
    intro j k hk
    by_cases e : j = i
    · rw [e, upd_same] at hk
      rw [e, hrv]; exact hk
    · rwa [upd_other _ _ e] at hk
  generalize hV : (Value.slice (some ⟨gg, 0, none⟩) n cap) = V at *
  have keep : ∀ {k : Nat} {cur : Array Value} {t : TypeId} {z : Nat × Nat}, w.heap[k]? = some (.cells cur t z) → t ≠ 112 → (w.setCell ⟨B.kb, i * 4 + 2, none⟩ V).heap[k]? = w.heap[k]? := fun hk h2 => set_keep hkb hk h2
  refine ⟨?_, ?_, ?_, fun p hp => ?_, fun j hj => ?_, ?_, h.fs, h.fk, h.fp, h.fc, fun j k hj hk => h.fr j k hj (hob j k hk), h.fa, fun k hk => by simpa using h.lt k hk, h.cinj, fun j l k hj hl hjk hlk => h.rinj j l k hj hl (hob j k hjk) (hob l k hlk), h.bm⟩
  · unfold Box
    rw [keep h.box (by decide)]
    exact h.box
  · have h1 := row_set h.kinds (i * 4 + 2) V
    have e := rng_set (kindC_len A B.rv) (i := i) (j := 2) (by omega) V (g := kindC (A.pop i) (upd B.rv i V)) (fun k hk => by
      simp only [kindC, Ab.pop, Ab.each]; rw [upd_other _ _ hk]) (by
      simp only [kindC, Ab.pop, Ab.each]; rw [upd_same]; rfl) hi
    rw [e] at h1
    exact h1
  · refine row_same h.pages fun k hk => ?_
    obtain ⟨cur, hc⟩ := row_block h.pages k hk
    exact keep hc (by decide)
  · rw [keep (h.chunks p hp) (by decide)]
    exact h.chunks p hp
  · by_cases e : j = i
    · subst e
      show World.ownsRow _ 0 126 1 (upd B.rv j V j) (upd A.row j (A.row j).dropLast j).length (u32s (upd A.row j (A.row j).dropLast j))
      rw [upd_same, upd_same, hl]
      refine row_same hrt fun k hk => ?_
      obtain ⟨cur, hc⟩ := row_block hrt k hk
      exact set_keep hkb hc (by decide)
    · show World.ownsRow _ 0 126 1 (upd B.rv i V j) (upd A.row i (A.row i).dropLast j).length (u32s (upd A.row i (A.row i).dropLast j))
      rw [upd_other _ _ e, upd_other _ _ e]
      refine row_same (h.rows j hj) fun k hk => ?_
      obtain ⟨cur, hc⟩ := row_block (h.rows j hj) k hk
      exact set_keep hkb hc (by decide)
  · exact h.ar.same (keep h.ar.hb (by decide)) (keep h.ar.hg (by decide))

/-- How many of a class are taken. -/
theorem IsS.stk (h : IsS w sb F B b c d e f g A zs) {i : Nat} (hi : i < A.n) (n : Nat) :
    IsS (w.setCell ⟨B.kb, i * 4 + 3, none⟩ (.int .i64 (n : Int))) sb F B b c d e f g (A.stk i n) zs := by
  obtain ⟨kcur, hkb⟩ := h.kbl
  generalize hV : (Value.int .i64 (n : Int)) = V
  have keep : ∀ {k : Nat} {cur : Array Value} {t : TypeId} {z : Nat × Nat}, w.heap[k]? = some (.cells cur t z) → t ≠ 112 → (w.setCell ⟨B.kb, i * 4 + 3, none⟩ V).heap[k]? = w.heap[k]? := fun hk h2 => set_keep hkb hk h2
  refine ⟨?_, ?_, ?_, fun p hp => ?_, fun j hj => ?_, ?_, h.fs, h.fk, h.fp, h.fc, h.fr, h.fa, fun k hk => by simpa using h.lt k hk, h.cinj, h.rinj, h.bm⟩
  · unfold Box
    rw [keep h.box (by decide)]
    exact h.box
  · have h1 := row_set h.kinds (i * 4 + 3) V
    have e := rng_set (kindC_len A B.rv) (i := i) (j := 3) (by omega) V (g := kindC (A.stk i n) B.rv) (fun k hk => by
      simp only [kindC, Ab.stk, Ab.each]; rw [upd_other _ _ hk]) (by
      simp only [kindC, Ab.stk, Ab.each]; rw [upd_same, ← hV]; rfl) hi
    rw [e] at h1
    exact h1
  · refine row_same h.pages fun k hk => ?_
    obtain ⟨cur, hc⟩ := row_block h.pages k hk
    exact keep hc (by decide)
  · rw [keep (h.chunks p hp) (by decide)]
    exact h.chunks p hp
  · refine row_same (h.rows j hj) fun k hk => ?_
    obtain ⟨cur, hc⟩ := row_block (h.rows j hj) k hk
    exact keep hc (by decide)
  · exact h.ar.same (keep h.ar.hb (by decide)) (keep h.ar.hg (by decide))

theorem IsS.cset (h : IsS w sb F B b c d e f g A zs) {p k j : Nat} (hp : p < A.np) (hj : j < 2) (hk : k < A.each (A.own p)) (V : Value) (A' : Ab) (h1 : A' = { A with gen := A'.gen, tkn := A'.tkn })
    (h2 : chunkC A' p k = (chunkC A p k).set j V) (h3 : ∀ q l, (q = p → l ≠ k) → chunkC A' q l = chunkC A q l) :
    IsS (w.setCell ⟨B.cb p, k * 2 + j, none⟩ V) sb F B b c d e f g A' zs := by
  have hcb := h.chunks p hp
  have keep : ∀ {k' : Nat} {cur : Array Value} {t : TypeId} {z : Nat × Nat}, w.heap[k']? = some (.cells cur t z) → t ≠ 131 → (w.setCell ⟨B.cb p, k * 2 + j, none⟩ V).heap[k']? = w.heap[k']? := fun hk h2 => set_keep hcb hk h2
  rw [h1]
  have e1 : A'.each = A.each := by rw [h1]; rfl
  refine ⟨?_, ?_, ?_, fun q hq => ?_, fun i hi => ?_, ?_, h.fs, h.fk, h.fp, h.fc, h.fr, h.fa, fun k hk => by simpa using h.lt k hk, h.cinj, h.rinj, h.bm⟩
  · unfold Box
    rw [keep h.box (by decide)]
    exact h.box
  · refine row_same h.kinds fun k hk => ?_
    obtain ⟨cur, hc⟩ := row_block h.kinds k hk
    exact keep hc (by decide)
  · refine row_same h.pages fun k hk => ?_
    obtain ⟨cur, hc⟩ := row_block h.pages k hk
    exact keep hc (by decide)
  · show (w.setCell ⟨B.cb p, k * 2 + j, none⟩ V).heap[B.cb q]? = some (.cells (rng (A.each (A.own q)) (chunkC A' q)).toArray 131 (0, 0))
    by_cases e : q = p
    · subst e
      rw [heap_setCell_same _ _ _ _ _ _ hcb]
      have e2 := rng_set (chunkC_len A q) (i := k) (j := j) hj V (g := chunkC A' q) (fun l hl => h3 q l (fun _ => hl)) h2 hk
      rw [← e2]
      simp
    · rw [heap_setCell_other _ _ _ _ (fun e2 => e (h.cinj q p hq hp e2)), h.chunks q hq]
      rw [rng_congr (g := chunkC A' q) (fun l _ => (h3 q l (fun e2 => absurd e2 e)).symm)]
  · refine row_same (h.rows i hi) fun k hk => ?_
    obtain ⟨cur, hc⟩ := row_block (h.rows i hi) k hk
    exact keep hc (by decide)
  · exact h.ar.same (keep h.ar.hb (by decide)) (keep h.ar.hg (by decide))

theorem IsS.sgen (h : IsS w sb F B b c d e f g A zs) {p k : Nat} (hp : p < A.np) (hk : k < A.each (A.own p)) (v : Nat) :
    IsS (w.setCell ⟨B.cb p, k * 2, none⟩ (.int .u32 (v : Int))) sb F B b c d e f g (A.sgen p k v) zs := by
  refine h.cset hp (j := 0) (by omega) hk _ _ rfl ?_ ?_
  · simp [chunkC, Ab.sgen, upd2]
  · intro q l hql
    have : ¬ (q = p ∧ l = k) := fun ⟨a, b⟩ => hql a b
    simp [chunkC, Ab.sgen, upd2, this]
theorem IsS.stkn (h : IsS w sb F B b c d e f g A zs) {p k : Nat} (hp : p < A.np) (hk : k < A.each (A.own p)) (v : Bool) :
    IsS (w.setCell ⟨B.cb p, k * 2 + 1, none⟩ (.bool v)) sb F B b c d e f g (A.stkn p k v) zs := by
  refine h.cset hp (j := 1) (by omega) hk _ _ rfl ?_ ?_
  · simp [chunkC, Ab.stkn, upd2]
  · intro q l hql
    have : ¬ (q = p ∧ l = k) := fun ⟨a, b⟩ => hql a b
    simp [chunkC, Ab.stkn, upd2, this]

/-- The arena's bytes alone have turned. -/
theorem IsS.bytes (h : IsS w sb F B b c d e f g A zs) {w' : World} {zs' : List Int} (hg : w.grownBy w' (some B.ag)) (hA : IsA w' B.ab B.ag A.ps A.m zs') :
    IsS w' sb F B b c d e f g A zs' ∧ Kp F w w' := by
  have hT : ∀ k, some B.ag = some k → ∃ cur z, w.heap[k]? = some (.cells cur 5 z) := fun k hk => by cases hk; exact ⟨_, _, h.ar.hg⟩
  have keep : ∀ {k' : Nat} {cur : Array Value} {t : TypeId} {z : Nat × Nat}, w.heap[k']? = some (.cells cur t z) → t ≠ 5 → w'.heap[k']? = w.heap[k']? := fun hk h2 => type_keep hg hT hk h2
  refine ⟨⟨?_, ?_, ?_, fun q hq => ?_, fun i hi => ?_, hA, h.fs, h.fk, h.fp, h.fc, h.fr, h.fa, fun k hk => Nat.lt_of_lt_of_le (h.lt k hk) hg.size, h.cinj, h.rinj, h.bm⟩, (Kp.refl F w).step hg (fun i hi => .inl (by cases hi; exact h.fa.2))⟩
  · unfold Box
    rw [keep h.box (by decide)]
    exact h.box
  · refine row_same h.kinds fun k hk => ?_
    obtain ⟨cur, hc⟩ := row_block h.kinds k hk
    exact keep hc (by decide)
  · refine row_same h.pages fun k hk => ?_
    obtain ⟨cur, hc⟩ := row_block h.pages k hk
    exact keep hc (by decide)
  · rw [keep (h.chunks q hq) (by decide)]
    exact h.chunks q hq
  · refine row_same (h.rows i hi) fun k hk => ?_
    obtain ⟨cur, hc⟩ := row_block (h.rows i hi) k hk
    exact keep hc (by decide)

/-- A page is a class's. -/
theorem IsS.page (h : IsS w sb F B b c d e f g A zs) {i : Nat} {w2 : World} {cb g2 cap2 : Nat} (hcb0 : w.heap.size ≤ cb) (hcb : w2.heap[cb]? = some (.cells (rng (A.each i) (fun _ => [.int .u32 0, .bool false])).toArray 131 (0, 0)))
    (hown : w2.ownsRow 0 188 2 (.slice (some ⟨g2, 0, none⟩) (A.np + 1) cap2) (A.np + 1) (rng A.np (pageC A B.cb) ++ [.int .i64 (i : Int), .slice (some ⟨cb, 0, none⟩) (A.each i) (A.each i)]))
    (hg : w.grownBy w2 B.pv.ownBlock) (hat : B.pv.ownBlock = some g2 ∨ w.heap.size ≤ g2) :
    IsS (w2.setCell ⟨sb, 9, none⟩ (.slice (some ⟨g2, 0, none⟩) (A.np + 1) cap2)) sb (fun k => F k ∨ k = g2 ∨ k = cb) { B with pv := .slice (some ⟨g2, 0, none⟩) (A.np + 1) cap2, cb := upd B.cb A.np cb } b c d e f g (A.page i) zs ∧
    Kp F w (w2.setCell ⟨sb, 9, none⟩ (.slice (some ⟨g2, 0, none⟩) (A.np + 1) cap2)) := by
  have hT : ∀ k, B.pv.ownBlock = some k → ∃ cur z, w.heap[k]? = some (.cells cur 188 z) := fun k hk => by
    obtain ⟨cur, hc⟩ := row_block h.pages k hk
    exact ⟨cur, _, hc⟩
  have hbx2 : Box w2 109 sb (setC A.ps b c d e f g B A.n) := by
    unfold Box; rw [type_keep hg hT h.box (by decide)]; exact h.box
  generalize hV : (Value.slice (some ⟨g2, 0, none⟩) (A.np + 1) cap2) = V at *
  have keep : ∀ {k : Nat} {cur : Array Value} {t : TypeId} {z : Nat × Nat}, w.heap[k]? = some (.cells cur t z) → t ≠ 188 → t ≠ 109 → (w2.setCell ⟨sb, 9, none⟩ V).heap[k]? = w.heap[k]? := by
    intro k cur t z hk h1 h2
    have e := type_keep hg hT hk h1
    rw [set_keep hbx2 (by rw [e]; exact hk) h2, e]
  have hcbl := lt_of_block hcb
  have hownV : V.ownBlock = some g2 := by rw [← hV]; rfl
  obtain ⟨gcur, hg2b⟩ := row_block hown g2 hownV
  have hg2l := lt_of_block hg2b
  have hcp : ∀ q, q < A.np → upd B.cb A.np cb q = B.cb q := fun q hq => upd_other _ _ (by omega)
  have hop : ∀ q, q < A.np → upd A.own A.np i q = A.own q := fun q hq => upd_other _ _ (by omega)
  refine ⟨⟨hbx2.set 9 V, ?_, ?_, fun q hq => ?_, fun j hj => ?_, ?_, .inl h.fs, .inl h.fk, fun k hk => ?_, fun q hq => ?_, fun j k hj hk => .inl (h.fr j k hj hk), ⟨.inl h.fa.1, .inl h.fa.2⟩, ?_, ?_, h.rinj, h.bm⟩, ?_⟩
  · refine row_same h.kinds fun k hk => ?_
    obtain ⟨cur, hc⟩ := row_block h.kinds k hk
    exact keep hc (by decide) (by decide)
  · show World.ownsRow _ 0 188 2 V (A.np + 1) (rng (A.np + 1) (pageC (A.page i) (upd B.cb A.np cb)))
    rw [rng_succ, rng_congr (g := pageC A B.cb) (fun q hq => by
      simp only [pageC, Ab.page, Ab.each]; rw [hcp q hq, hop q hq])]
    have e : pageC (A.page i) (upd B.cb A.np cb) A.np = [.int .i64 (i : Int), .slice (some ⟨cb, 0, none⟩) (A.each i) (A.each i)] := by
      simp only [pageC, Ab.page, Ab.each]; rw [upd_same, upd_same]
    rw [e]
    refine row_same hown fun k hk => ?_
    obtain ⟨cur, hc⟩ := row_block hown k hk
    exact set_keep hbx2 hc (by decide)
  · change q < A.np + 1 at hq
    show (w2.setCell ⟨sb, 9, none⟩ V).heap[upd B.cb A.np cb q]? = some (.cells (rng ((A.page i).each (upd A.own A.np i q)) (chunkC (A.page i) q)).toArray 131 (0, 0))
    by_cases e : q = A.np
    · subst e
      rw [upd_same, upd_same, set_keep hbx2 hcb (by decide), hcb]
      congr 3
      first | exact rng_congr (fun l _ => by simp [chunkC, Ab.page]) | (funext l; simp [chunkC, Ab.page]) | exact congrArg _ (by funext l; simp [chunkC, Ab.page])
    · have hq' : q < A.np := by omega
      rw [hcp q hq', hop q hq', keep (h.chunks q hq') (by decide) (by decide), h.chunks q hq']
      congr 3
      first | exact rng_congr (fun l _ => by simp [chunkC, Ab.page, e]) | (funext l; simp [chunkC, Ab.page, e]) | exact congrArg _ (by funext l; simp [chunkC, Ab.page, e])
  · refine row_same (h.rows j hj) fun k hk => ?_
    obtain ⟨cur, hc⟩ := row_block (h.rows j hj) k hk
    exact keep hc (by decide) (by decide)
  · exact h.ar.same (keep h.ar.hb (by decide) (by decide)) (keep h.ar.hg (by decide) (by decide))
  · change V.ownBlock = some k at hk
    rw [hownV] at hk
    exact .inr (.inl (by simpa using hk.symm))
  · change q < A.np + 1 at hq
    show F (upd B.cb A.np cb q) ∨ upd B.cb A.np cb q = g2 ∨ upd B.cb A.np cb q = cb
    by_cases e : q = A.np
    · subst e; rw [upd_same]; exact .inr (.inr rfl)
    · have hq' : q < A.np := by omega
      rw [hcp q hq']; exact .inl (h.fc q hq')
  · rintro k (hk | hk | hk)
    · have := h.lt k hk; have := hg.size; simp; omega
    · simp; omega
    · simp; omega
  · intro p q hp hq hpq
    change p < A.np + 1 at hp
    change q < A.np + 1 at hq
    change upd B.cb A.np cb p = upd B.cb A.np cb q at hpq
    by_cases e1 : p = A.np <;> by_cases e2 : q = A.np
    · omega
    · rw [e1, upd_same, hcp q (by omega)] at hpq
      have := h.lt _ (h.fc q (by omega)); omega
    · rw [e2, upd_same, hcp p (by omega)] at hpq
      have := h.lt _ (h.fc p (by omega)); omega
    · rw [hcp p (by omega), hcp q (by omega)] at hpq
      exact h.cinj p q (by omega) (by omega) hpq
  · refine ((Kp.refl F w).step hg (fun k hk => .inl (h.fp k hk))).step (gb_setCell (gb_refl _ _) _) (fun k hk => .inl ?_)
    simp at hk; subst hk; exact h.fs
end

end Go.Proofs.Ytoaaaeefcipdcaa
