/-
  What CompactFunc leaves.
-/
import Derived.Test.YtphhofbdekbggaaRr
import Derived.Laws.IdiomCopy
namespace Go.Proofs.Ytphhofbdekbggaa
open Go.RowKit Go.Sort
set_option linter.unusedVariables false
set_option linter.unusedSimpArgs false

theorem zero49 (w : World) : (zeroValue 49).run Try.prog w = .ok (.agg #[.int .u32 0, .int .i64 0, .int .i64 0]) w := by kernel_rfl
/-- clear(l), l a row of points. -/
theorem run_clear_pts (w : World) (ty : TypeId) (g o m c : Nat) (hm : 0 < m) (hc : ∀ j, j < m * 3 → (w.cell? ⟨g, o + j, none⟩).isSome = true) (hf : ∀ j, j < m * 3 → w.frozen? ⟨g, o + j, none⟩ = false) :
    ∃ vs : List Value, (Builtin.clear_ #[30] ty #[.slice (some ⟨g, o, none⟩) m c]).run Try.prog w = .ok (.tuple #[]) (w.setCells g o vs) ∧ vs.length = m * 3 := by
  obtain ⟨vs, hvs⟩ : ∃ vs, vs = (Builtin.zeroCells (Value.cells (.agg #[.int .u32 0, .int .i64 0, .int .i64 0])) m).toList := ⟨_, rfl⟩
  have hl : vs.length = m * 3 := by rw [hvs]; simp [Builtin.zeroCells, Value.cells]
  have h1 : ∀ v ∈ vs, v.oneCell' = true := by
    intro v hv
    rw [hvs] at hv
    simp only [Builtin.zeroCells, Array.toList_map, List.mem_map] at hv
    obtain ⟨i, _, hi⟩ := hv
    rw [← hi]
    have h3 : i % 3 = 0 ∨ i % 3 = 1 ∨ i % 3 = 2 := by omega
    simp only [Value.cells]
    rcases h3 with h3 | h3 | h3 <;> simp [h3, Value.oneCell']
  have hst := run_storeCells_cells (P := Try.prog) g o vs 0 w (by rw [hl]; simpa using hc) (by rw [hl]; simpa using hf) h1
  simp only [Nat.add_zero] at hst
  refine ⟨vs, ?_, hl⟩
  obtain ⟨n, rfl⟩ : ∃ n, m = n + 1 := ⟨m - 1, by omega⟩
  simp [Builtin.clear_, run_underlying Try.underlying30, zero49, ← hvs, hst]

/-- The cells of one point. -/
def At3 (w : World) (g i : Nat) (p : Pt) : Prop := w.cell? ⟨g, i * 3, none⟩ = some (.int .u32 p.1) ∧ w.cell? ⟨g, i * 3 + 1, none⟩ = some (.int .i64 p.2.1) ∧ w.cell? ⟨g, i * 3 + 2, none⟩ = some (.int .i64 p.2.2)
/-- A row of points while it is made shorter: what stays of the first j lies at its beginning. -/
structure Cp (w0 wr : World) (g n : Nat) (ps : List Pt) (j k : Nat) : Prop where
  len : (cpt ps j).length = k
  kj : k < j
  lo : PtAt wr g (cpt ps j)
  hi : ∀ i, j ≤ i + 1 → i < n → At3 wr g i (pat ps i)
  fz : ∀ i, i < n * 3 → wr.frozen? ⟨g, i, none⟩ = false
  th : ∀ i, i < n * 3 → (wr.cell? ⟨g, i, none⟩).isSome = true
  gr : w0.grownBy wr (some g)
  lt : g < wr.heap.size
theorem frozen_gb {w w' : World} {g i : Nat} (h : w.grownBy w' none) (hg : g < w.heap.size) : w'.frozen? ⟨g, i, none⟩ = w.frozen? ⟨g, i, none⟩ := by
  have := h.block g hg (by simp)
  simp only [World.frozen?, this]
theorem At3.grown {w w' : World} {g i : Nat} {p : Pt} (h : At3 w g i p) (hf : w.grownBy w' none) : At3 w' g i p := ⟨gb_cellN hf h.1, gb_cellN hf h.2.1, gb_cellN hf h.2.2⟩
theorem Cp.grown {w0 wr wr' : World} {g n : Nat} {ps : List Pt} {j k : Nat} (h : Cp w0 wr g n ps j k) (hf : wr.grownBy wr' none) : Cp w0 wr' g n ps j k :=
  ⟨h.len, h.kj, h.lo.grown hf, fun i a b => (h.hi i a b).grown hf, fun i hi => by rw [frozen_gb hf h.lt]; exact h.fz i hi, fun i hi => by
    obtain ⟨u, hu⟩ := Option.isSome_iff_exists.1 (h.th i hi)
    rw [gb_cellN hf hu]; rfl, gb_trans h.gr (gb_none _ hf), Nat.lt_of_lt_of_le h.lt hf.size⟩
theorem Cp.old {w0 wr : World} {g n : Nat} {ps : List Pt} {j k : Nat} (h : Cp w0 wr g n ps j k) (h0 : 0 < j) (e : (pat ps j).1 = (pat ps (j - 1)).1) : Cp w0 wr g n ps (j + 1) k := by
  have hc := cpt_old h0 e
  exact ⟨by rw [hc]; exact h.len, by have := h.kj; omega, by rw [hc]; exact h.lo, fun i a b => h.hi i (by omega) b, h.fz, h.th, h.gr, h.lt⟩
/-- Another point is laid. -/
def put3 (w : World) (g k : Nat) (p : Pt) : World := ((w.setCell ⟨g, k * 3, none⟩ (.int .u32 p.1)).setCell ⟨g, k * 3 + 1, none⟩ (.int .i64 p.2.1)).setCell ⟨g, k * 3 + 2, none⟩ (.int .i64 p.2.2)
theorem put3_other (w : World) (g k i : Nat) (p : Pt) (h : ¬ i = k * 3 ∧ ¬ i = k * 3 + 1 ∧ ¬ i = k * 3 + 2) : (put3 w g k p).cell? ⟨g, i, none⟩ = w.cell? ⟨g, i, none⟩ := by
  obtain ⟨h0, h1, h2⟩ := h
  have e : ∀ j : Nat, ¬ i = j → (⟨g, j, none⟩ : Addr) ≠ ⟨g, i, none⟩ := fun j hj q => hj (by simpa using (congrArg Addr.off q).symm)
  unfold put3
  rw [World.cell?_setCell_other _ _ _ _ (e _ h2), World.cell?_setCell_other _ _ _ _ (e _ h1), World.cell?_setCell_other _ _ _ _ (e _ h0)]
theorem At3.other {w : World} {g i : Nat} {q : Pt} (h : At3 w g i q) (k : Nat) (p : Pt) (hne : i ≠ k) : At3 (put3 w g k p) g i q := by
  unfold At3
  rw [put3_other _ _ _ _ _ (by omega), put3_other _ _ _ _ _ (by omega), put3_other _ _ _ _ _ (by omega)]
  exact h
theorem some_set {w : World} (a b : Addr) (v : Value) (h : (w.cell? b).isSome = true) : ((w.setCell a v).cell? b).isSome = true := by
  by_cases e : a = b
  · subst e
    rw [World.cell?_setCell_same' _ _ _ h]
    rfl
  · rw [World.cell?_setCell_other _ _ _ _ e]
    exact h
theorem some_put (w : World) (g k i : Nat) (p : Pt) (h : (w.cell? ⟨g, i, none⟩).isSome = true) : ((put3 w g k p).cell? ⟨g, i, none⟩).isSome = true := some_set _ _ _ (some_set _ _ _ (some_set _ _ _ h))
theorem At3.put {w : World} {g k : Nat} (h : ∀ i, i < 3 → (w.cell? ⟨g, k * 3 + i, none⟩).isSome = true) (p : Pt) : At3 (put3 w g k p) g k p := by
  have h0 := h 0 (by omega)
  have h1 := h 1 (by omega)
  have h2 := h 2 (by omega)
  unfold At3 put3
  refine ⟨?_, ?_, ?_⟩
  · rw [World.cell?_setCell_other _ _ _ _ (by simp), World.cell?_setCell_other _ _ _ _ (by simp)]
    exact World.cell?_setCell_same' _ _ _ h0
  · rw [World.cell?_setCell_other _ _ _ _ (by simp)]
    exact World.cell?_setCell_same' _ _ _ (some_set _ _ _ h1)
  · exact World.cell?_setCell_same' _ _ _ (some_set _ _ _ (some_set _ _ _ h2))
theorem frozen_set (w : World) (a x : Addr) (v : Value) : (w.setCell a v).frozen? x = w.frozen? x := by
  simp
theorem Cp.new {w0 wr : World} {g n : Nat} {ps : List Pt} {j k : Nat} (h : Cp w0 wr g n ps j k) (hn : ps.length = n) (h0 : 0 < j) (hj : j < n) (e : (pat ps j).1 ≠ (pat ps (j - 1)).1) : Cp w0 (put3 wr g k (pat ps j)) g n ps (j + 1) (k + 1) := by
  have hc := cpt_new h0 e
  have hkj := h.kj
  refine ⟨by rw [hc, List.length_append, h.len]; rfl, by omega, fun i hi => ?_, fun i a b => (h.hi i (by omega) b).other k _ (by omega), fun i hi => ?_, fun i hi => some_put _ _ _ _ _ (h.th i hi), ?_, ?_⟩
  · rw [hc]
    rw [hc, List.length_append] at hi
    simp only [List.length_cons, List.length_nil] at hi
    by_cases hik : i = k
    · subst hik
      have : pat (cpt ps j ++ [pat ps j]) i = pat ps j := by
        unfold pat
        rw [List.getD_eq_getElem?_getD, List.getElem?_append_right (by rw [h.len]; exact Nat.le_refl _)]
        simp [h.len]
      rw [this]
      exact At3.put (fun q hq => h.th _ (by omega)) _
    · have hik2 : i < (cpt ps j).length := by have := h.len; omega
      have : pat (cpt ps j ++ [pat ps j]) i = pat (cpt ps j) i := by
        simp [pat, List.getElem?_append_left hik2]
      rw [this]
      exact At3.other (h.lo i hik2) k _ hik
  · unfold put3
    rw [frozen_set, frozen_set, frozen_set]
    exact h.fz i hi
  · exact gb_setCell (gb_setCell (gb_setCell h.gr _) _) _
  · unfold put3
    simpa using h.lt
end Go.Proofs.Ytphhofbdekbggaa
