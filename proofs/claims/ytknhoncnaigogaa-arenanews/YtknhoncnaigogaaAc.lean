/-
  A slice of pairs that came in.
-/
import Derived.Test.YtknhoncnaigogaaO
import Derived.Test.YtknhoncnaigogaaZ
import Derived.Test.YtknhoncnaigogaaAb
import Derived.Deep.Slices
namespace Go.Proofs.Ytknhoncnaigogaa
open Go.ChangeShapes Go.WideShapes Go.ChangeAt Go.RowKit
set_option linter.unusedVariables false

theorem cells2 : Try.prog.cellsOf 22 = 2 := by kernel_rfl

set_option maxRecDepth 100000 in
theorem open_pairs {H : Type} {enc : TypeId × Value → H} {w : World} {base : Nat} {spare : Nat → Bool} {held : Bool} {r : Reach} {b0 : Nat} {v : Value} {d : DataW H} {p : List MemPlace}
    (hv : Value.okWide Try.prog w r b0 40 v) (h : DataW.Trod enc Try.prog w base spare held 40 v d p) :
    ∃ a n c, v = .slice a n c ∧ n ≤ maxLen ∧ PairsIn w a n := by
  obtain ⟨a, n, c, rfl⟩ := okWide_slice Try.underlying40 hv
  obtain ⟨fuel, hf⟩ := h
  have hf' : DataW.trod enc Try.prog w base spare held fuel 40 [.slice a n c] = some (d, p) := by simpa [Value.cells] using hf
  refine ⟨a, n, c, rfl, ?_⟩
  rcases Deep.open_slice Try.underlying40 hf' with ⟨hcs, _⟩ | ⟨a', len, cap, m, k, D, Pl, hcs, hb, hl, hm, hmm, _, hel⟩
  · simp only [List.cons.injEq, Value.slice.injEq, and_true] at hcs
    obtain ⟨rfl, rfl, rfl⟩ := hcs
    exact ⟨by unfold maxLen; omega, fun i hi => by omega⟩
  · simp only [List.cons.injEq, Value.slice.injEq, and_true] at hcs
    obtain ⟨rfl, rfl, rfl⟩ := hcs
    have two : ∀ i, i < n → ∃ (x0 x1 : Int), w.cell? ((a'.add (i * 2)).add 0) = some (.int .i64 x0) ∧ w.cell? ((a'.add (i * 2)).add 1) = some (.int .i64 x1) ∧ (Lit.int .i64 x0).wf = true ∧ (Lit.int .i64 x1).wf = true := by
      intro i hi
      obtain ⟨cs', hc, ht⟩ := hel i (by rw [hmm]; split <;> omega)
      rw [cells2] at hc
      obtain ⟨xs, m', _, _, hlen, hxl, hff⟩ := DataW.trod_array Try.underlying22 ht
      have hcell := World.cells?_some hc
      have one : ∀ j, j < 2 → ∃ x : Int, cs'[j]? = some (.int .i64 x) ∧ (Lit.int .i64 x).wf = true := by
        intro j hj
        have := hff j hj
        rw [List.getElem?_eq_getElem (by omega), show Try.prog.cellsOf 3 = 1 by kernel_rfl] at this
        obtain ⟨x, h1, _, h3⟩ := DataW.trod_int Try.underlying3 this
        rw [Nat.mul_one] at h1
        exact ⟨x, one_of h1, h3⟩
      obtain ⟨x0, e0, w0⟩ := one 0 (by omega)
      obtain ⟨x1, e1, w1⟩ := one 1 (by omega)
      exact ⟨x0, x1, (hcell.2.2 0 (by omega)).trans e0, (hcell.2.2 1 (by omega)).trans e1, w0, w1⟩
    refine ⟨by omega, fun i hi => ?_⟩
    obtain ⟨b, o, rfl⟩ : ∃ b o, a' = ⟨b, o, none⟩ := by
      obtain ⟨x0, _, g0, _⟩ := two 0 (by omega)
      rw [Deep.add_add, Nat.zero_mul] at g0
      exact plain_of g0
    obtain ⟨x0, x1, g0, g1, w0, w1⟩ := two i hi
    simp only [Addr.add_mid] at g0 g1
    have b0 := bounds_i64 w0
    have b1 := bounds_i64 w1
    refine ⟨b, o, rfl, x0, x1, ?_, ?_, by omega, by omega⟩
    · simpa using g0
    · simpa [Nat.add_assoc] using g1

end Go.Proofs.Ytknhoncnaigogaa
