/-
  A slice of Ends that came in.
-/
import Derived.Test.YtknhoncnaigogaaO
import Derived.Test.YtknhoncnaigogaaY
import Derived.Deep.Slices
namespace Go.Proofs.Ytknhoncnaigogaa
open Go.ChangeShapes Go.WideShapes Go.ChangeAt Go.RowKit
set_option linter.unusedVariables false

theorem cells4 : Try.prog.cellsOf 61 = 4 := by kernel_rfl

theorem plain_of {a : Addr} {w : World} {v : Value} (h : w.cell? (a.add 0) = some v) : ∃ b o, a = ⟨b, o, none⟩ := by
  have := World.cell?_spot h
  obtain ⟨b, o, s⟩ := a
  refine ⟨b, o, ?_⟩
  simp [Addr.add] at this
  rw [this]

set_option maxRecDepth 100000 in
theorem open_ends {H : Type} {enc : TypeId × Value → H} {w : World} {base : Nat} {spare : Nat → Bool} {held : Bool} {r : Reach} {b0 : Nat} {v : Value} {d : DataW H} {p : List MemPlace}
    (hv : Value.okWide Try.prog w r b0 57 v) (h : DataW.Trod enc Try.prog w base spare held 57 v d p) :
    ∃ a n c, v = .slice a n c ∧ n ≤ maxLen ∧ EndsIn w a n := by
  obtain ⟨a, n, c, rfl⟩ := okWide_slice Try.underlying57 hv
  obtain ⟨fuel, hf⟩ := h
  have hf' : DataW.trod enc Try.prog w base spare held fuel 57 [.slice a n c] = some (d, p) := by simpa [Value.cells] using hf
  refine ⟨a, n, c, rfl, ?_⟩
  rcases Deep.open_slice Try.underlying57 hf' with ⟨hcs, _⟩ | ⟨a', len, cap, m, k, D, Pl, hcs, hb, hl, hm, hmm, _, hel⟩
  · simp only [List.cons.injEq, Value.slice.injEq, and_true] at hcs
    obtain ⟨rfl, rfl, rfl⟩ := hcs
    exact ⟨by unfold maxLen; omega, fun i hi => by omega⟩
  · simp only [List.cons.injEq, Value.slice.injEq, and_true] at hcs
    obtain ⟨rfl, rfl, rfl⟩ := hcs
    have four : ∀ i, i < n → ∃ (x0 x1 x2 : Int) (nr : Bool), w.cell? ((a'.add (i * 4)).add 0) = some (.int .i64 x0) ∧ w.cell? ((a'.add (i * 4)).add 1) = some (.int .i64 x1) ∧ w.cell? ((a'.add (i * 4)).add 2) = some (.int .i64 x2) ∧
        w.cell? ((a'.add (i * 4)).add 3) = some (.bool nr) ∧ (Lit.int .i64 x0).wf = true ∧ (Lit.int .i64 x1).wf = true := by
      intro i hi
      obtain ⟨cs', hc, ht⟩ := hel i (by rw [hmm]; split <;> omega)
      rw [cells4] at hc
      obtain ⟨x0, e0, w0⟩ := field_int 0 Try.underlying61 ht rfl Try.underlying3 (by kernel_rfl)
      obtain ⟨x1, e1, w1⟩ := field_int 1 Try.underlying61 ht rfl Try.underlying3 (by kernel_rfl)
      obtain ⟨x2, e2, w2⟩ := field_int 2 Try.underlying61 ht rfl Try.underlying3 (by kernel_rfl)
      obtain ⟨nr, e3⟩ := field_bool 3 Try.underlying61 ht rfl Try.underlying4 (by kernel_rfl)
      have hcell := World.cells?_some hc
      have g0 := hcell.2.2 0 (by omega)
      have g1 := hcell.2.2 1 (by omega)
      have g2 := hcell.2.2 2 (by omega)
      have g3 := hcell.2.2 3 (by omega)
      exact ⟨x0, x1, x2, nr, g0.trans e0, g1.trans e1, g2.trans e2, g3.trans e3, w0, w1⟩
    refine ⟨by omega, fun i hi => ?_⟩
    obtain ⟨b, o, rfl⟩ : ∃ b o, a' = ⟨b, o, none⟩ := by
      obtain ⟨x0, _, _, _, g0, _⟩ := four 0 (by omega)
      rw [Deep.add_add, Nat.zero_mul] at g0
      exact plain_of g0
    obtain ⟨x0, x1, x2, nr, g0, g1, g2, g3, w0, w1⟩ := four i hi
    simp only [Addr.add_mid] at g0 g1 g2 g3
    have b0 := bounds_i64 w0
    have b1 := bounds_i64 w1
    refine ⟨b, o, rfl, x0, x1, x2, nr, ?_, ?_, ?_, ?_, by omega, by omega⟩
    · simpa using g0
    · simpa [Nat.add_assoc] using g1
    · simpa [Nat.add_assoc] using g2
    · simpa [Nat.add_assoc] using g3

end Go.Proofs.Ytknhoncnaigogaa
