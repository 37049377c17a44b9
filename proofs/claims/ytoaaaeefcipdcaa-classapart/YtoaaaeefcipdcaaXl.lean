/-
  Operations that came in.
-/
import Derived.Test.YtoaaaeefcipdcaaXk
import Derived.Test.YtoaaaeefcipdcaaO
namespace Go.Proofs.Ytoaaaeefcipdcaa
open Go.ChangeShapes Go.WideShapes Go.ChangeAt Go.RowKit
set_option linter.unusedVariables false

theorem cells44 : Try.prog.cellsOf 44 = 6 := by kernel_rfl

section
variable {H : Type} {enc : TypeId × Value → H} {w : World} {base : Nat} {spare : Nat → Bool} {held : Bool}
set_option maxRecDepth 100000 in
theorem open_ops {r : Reach} {b0 : Nat} {v : Value} {d : DataW H} {p : List MemPlace}
    (hv : Value.okWide Try.prog w r b0 24 v) (h : DataW.Trod enc Try.prog w base spare held 24 v d p) :
    ∃ a n c, v = .slice a n c ∧ n ≤ 9223372036854775807 ∧ OpsIn w a n := by
  obtain ⟨a, n, c, rfl⟩ := okWide_slice Try.underlying24 hv
  obtain ⟨fuel, hf⟩ := h
  have hf' : DataW.trod enc Try.prog w base spare held fuel 24 [.slice a n c] = some (d, p) := by simpa [Value.cells] using hf
  refine ⟨a, n, c, rfl, ?_⟩
  rcases Deep.open_slice Try.underlying24 hf' with ⟨hcs, _⟩ | ⟨a', len, cap, m, k, D, Pl, hcs, hb, hl, hm, hmm, hx, hel⟩
  · simp only [List.cons.injEq, Value.slice.injEq, and_true] at hcs
    obtain ⟨rfl, rfl, rfl⟩ := hcs
    exact ⟨by omega, fun i hi => by omega⟩
  · simp only [List.cons.injEq, Value.slice.injEq, and_true] at hcs
    obtain ⟨rfl, rfl, rfl⟩ := hcs
    have six : ∀ i, i < n → ∃ (dn an bn : Int) (hh : Int) (raw : Bool) (vv : Value),
        (w.cell? ((a'.add (i * 6)).add 0) = some (.int .i64 dn) ∧ w.cell? ((a'.add (i * 6)).add 1) = some (.int .i64 an) ∧ w.cell? ((a'.add (i * 6)).add 2) = some (.int .i64 bn) ∧ w.cell? ((a'.add (i * 6)).add 3) = some (.int .u64 hh) ∧ w.cell? ((a'.add (i * 6)).add 4) = some (.bool raw) ∧ w.cell? ((a'.add (i * 6)).add 5) = some vv) ∧ 0 ≤ hh ∧ hh < 18446744073709551616 := by
      intro i hi
      obtain ⟨cs', hc, ht⟩ := hel i (by rw [hmm]; split <;> omega)
      rw [cells44] at hc
      obtain ⟨x0, e0, w0⟩ := field_int 0 Try.underlying44 ht rfl Try.underlying3 (by kernel_rfl)
      obtain ⟨x1, e1, w1⟩ := field_int 1 Try.underlying44 ht rfl Try.underlying3 (by kernel_rfl)
      obtain ⟨x2, e2, w2⟩ := field_int 2 Try.underlying44 ht rfl Try.underlying3 (by kernel_rfl)
      obtain ⟨x3, e3, w3⟩ := field_int 3 Try.underlying44 ht rfl Try.underlying41 (by kernel_rfl)
      obtain ⟨x4, e4⟩ := field_bool 4 Try.underlying44 ht rfl Try.underlying4 (by kernel_rfl)
      have hcell := World.cells?_some hc
      obtain ⟨vv, e5⟩ : ∃ vv, cs'[5]? = some vv := ⟨_, List.getElem?_eq_getElem (by rw [hcell.2.1]; omega)⟩
      have b3 : 0 ≤ x3 ∧ x3 < 18446744073709551616 := by
        have := bounds_u64 w3
        omega
      exact ⟨x0, x1, x2, x3, x4, vv, ⟨(hcell.2.2 0 (by omega)).trans e0, (hcell.2.2 1 (by omega)).trans e1, (hcell.2.2 2 (by omega)).trans e2, (hcell.2.2 3 (by omega)).trans e3, (hcell.2.2 4 (by omega)).trans e4, (hcell.2.2 5 (by omega)).trans e5⟩, b3⟩
    refine ⟨by unfold maxLen at hm; omega, fun i hi => ?_⟩
    obtain ⟨b, o, rfl⟩ : ∃ b o, a' = ⟨b, o, none⟩ := by
      obtain ⟨_, _, _, _, _, _, ⟨g0, _⟩, _⟩ := six 0 (by omega)
      rw [Deep.add_add, Nat.zero_mul] at g0
      exact plain_of g0
    obtain ⟨x0, x1, x2, x3, x4, vv, ⟨g0, g1, g2, g3, g4, g5⟩, r1, r2⟩ := six i hi
    simp only [Addr.add_mid] at g0 g1 g2 g3 g4 g5
    obtain ⟨hn, rfl⟩ : ∃ hn : Nat, x3 = hn := ⟨x3.toNat, by omega⟩
    exact ⟨b, o, rfl, x0, x1, x2, hn, x4, vv, ⟨by simpa using g0, g1, g2, g3, g4, g5⟩, by omega⟩
end

end Go.Proofs.Ytoaaaeefcipdcaa
