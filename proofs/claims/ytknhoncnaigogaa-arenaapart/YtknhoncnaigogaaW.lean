/-
  An Op that came in by value.
-/
import Derived.Test.YtknhoncnaigogaaO
namespace Go.Proofs.Ytknhoncnaigogaa
open Go.ChangeShapes Go.WideShapes Go.ChangeAt Go.RowKit
set_option linter.unusedVariables false

theorem list9 {α : Type} {l : List α} {a b c d e f g h : α} (hl : l.length = 9) (h0 : l[0]? = some a) (h1 : l[1]? = some b) (h2 : l[2]? = some c) (h3 : l[3]? = some d) (h4 : l[4]? = some e) (h5 : l[5]? = some f) (h6 : l[6]? = some g) (h8 : l[8]? = some h) : ∃ s, l = [a, b, c, d, e, f, g, s, h] := by
  match l, hl with
  | [_, _, _, _, _, _, _, s, _], _ => simp at h0 h1 h2 h3 h4 h5 h6 h8; exact ⟨s, by simp [h0, h1, h2, h3, h4, h5, h6, h8]⟩

theorem cells9 : Try.prog.cellsOf 31 = 9 := by kernel_rfl

set_option maxRecDepth 100000 in
theorem open_op {H : Type} {enc : TypeId × Value → H} {w : World} {base : Nat} {spare : Nat → Bool} {held : Bool} {r : Reach} {b0 : Nat} {v : Value} {d : DataW H} {p : List MemPlace}
    (hv : Value.okWide Try.prog w r b0 31 v) (h : DataW.Trod enc Try.prog w base spare held 31 v d p) :
    ∃ (x0 x1 x2 x3 x4 x5 x6 : Int) (s : Value) (own : Bool), v = .agg #[.int .i64 x0, .int .i64 x1, .int .i64 x2, .int .i64 x3, .int .i64 x4, .int .i64 x5, .int .u64 x6, s, .bool own] ∧ (Lit.int .u64 x6).wf = true := by
  obtain ⟨cs, rfl, hsz⟩ := okWide_struct Try.underlying31 hv
  obtain ⟨fuel, hf⟩ := h
  have hf' : DataW.trod enc Try.prog w base spare held fuel 31 cs.toList = some (d, p) := by simpa [Value.cells] using hf
  obtain ⟨x0, e0, w0⟩ := field_int 0 Try.underlying31 hf' rfl Try.underlying3 (by kernel_rfl)
  obtain ⟨x1, e1, w1⟩ := field_int 1 Try.underlying31 hf' rfl Try.underlying3 (by kernel_rfl)
  obtain ⟨x2, e2, w2⟩ := field_int 2 Try.underlying31 hf' rfl Try.underlying3 (by kernel_rfl)
  obtain ⟨x3, e3, w3⟩ := field_int 3 Try.underlying31 hf' rfl Try.underlying3 (by kernel_rfl)
  obtain ⟨x4, e4, w4⟩ := field_int 4 Try.underlying31 hf' rfl Try.underlying3 (by kernel_rfl)
  obtain ⟨x5, e5, w5⟩ := field_int 5 Try.underlying31 hf' rfl Try.underlying3 (by kernel_rfl)
  obtain ⟨x6, e6, w6⟩ := field_int 6 Try.underlying31 hf' rfl Try.underlying28 (by kernel_rfl)
  obtain ⟨own, e8⟩ := field_bool 8 Try.underlying31 hf' rfl Try.underlying4 (by kernel_rfl)
  obtain ⟨s, hs⟩ := list9 (by rw [cells9] at hsz; simpa using hsz) e0 e1 e2 e3 e4 e5 e6 e8
  refine ⟨x0, x1, x2, x3, x4, x5, x6, s, own, ?_, w6⟩
  congr
  apply Array.ext'
  rw [hs]

end Go.Proofs.Ytknhoncnaigogaa
