import Derived.Test.YtohneboimmcocaaGreatOk
/-
  Shares that came in.
-/
namespace Go.Proofs.YtohneboimmcocaaGreat
open Go.ChangeShapes Go.WideShapes Go.ChangeAt Go.RowKit
set_option linter.unusedVariables false

theorem list2 {α : Type} {l : List α} {a b : α} (h : l.length = 2) (h0 : l[0]? = some a) (h1 : l[1]? = some b) : l = [a, b] := by
  match l, h with
  | [_, _], _ => simp at h0 h1; simp [h0, h1]

set_option maxRecDepth 100000 in
theorem open_shares1 {H : Type} {enc : TypeId × Value → H} {w : World} {base : Nat} {spare : Nat → Bool} {held : Bool} {r : Reach} {b0 : Nat} {v : Value} {d : DataW H} {p : List MemPlace}
    (hv : Value.okWide Tryz.prog w r b0 23 v) (h : DataW.Trod enc Tryz.prog w base spare held 23 v d p) :
    ∃ (x0 x1 : Int), v = .agg #[.int .i64 x0, .int .i64 x1] := by
  obtain ⟨cs, rfl, hsz⟩ := okWide_struct Tryz.underlying23 hv
  obtain ⟨fuel, hf⟩ := h
  have hf' : DataW.trod enc Tryz.prog w base spare held fuel 23 cs.toList = some (d, p) := by simpa [Value.cells] using hf
  obtain ⟨x0, e0, w0⟩ := field_int 0 Tryz.underlying23 hf' rfl Tryz.underlying3 (by kernel_rfl)
  obtain ⟨x1, e1, w1⟩ := field_int 1 Tryz.underlying23 hf' rfl Tryz.underlying3 (by kernel_rfl)
  refine ⟨x0, x1, ?_⟩
  have := list2 (by rw [cells_23] at hsz; simpa using hsz) e0 e1
  congr
  apply Array.ext'
  rw [this]
end Go.Proofs.YtohneboimmcocaaGreat
