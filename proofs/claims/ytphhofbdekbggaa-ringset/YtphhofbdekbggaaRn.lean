/-
  What a sort turns.
-/
import Derived.Test.YtphhofbdekbggaaRm
import Derived.Test.YtphhofbdekbggaaRj
namespace Go.Proofs.Ytphhofbdekbggaa
open Go.RowKit Go.Sort
set_option linter.unusedVariables false
set_option linter.unusedSimpArgs false

theorem gb_sort {α : Type} [Inhabited α] (enc : α → List Value) (k : Nat) (w : World) (blk off n : Nat) (d : Array α) (os : Array Obj) (hb : blk < w.heap.size) : w.grownBy (sortWorldK enc k w blk off n d os) (some blk) := by
  have hs : (putRowK enc k (Sort.ahead w n) blk off d).heap.size = w.heap.size := by rw [size_putRowK]; rfl
  refine ⟨?_, ?_, ?_, ?_, fun q hq hne => ?_⟩
  · simp [sortWorldK, grow, putRowK, putRow, mapBlock, Sort.ahead]
    try (split <;> rfl)
  · simp [sortWorldK, grow, putRowK, putRow, mapBlock, Sort.ahead]
    try (split <;> rfl)
  · simp [sortWorldK, grow, putRowK, putRow, mapBlock, Sort.ahead]
    try (split <;> rfl)
  · have := size_sortWorldK_c enc k w blk off n d os
    exact this
  · have hne2 : ¬ blk = q := fun e => hne (by rw [e])
    show ((putRowK enc k (Sort.ahead w n) blk off d).heap ++ os)[q]? = _
    rw [Array.getElem?_append_left (by rw [hs]; exact hq)]
    simp only [putRowK, putRow, mapBlock, Sort.ahead]
    rw [Array.getElem?_modify, if_neg hne2]
/-- The cells of points behind a sort. -/
theorem PtAt.of_holds {w : World} {g : Nat} {d : Array Pt} (h : HoldsK encPt 3 w g 0 d) : PtAt w g d.toList := fun i hi => by
  have hi2 : i < d.size := by simpa using hi
  have hc := HoldsK.cells h (fun _ => rfl) hi2
  have hp : d[i]! = pat d.toList i := by
    rw [getElem!_pos d i hi2]
    simp [pat, hi2]
  rw [hp] at hc
  have h0 := hc 0 _ rfl
  have h1 := hc 1 _ rfl
  have h2 := hc 2 _ rfl
  rw [Addr.add_lit] at h0 h1 h2
  simp only [Nat.zero_add, Nat.add_zero] at h0 h1 h2
  exact ⟨h0, h1, h2⟩
end Go.Proofs.Ytphhofbdekbggaa
