/-
  What is laid.
-/
import Derived.Stop.LaidErr
import Derived.MakeChecks
import Derived.Test.YtobegepebochkaaDoorRows
import Derived.Test.YtobegepebochkaaDoorD
namespace Go.Proofs.YtobegepebochkaaDoor
open Go Go.RowKit Go.Shelf
set_option linter.unusedVariables false
set_option linter.unusedSimpArgs false

theorem gES : Tryd.prog.globalNamed "strconv.ErrSyntax" = some 1 := by kernel_rfl
theorem gER : Tryd.prog.globalNamed "strconv.ErrRange" = some 2 := by kernel_rfl
theorem gEST : (Tryd.prog.globals[1]?).map (·.type) = some 87 := by kernel_rfl
theorem gERT : (Tryd.prog.globals[2]?).map (·.type) = some 87 := by kernel_rfl
theorem cells127 : Tryd.prog.cellsOf 127 = 1 := by kernel_rfl
theorem cells9 : Tryd.prog.cellsOf 9 = 1 := by kernel_rfl
theorem row125 (u : TypeId) (h : Tryd.prog.typeName? 3 u = Tryd.prog.typeName? 3 125) : u = 125 :=
  typeName_ptr_named (nm := "errors.errorString") (by kernel_rfl) (by kernel_rfl) (by decide) u (h.trans (by kernel_rfl))
/-- What the row lists gives the library's errors. -/
theorem er_of {W : World} (h : laidMetH Tryd.prog Rows.lineNamesRow.laid W) : Er W := by
  rw [MakeChecks.laidMetH_plain _ _ _ (by kernel_rfl)] at h
  have h4 := h.tail.tail.tail.tail
  obtain ⟨a0, s0, hv0, -, -, -⟩ := laid_sentinel h4 gER gERT Tryd.underlying87 (fun u h => row125 u (h.trans (by kernel_rfl))) Tryd.underlying125 Tryd.underlying127 rfl rfl Tryd.underlying9 cells127 cells9
  obtain ⟨a1, s1, hv1, -, -, -⟩ := laid_sentinel h4.tail gES gEST Tryd.underlying87 (fun u h => row125 u (h.trans (by kernel_rfl))) Tryd.underlying125 Tryd.underlying127 rfl rfl Tryd.underlying9 cells127 cells9
  have c0 := World.var?_cell gER hv0 0
  have c1 := World.var?_cell gES hv1 0
  exact ⟨⟨_, _, by simpa using c1⟩, _, _, by simpa using c0⟩
/-- What the row lists gives the library's errors. -/
theorem er_of2 {W : World} (h : laidMetH Tryd.prog Rows.lineHoldsRow.laid W) : Er W := by
  rw [MakeChecks.laidMetH_plain _ _ _ (by kernel_rfl)] at h
  have h4 := h.tail.tail.tail.tail
  obtain ⟨a0, s0, hv0, -, -, -⟩ := laid_sentinel h4 gER gERT Tryd.underlying87 (fun u h => row125 u (h.trans (by kernel_rfl))) Tryd.underlying125 Tryd.underlying127 rfl rfl Tryd.underlying9 cells127 cells9
  obtain ⟨a1, s1, hv1, -, -, -⟩ := laid_sentinel h4.tail gES gEST Tryd.underlying87 (fun u h => row125 u (h.trans (by kernel_rfl))) Tryd.underlying125 Tryd.underlying127 rfl rfl Tryd.underlying9 cells127 cells9
  have c0 := World.var?_cell gER hv0 0
  have c1 := World.var?_cell gES hv1 0
  exact ⟨⟨_, _, by simpa using c1⟩, _, _, by simpa using c0⟩
end Go.Proofs.YtobegepebochkaaDoor
