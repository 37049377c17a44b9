/-
  What is laid.
-/
import Derived.Stop.LaidErr
import Derived.MakeChecks
import Derived.Test.YtggdlficnjjobaaDoorRows
import Derived.Test.YtggdlficnjjobaaDoorSg
namespace Go.Proofs.YtggdlficnjjobaaDoor
open Go Go.RowKit Go.Shelf
set_option linter.unusedVariables false
set_option linter.unusedSimpArgs false

theorem gES : Tryd.prog.globalNamed "strconv.ErrSyntax" = some 2 := by kernel_rfl
theorem gER : Tryd.prog.globalNamed "strconv.ErrRange" = some 3 := by kernel_rfl
theorem gEST : (Tryd.prog.globals[2]?).map (·.type) = some 79 := by kernel_rfl
theorem gERT : (Tryd.prog.globals[3]?).map (·.type) = some 79 := by kernel_rfl
theorem cells138 : Tryd.prog.cellsOf 138 = 1 := by kernel_rfl
theorem cells9 : Tryd.prog.cellsOf 9 = 1 := by kernel_rfl
theorem row136 (u : TypeId) (h : Tryd.prog.typeName? 3 u = Tryd.prog.typeName? 3 136) : u = 136 :=
  typeName_ptr_named (nm := "errors.errorString") (by kernel_rfl) (by kernel_rfl) (by decide) u (h.trans (by kernel_rfl))
/-- What the row lists gives the library's errors. -/
theorem er_of {W : World} (h : laidMetH Tryd.prog Rows.wordsNamesRow.laid W) : Er W := by
  rw [MakeChecks.laidMetH_plain _ _ _ (by kernel_rfl)] at h
  have h4 := h.tail.tail.tail.tail
  obtain ⟨a0, s0, hv0, -, -, -⟩ := laid_sentinel h4 gER gERT Tryd.underlying79 (fun u h => row136 u (h.trans (by kernel_rfl))) Tryd.underlying136 Tryd.underlying138 rfl rfl Tryd.underlying9 cells138 cells9
  obtain ⟨a1, s1, hv1, -, -, -⟩ := laid_sentinel h4.tail gES gEST Tryd.underlying79 (fun u h => row136 u (h.trans (by kernel_rfl))) Tryd.underlying136 Tryd.underlying138 rfl rfl Tryd.underlying9 cells138 cells9
  have c0 := World.var?_cell gER hv0 0
  have c1 := World.var?_cell gES hv1 0
  exact ⟨⟨_, _, by simpa using c1⟩, _, _, by simpa using c0⟩
end Go.Proofs.YtggdlficnjjobaaDoor
