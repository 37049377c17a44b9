import Derived.Stop.LaidErr
import Derived.MakeChecks
import Derived.Test.YtobegepebochkaaGreatDoorRows
import Derived.Test.YtobegepebochkaaGreatDoorD
/-
  What is laid.
-/
namespace Go.Proofs.YtobegepebochkaaGreatDoor
open Go Go.RowKit Go.Shelf
set_option linter.unusedVariables false
set_option linter.unusedSimpArgs false

theorem gES : Tryz.prog.globalNamed "strconv.ErrSyntax" = some 2 := by kernel_rfl
theorem gER : Tryz.prog.globalNamed "strconv.ErrRange" = some 3 := by kernel_rfl
theorem gEST : (Tryz.prog.globals[2]?).map (·.type) = some 201 := by kernel_rfl
theorem gERT : (Tryz.prog.globals[3]?).map (·.type) = some 201 := by kernel_rfl
theorem cellsErr : Tryz.prog.cellsOf 248 = 1 := by kernel_rfl
theorem cells9 : Tryz.prog.cellsOf 9 = 1 := by kernel_rfl
theorem rowErr (u : TypeId) (h : Tryz.prog.typeName? 3 u = Tryz.prog.typeName? 3 246) : u = 246 :=
  typeName_ptr_named (nm := "errors.errorString") (by kernel_rfl) (by kernel_rfl) (by decide) u (h.trans (by kernel_rfl))
/-- What the row lists gives the library's errors. -/
theorem er_lineCuts {W : World} (h : laidMetH Tryz.prog Rows.lineCutsRow.laid W) : Er W := by
  rw [MakeChecks.laidMetH_plain _ _ _ (by kernel_rfl)] at h
  have h4 := h.tail.tail.tail.tail
  obtain ⟨a0, s0, hv0, -, -, -⟩ := laid_sentinel h4 gER gERT Tryz.underlying201 (fun u h => rowErr u (h.trans (by kernel_rfl))) Tryz.underlying246 Tryz.underlying248 rfl rfl Tryz.underlying9 cellsErr cells9
  obtain ⟨a1, s1, hv1, -, -, -⟩ := laid_sentinel h4.tail gES gEST Tryz.underlying201 (fun u h => rowErr u (h.trans (by kernel_rfl))) Tryz.underlying246 Tryz.underlying248 rfl rfl Tryz.underlying9 cellsErr cells9
  have c0 := World.var?_cell gER hv0 0
  have c1 := World.var?_cell gES hv1 0
  exact ⟨⟨_, _, by simpa using c1⟩, _, _, by simpa using c0⟩
/-- What the row lists gives the library's errors. -/
theorem er_lineApart {W : World} (h : laidMetH Tryz.prog Rows.lineApartRow.laid W) : Er W := by
  rw [MakeChecks.laidMetH_plain _ _ _ (by kernel_rfl)] at h
  have h4 := h.tail.tail.tail.tail
  obtain ⟨a0, s0, hv0, -, -, -⟩ := laid_sentinel h4 gER gERT Tryz.underlying201 (fun u h => rowErr u (h.trans (by kernel_rfl))) Tryz.underlying246 Tryz.underlying248 rfl rfl Tryz.underlying9 cellsErr cells9
  obtain ⟨a1, s1, hv1, -, -, -⟩ := laid_sentinel h4.tail gES gEST Tryz.underlying201 (fun u h => rowErr u (h.trans (by kernel_rfl))) Tryz.underlying246 Tryz.underlying248 rfl rfl Tryz.underlying9 cellsErr cells9
  have c0 := World.var?_cell gER hv0 0
  have c1 := World.var?_cell gES hv1 0
  exact ⟨⟨_, _, by simpa using c1⟩, _, _, by simpa using c0⟩
end Go.Proofs.YtobegepebochkaaGreatDoor
/-
  What is laid: more rows.
-/
namespace Go.Proofs.YtobegepebochkaaGreatDoor
open Go Go.RowKit Go.Shelf
set_option linter.unusedVariables false
set_option linter.unusedSimpArgs false

/-- What the row lists gives the library's errors. -/
theorem er_lineWhole {W : World} (h : laidMetH Tryz.prog Rows.lineWholeRow.laid W) : Er W := by
  rw [MakeChecks.laidMetH_plain _ _ _ (by kernel_rfl)] at h
  have h4 := h.tail.tail.tail.tail
  obtain ⟨a0, s0, hv0, -, -, -⟩ := laid_sentinel h4 gER gERT Tryz.underlying201 (fun u h => rowErr u (h.trans (by kernel_rfl))) Tryz.underlying246 Tryz.underlying248 rfl rfl Tryz.underlying9 cellsErr cells9
  obtain ⟨a1, s1, hv1, -, -, -⟩ := laid_sentinel h4.tail gES gEST Tryz.underlying201 (fun u h => rowErr u (h.trans (by kernel_rfl))) Tryz.underlying246 Tryz.underlying248 rfl rfl Tryz.underlying9 cellsErr cells9
  have c0 := World.var?_cell gER hv0 0
  have c1 := World.var?_cell gES hv1 0
  exact ⟨⟨_, _, by simpa using c1⟩, _, _, by simpa using c0⟩
/-- What the row lists gives the library's errors. -/
theorem er_wordsWhole {W : World} (h : laidMetH Tryz.prog Rows.wordsWholeRow.laid W) : Er W := by
  rw [MakeChecks.laidMetH_plain _ _ _ (by kernel_rfl)] at h
  have h4 := h.tail.tail.tail.tail
  obtain ⟨a0, s0, hv0, -, -, -⟩ := laid_sentinel h4 gER gERT Tryz.underlying201 (fun u h => rowErr u (h.trans (by kernel_rfl))) Tryz.underlying246 Tryz.underlying248 rfl rfl Tryz.underlying9 cellsErr cells9
  obtain ⟨a1, s1, hv1, -, -, -⟩ := laid_sentinel h4.tail gES gEST Tryz.underlying201 (fun u h => rowErr u (h.trans (by kernel_rfl))) Tryz.underlying246 Tryz.underlying248 rfl rfl Tryz.underlying9 cellsErr cells9
  have c0 := World.var?_cell gER hv0 0
  have c1 := World.var?_cell gES hv1 0
  exact ⟨⟨_, _, by simpa using c1⟩, _, _, by simpa using c0⟩
/-- What the row lists gives the library's errors. -/
theorem er_wordsAll {W : World} (h : laidMetH Tryz.prog Rows.wordsAllRow.laid W) : Er W := by
  rw [MakeChecks.laidMetH_plain _ _ _ (by kernel_rfl)] at h
  have h4 := h.tail.tail.tail.tail
  obtain ⟨a0, s0, hv0, -, -, -⟩ := laid_sentinel h4 gER gERT Tryz.underlying201 (fun u h => rowErr u (h.trans (by kernel_rfl))) Tryz.underlying246 Tryz.underlying248 rfl rfl Tryz.underlying9 cellsErr cells9
  obtain ⟨a1, s1, hv1, -, -, -⟩ := laid_sentinel h4.tail gES gEST Tryz.underlying201 (fun u h => rowErr u (h.trans (by kernel_rfl))) Tryz.underlying246 Tryz.underlying248 rfl rfl Tryz.underlying9 cellsErr cells9
  have c0 := World.var?_cell gER hv0 0
  have c1 := World.var?_cell gES hv1 0
  exact ⟨⟨_, _, by simpa using c1⟩, _, _, by simpa using c0⟩
/-- What the row lists gives the library's errors. -/
theorem er_wordsLine {W : World} (h : laidMetH Tryz.prog Rows.wordsLineRow.laid W) : Er W := by
  rw [MakeChecks.laidMetH_plain _ _ _ (by kernel_rfl)] at h
  have h4 := h.tail.tail.tail.tail
  obtain ⟨a0, s0, hv0, -, -, -⟩ := laid_sentinel h4 gER gERT Tryz.underlying201 (fun u h => rowErr u (h.trans (by kernel_rfl))) Tryz.underlying246 Tryz.underlying248 rfl rfl Tryz.underlying9 cellsErr cells9
  obtain ⟨a1, s1, hv1, -, -, -⟩ := laid_sentinel h4.tail gES gEST Tryz.underlying201 (fun u h => rowErr u (h.trans (by kernel_rfl))) Tryz.underlying246 Tryz.underlying248 rfl rfl Tryz.underlying9 cellsErr cells9
  have c0 := World.var?_cell gER hv0 0
  have c1 := World.var?_cell gES hv1 0
  exact ⟨⟨_, _, by simpa using c1⟩, _, _, by simpa using c0⟩
/-- What the row lists gives the library's errors. -/
theorem er_wordsBytes {W : World} (h : laidMetH Tryz.prog Rows.wordsBytesRow.laid W) : Er W := by
  rw [MakeChecks.laidMetH_plain _ _ _ (by kernel_rfl)] at h
  have h4 := h.tail.tail.tail.tail
  obtain ⟨a0, s0, hv0, -, -, -⟩ := laid_sentinel h4 gER gERT Tryz.underlying201 (fun u h => rowErr u (h.trans (by kernel_rfl))) Tryz.underlying246 Tryz.underlying248 rfl rfl Tryz.underlying9 cellsErr cells9
  obtain ⟨a1, s1, hv1, -, -, -⟩ := laid_sentinel h4.tail gES gEST Tryz.underlying201 (fun u h => rowErr u (h.trans (by kernel_rfl))) Tryz.underlying246 Tryz.underlying248 rfl rfl Tryz.underlying9 cellsErr cells9
  have c0 := World.var?_cell gER hv0 0
  have c1 := World.var?_cell gES hv1 0
  exact ⟨⟨_, _, by simpa using c1⟩, _, _, by simpa using c0⟩
/-- What the row lists gives the library's errors. -/
theorem er_lineExact {W : World} (h : laidMetH Tryz.prog Rows.lineExactRow.laid W) : Er W := by
  rw [MakeChecks.laidMetH_plain _ _ _ (by kernel_rfl)] at h
  have h4 := h.tail.tail.tail.tail
  obtain ⟨a0, s0, hv0, -, -, -⟩ := laid_sentinel h4 gER gERT Tryz.underlying201 (fun u h => rowErr u (h.trans (by kernel_rfl))) Tryz.underlying246 Tryz.underlying248 rfl rfl Tryz.underlying9 cellsErr cells9
  obtain ⟨a1, s1, hv1, -, -, -⟩ := laid_sentinel h4.tail gES gEST Tryz.underlying201 (fun u h => rowErr u (h.trans (by kernel_rfl))) Tryz.underlying246 Tryz.underlying248 rfl rfl Tryz.underlying9 cellsErr cells9
  have c0 := World.var?_cell gER hv0 0
  have c1 := World.var?_cell gES hv1 0
  exact ⟨⟨_, _, by simpa using c1⟩, _, _, by simpa using c0⟩
/-- What the row lists gives the library's errors. -/
theorem er_lineBack {W : World} (h : laidMetH Tryz.prog Rows.lineBackRow.laid W) : Er W := by
  rw [MakeChecks.laidMetH_plain _ _ _ (by kernel_rfl)] at h
  have h4 := h.tail.tail.tail.tail
  obtain ⟨a0, s0, hv0, -, -, -⟩ := laid_sentinel h4 gER gERT Tryz.underlying201 (fun u h => rowErr u (h.trans (by kernel_rfl))) Tryz.underlying246 Tryz.underlying248 rfl rfl Tryz.underlying9 cellsErr cells9
  obtain ⟨a1, s1, hv1, -, -, -⟩ := laid_sentinel h4.tail gES gEST Tryz.underlying201 (fun u h => rowErr u (h.trans (by kernel_rfl))) Tryz.underlying246 Tryz.underlying248 rfl rfl Tryz.underlying9 cellsErr cells9
  have c0 := World.var?_cell gER hv0 0
  have c1 := World.var?_cell gES hv1 0
  exact ⟨⟨_, _, by simpa using c1⟩, _, _, by simpa using c0⟩
end Go.Proofs.YtobegepebochkaaGreatDoor
