import Derived.Lib.LaidTab
import Derived.Test.YtbbocbdoiealoaaGreatDoorRPbr
import Derived.Test.YtbbocbdoiealoaaGreatDoorRPba
set_option linter.unusedVariables false
set_option linter.unusedSimpArgs false
namespace Go.Proofs.YtbbocbdoiealoaaGreatDoor
open Go Go.RowKit Go.Shelf
theorem er_wordsRight {W : World} (h : laidMetH Tryz.prog Rows.wordsRightRow.laid W) : Er W := by
  rw [MakeChecks.laidMetH_plain _ _ _ (by kernel_rfl)] at h
  have h4 := h.tail.tail.tail.tail
  obtain ⟨a0, s0, hv0, -, -, -⟩ := laid_sentinel h4 gER gERT Tryz.underlying204 (fun u h => rowErr u (h.trans (by kernel_rfl))) Tryz.underlying249 Tryz.underlying251 rfl rfl Tryz.underlying9 cellsErr cells9
  obtain ⟨a1, s1, hv1, -, -, -⟩ := laid_sentinel h4.tail gES gEST Tryz.underlying204 (fun u h => rowErr u (h.trans (by kernel_rfl))) Tryz.underlying249 Tryz.underlying251 rfl rfl Tryz.underlying9 cellsErr cells9
  have c0 := World.var?_cell gER hv0 0
  have c1 := World.var?_cell gES hv1 0
  exact ⟨⟨_, _, by simpa using c1⟩, _, _, by simpa using c0⟩
theorem gPT : (Tryz.prog.globals[1]?).map (·.type) = some 240 := by kernel_rfl
theorem cellsP : Tryz.prog.cellsOf 240 = 20 := by kernel_rfl
theorem cells37 : Tryz.prog.cellsOf 37 = 1 := by kernel_rfl
theorem pw_wordsRight {W : World} (h : laidMetH Tryz.prog Rows.wordsRightRow.laid W) : Pw W := by
  intro s hs
  rw [MakeChecks.laidMetH_plain _ _ _ (by kernel_rfl)] at h
  have h2 := h.tail.tail
  have e : (Tryz.prog.globals[1]?).map (fun g => g.name) = (Rows.wordsRightRow.laid[2]?).map (·.1) := by kernel_rfl
  rw [hs] at e
  have e2 := Option.some.inj e
  subst e2
  exact Lib.tabIs_of_head (g := 1) (by kernel_rfl) gPT Tryz.underlying240 Tryz.underlying37 cells37 cellsP h2
end Go.Proofs.YtbbocbdoiealoaaGreatDoor
