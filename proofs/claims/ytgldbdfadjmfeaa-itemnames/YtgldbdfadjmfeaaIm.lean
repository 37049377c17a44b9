/-
  ItemNames' walk.
-/
import Derived.Test.YtgldbdfadjmfeaaIl
namespace Go.Proofs.Ytgldbdfadjmfeaa
open Go.RowKit
set_option linter.unusedVariables false

set_option maxRecDepth 100000 in
theorem inames_any (w : World) : Calls Try.prog 11 #[] w fun y w' => y = .returned (.bool true) ∧ w.grownBy w' none := by
  have hwk := fun W => iwakes W
  go_enter Try.func11, Try.ntmps11
  go_wp2_with (first | (go_at_call 45; go_must (refine (num_45 _ _).mono ?_); rintro y w' ⟨rfl, rfl⟩) | (go_at_call 49; go_must (refine (hwk _).mono ?_); rintro y w2 ⟨rfl, hf2⟩) | fail)
  go_ret
  exact ⟨rfl, hf2⟩

end Go.Proofs.Ytgldbdfadjmfeaa
