/-
  ClassNames' walk.
-/
import Derived.Test.YtgldbdfadjmfeaaSx
namespace Go.Proofs.Ytgldbdfadjmfeaa
open Go.RowKit
set_option linter.unusedVariables false

set_option maxHeartbeats 1000000 in
theorem names_any (w : World) : Calls Try.prog 5 #[] w fun e w' => e = .returned (.bool true) ∧ w.grownBy w' none := by
  go_enter Try.func5, Try.ntmps5
  go_wp2_with (first | (go_at_call 18; go_must (refine (num_any _ _).mono ?_); rintro y w' ⟨rfl, rfl⟩) | (go_at_call 14; go_must (refine (wakes_10 _).mono ?_); rintro y w' ⟨rfl, hf⟩) | fail)
  go_ret
  exact ⟨rfl, hf⟩

end Go.Proofs.Ytgldbdfadjmfeaa
