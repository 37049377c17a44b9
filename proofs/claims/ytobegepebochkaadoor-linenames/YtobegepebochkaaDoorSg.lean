/-
  LineNames.
-/
import Derived.Test.YtobegepebochkaaDoorTx
import Derived.Great.Walk
namespace Go.Proofs.YtobegepebochkaaDoor
open Go Go.RowKit Go.Shelf
set_option linter.unusedVariables false
set_option linter.unusedSimpArgs false

set_option maxRecDepth 100000 in
set_option maxHeartbeats 4000000 in
theorem names_3 {w : World} (hE : Er w) : Calls Tryd.prog 3 #[] w fun e w' => e = .returned (.bool true) ∧ w.grownBy w' none := by
  have h5 := wakes_48 hE
  go_enter Tryd.func3, Tryd.ntmps3
  go_wp2_with (go_at_call 5; go_must ((with_reducible refine h5.mono ?_); rintro e w2 ⟨rfl, hg⟩))
  go_ret
  exact ⟨rfl, hg⟩
end Go.Proofs.YtobegepebochkaaDoor
