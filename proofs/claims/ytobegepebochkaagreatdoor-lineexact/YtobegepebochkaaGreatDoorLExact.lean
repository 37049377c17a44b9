import Derived.WalkKit
import Derived.ProofKit
import Derived.OpenShut
import Derived.Below
import Derived.Deep.DeepHandedRow
import Derived.Deep.DeepWitnessRowRef
import Derived.Test.YtobegepebochkaaGreatDoorCards
import Derived.Test.YtobegepebochkaaGreatDoorTie
import Derived.Test.YtobegepebochkaaGreatDoorRPca
set_option linter.unusedVariables false
set_option linter.unusedSimpArgs false
namespace Go.Proofs.YtobegepebochkaaGreatDoor.lineExact
open Go.ChangeShapes Go.WideShapes Go.ChangeAt Go.RowKit
theorem own : ownKnob Tryz.prog.godebug = none := by kernel_rfl
end Go.Proofs.YtobegepebochkaaGreatDoor.lineExact
namespace Go.Proofs.YtobegepebochkaaGreatDoor
theorem lineExact_card : Rows.LineExactCardSaid := lineExact.card
#print axioms lineExact_card
end Go.Proofs.YtobegepebochkaaGreatDoor
