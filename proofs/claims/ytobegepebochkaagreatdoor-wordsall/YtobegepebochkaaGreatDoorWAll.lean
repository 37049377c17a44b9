import Derived.WalkKit
import Derived.ProofKit
import Derived.OpenShut
import Derived.Below
import Derived.Deep.DeepHandedRow
import Derived.Deep.DeepWitnessRowRef
import Derived.Test.YtobegepebochkaaGreatDoorCards
import Derived.Test.YtobegepebochkaaGreatDoorTie
import Derived.Test.YtobegepebochkaaGreatDoorPbz
import Derived.Test.YtobegepebochkaaGreatDoorPca
set_option linter.unusedVariables false
set_option linter.unusedSimpArgs false
namespace Go.Proofs.YtobegepebochkaaGreatDoor.wordsAll
open Go.ChangeShapes Go.WideShapes Go.ChangeAt Go.RowKit
end Go.Proofs.YtobegepebochkaaGreatDoor.wordsAll
namespace Go.Proofs.YtobegepebochkaaGreatDoor
theorem wordsAll_card : Rows.WordsAllCardSaid := wordsAll.card
#print axioms wordsAll_card
end Go.Proofs.YtobegepebochkaaGreatDoor
