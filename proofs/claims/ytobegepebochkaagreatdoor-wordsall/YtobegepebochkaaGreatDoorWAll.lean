import Derived.WalkKit
import Derived.ProofKit
import Derived.OpenShut
import Derived.Below
import Derived.Deep.DeepHandedRow
import Derived.Deep.DeepWitnessRowRef
import Derived.Test.YtobegepebochkaaGreatDoorCards
import Derived.Test.YtobegepebochkaaGreatDoorTie
import Derived.Test.YtobegepebochkaaGreatDoorPca
import Derived.Test.YtobegepebochkaaGreatDoorPcb
set_option linter.unusedVariables false
set_option linter.unusedSimpArgs false
namespace Go.Proofs.YtobegepebochkaaGreatDoor.wordsAll
open Go.ChangeShapes Go.WideShapes Go.ChangeAt Go.RowKit
theorem plain (f : FuncId) (fn : Func) (hf : Tryz.pinned.checked.prog.funcNamed Tryz.f4.name = some f) (hfn : Tryz.pinned.checked.prog.funcs[f]? = some fn) :
    true = Tryz.pinned.checked.prog.looks [] ∧ ∀ (j : Nat) t, fn.params[j]? = some t → Tryz.pinned.checked.prog.wantsStandIn t = false := by
  obtain rfl : f = 4 := Option.some.inj ((show Tryz.prog.funcNamed Tryz.f4.name = some 4 by kernel_rfl).symm.trans hf) |>.symm
  obtain rfl : fn = Tryz.f4 := (Option.some.inj (Tryz.func4.symm.trans hfn)).symm
  refine ⟨by kernel_rfl, fun j t ht => ?_⟩
  rw [Tryz.params4] at ht
  rcases j with _ | j
  · simp at ht
    subst ht
    kernel_rfl
  simp at ht
end Go.Proofs.YtobegepebochkaaGreatDoor.wordsAll
namespace Go.Proofs.YtobegepebochkaaGreatDoor
theorem wordsAll_card : Rows.WordsAllCardSaid := wordsAll.card
#print axioms wordsAll_card
end Go.Proofs.YtobegepebochkaaGreatDoor
