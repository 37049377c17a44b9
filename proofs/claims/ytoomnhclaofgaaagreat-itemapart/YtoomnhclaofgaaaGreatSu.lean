import Derived.Test.YtoomnhclaofgaaaGreatSt
/-
  Give.
-/
namespace Go.Proofs.YtoomnhclaofgaaaGreat
open Go.RowKit
set_option linter.unusedVariables false

section
variable {w : World} {sb : Nat} {F : Nat → Prop} {B : Bl} {b c d e f g : Int} {A : Ab} {zs : List Int}

/-- A Set behind the first writes of Give. -/
def Ab.gave (A : Ab) (p k v : Nat) : Ab := ((A.stkn p k false).sgen p k v).stk (A.own p) (A.tk (A.own p) - 1)

end

end Go.Proofs.YtoomnhclaofgaaaGreat
