import Derived.Test.YtijpploeofdhbaaGreatSe
/-
  heavy.
-/
namespace Go.Proofs.YtijpploeofdhbaaGreat
open Go.RowKit
set_option linter.unusedVariables false

end Go.Proofs.YtijpploeofdhbaaGreat
