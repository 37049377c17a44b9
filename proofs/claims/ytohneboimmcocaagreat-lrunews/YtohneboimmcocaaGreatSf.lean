import Derived.Test.YtohneboimmcocaaGreatSe
/-
  heavy.
-/
namespace Go.Proofs.YtohneboimmcocaaGreat
open Go.RowKit
set_option linter.unusedVariables false

end Go.Proofs.YtohneboimmcocaaGreat
