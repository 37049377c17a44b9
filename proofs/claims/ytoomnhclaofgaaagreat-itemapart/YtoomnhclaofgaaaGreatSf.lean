import Derived.Test.YtoomnhclaofgaaaGreatSe
/-
  heavy.
-/
namespace Go.Proofs.YtoomnhclaofgaaaGreat
open Go.RowKit
set_option linter.unusedVariables false

end Go.Proofs.YtoomnhclaofgaaaGreat
