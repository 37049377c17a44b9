import Derived.Test.YtoomnhclaofgaaaGreatSj
/-
  good.
-/
namespace Go.Proofs.YtoomnhclaofgaaaGreat
open Go.RowKit
set_option linter.unusedVariables false

end Go.Proofs.YtoomnhclaofgaaaGreat
