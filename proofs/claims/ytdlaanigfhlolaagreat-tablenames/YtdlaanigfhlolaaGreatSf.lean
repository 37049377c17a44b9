import Derived.Test.YtdlaanigfhlolaaGreatSe
/-
  heavy.
-/
namespace Go.Proofs.YtdlaanigfhlolaaGreat
open Go.RowKit
set_option linter.unusedVariables false

end Go.Proofs.YtdlaanigfhlolaaGreat
