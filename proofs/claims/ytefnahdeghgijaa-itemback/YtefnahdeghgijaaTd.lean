import Derived.Test.YtefnahdeghgijaaSj
/-
  good.
-/
namespace Go.Proofs.Ytefnahdeghgijaa
open Go.RowKit
set_option linter.unusedVariables false

end Go.Proofs.Ytefnahdeghgijaa
