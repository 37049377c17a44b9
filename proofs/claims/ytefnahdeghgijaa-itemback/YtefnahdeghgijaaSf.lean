import Derived.Test.YtefnahdeghgijaaSe
/-
  heavy.
-/
namespace Go.Proofs.Ytefnahdeghgijaa
open Go.RowKit
set_option linter.unusedVariables false

end Go.Proofs.Ytefnahdeghgijaa
