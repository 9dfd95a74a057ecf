/- What the model checks of a field and two elements. -/
import Derived.Test.YtcdhdgflgdmhdaaSpecMul
namespace Go.Proofs.Ytcdhdgflgdmhdaa
open Go.RowKit
set_option linter.unusedVariables false



end Go.Proofs.Ytcdhdgflgdmhdaa
