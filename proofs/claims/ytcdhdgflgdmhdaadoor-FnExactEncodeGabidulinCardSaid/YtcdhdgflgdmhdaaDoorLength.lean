/- Whether a word can have so many elements: the program's. -/
import Derived.Test.YtcdhdgflgdmhdaaDoorTop
namespace Go.Proofs.YtcdhdgflgdmhdaaDoor
open Go.RowKit
set_option linter.unusedVariables false

end Go.Proofs.YtcdhdgflgdmhdaaDoor
