/- The program's calculator: whether all numbers of a list are elements. -/
import Derived.Test.YtlchelaohiojiabFill
import Derived.Test.YtlchelaohiojiabMt
import Derived.Test.YtlchelaohiojiabDivPure
namespace Go.Proofs.Ytlchelaohiojiab
open Go.RowKit
set_option linter.unusedVariables false

end Go.Proofs.Ytlchelaohiojiab
