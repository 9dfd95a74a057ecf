/- The laws' own functions over matrices: measured, copied, equal, marked, held. -/
import Derived.Test.YtfpahdbkcdpchaaThird
import Derived.Test.YtfpahdbkcdpchaaColPure
import Derived.Lib.SmallJoins
namespace Go.Proofs.Ytfpahdbkcdpchaa
open Go.RowKit Go.Joins
set_option linter.unusedVariables false



end Go.Proofs.Ytfpahdbkcdpchaa
