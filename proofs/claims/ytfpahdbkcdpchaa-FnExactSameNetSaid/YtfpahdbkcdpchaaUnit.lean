/- A row with one column alone: the program's. -/
import Derived.Test.YtfpahdbkcdpchaaThird
import Derived.Test.YtfpahdbkcdpchaaColPure
import Derived.Lib.SmallJoins
namespace Go.Proofs.Ytfpahdbkcdpchaa
open Go.RowKit Go.Joins
set_option linter.unusedVariables false

end Go.Proofs.Ytfpahdbkcdpchaa
