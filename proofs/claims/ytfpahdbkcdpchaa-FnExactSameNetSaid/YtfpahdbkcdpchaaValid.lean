/- Whether a matrix is valid: the model and the program. -/
import Derived.Test.YtfpahdbkcdpchaaMat
import Derived.Test.YtfpahdbkcdpchaaIn
import Derived.Test.YtfpahdbkcdpchaaUnit
import Derived.Test.YtfpahdbkcdpchaaValidP
namespace Go.Proofs.Ytfpahdbkcdpchaa
open Go.RowKit Go.Joins
set_option linter.unusedVariables false



end Go.Proofs.Ytfpahdbkcdpchaa
