/- Squarings and sums by the program's methods. -/
import Derived.Test.YtfpahdbkcdpchaaMakeArgs
namespace Go.Proofs.Ytfpahdbkcdpchaa
open Go.RowKit
set_option linter.unusedVariables false


end Go.Proofs.Ytfpahdbkcdpchaa
