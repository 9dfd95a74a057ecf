/- Squarings and sums by the program's methods. -/
import Derived.Test.YtljaabmemjehpaaMakeArgs
namespace Go.Proofs.Ytljaabmemjehpaa
open Go.RowKit
set_option linter.unusedVariables false


end Go.Proofs.Ytljaabmemjehpaa
