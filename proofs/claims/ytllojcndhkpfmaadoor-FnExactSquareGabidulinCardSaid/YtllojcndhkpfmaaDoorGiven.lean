/- What the model checks of a field and two elements. -/
import Derived.Test.YtllojcndhkpfmaaDoorSpecMul
namespace Go.Proofs.YtllojcndhkpfmaaDoor
open Go.RowKit
set_option linter.unusedVariables false



end Go.Proofs.YtllojcndhkpfmaaDoor
