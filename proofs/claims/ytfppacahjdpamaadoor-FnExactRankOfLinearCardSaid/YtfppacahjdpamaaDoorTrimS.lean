/- The model's trimming of a list. -/
import Derived.Test.YtfppacahjdpamaaDoorSv
namespace Go.Proofs.YtfppacahjdpamaaDoor
open Go.RowKit Go.Joins
set_option linter.unusedVariables false

end Go.Proofs.YtfppacahjdpamaaDoor
