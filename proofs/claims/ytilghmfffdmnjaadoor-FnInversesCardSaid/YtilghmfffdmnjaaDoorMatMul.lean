/- MulMatrices: the program and the model. -/
import Derived.Test.YtilghmfffdmnjaaDoorTimes2
import Derived.Test.YtilghmfffdmnjaaDoorStep
import Derived.StillTailTactics
namespace Go.Proofs.YtilghmfffdmnjaaDoor
open Go.RowKit Go.Joins
set_option linter.unusedVariables false

end Go.Proofs.YtilghmfffdmnjaaDoor
