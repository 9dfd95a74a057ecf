/- Nothing: the zero value is declared by the translation. -/
import Derived.Test.YtilghmfffdmnjaaDoorProg
namespace Go.Proofs.YtilghmfffdmnjaaDoor
end Go.Proofs.YtilghmfffdmnjaaDoor
