/- Nothing: the zero value is declared by the translation. -/
import Derived.Test.YtfppacahjdpamaaDoorProg
namespace Go.Proofs.YtfppacahjdpamaaDoor
end Go.Proofs.YtfppacahjdpamaaDoor
