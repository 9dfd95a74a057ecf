/- Nothing: the zero value is declared by the translation. -/
import Derived.Test.YtfppacahjdpamabProg
namespace Go.Proofs.Ytfppacahjdpamab
end Go.Proofs.Ytfppacahjdpamab
