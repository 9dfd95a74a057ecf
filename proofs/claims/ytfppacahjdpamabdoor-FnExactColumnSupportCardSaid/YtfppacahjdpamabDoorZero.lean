/- Nothing: the zero value is declared by the translation. -/
import Derived.Test.YtfppacahjdpamabDoorProg
namespace Go.Proofs.YtfppacahjdpamabDoor
end Go.Proofs.YtfppacahjdpamabDoor
