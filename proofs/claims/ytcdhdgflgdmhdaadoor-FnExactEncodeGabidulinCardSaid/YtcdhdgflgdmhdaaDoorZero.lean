/- Nothing: the zero value is declared by the translation. -/
import Derived.Test.YtcdhdgflgdmhdaaDoorProg
namespace Go.Proofs.YtcdhdgflgdmhdaaDoor
end Go.Proofs.YtcdhdgflgdmhdaaDoor
