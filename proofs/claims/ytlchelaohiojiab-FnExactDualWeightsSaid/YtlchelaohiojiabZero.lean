/- The calculator's zero value, where the translation is small and does not name it itself. -/
import Derived.Test.YtlchelaohiojiabProg
import Derived.WalkKit
namespace Go.Proofs

end Go.Proofs
