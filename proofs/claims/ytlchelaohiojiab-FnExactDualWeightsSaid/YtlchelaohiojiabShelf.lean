/- What the library function that measures a number in bits returns, laid at this translation. -/
import Derived.Shelf.Strconv.Itoa0
import Derived.Test.YtlchelaohiojiabProg
namespace Go.Proofs
open Go.Shelf
end Go.Proofs
