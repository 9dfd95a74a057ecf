/- Nothing: the zero value is declared by the translation. -/
import Derived.Test.YtejpjcdnhboooaaDoorProg
namespace Go.Proofs.YtejpjcdnhboooaaDoor
end Go.Proofs.YtejpjcdnhboooaaDoor
