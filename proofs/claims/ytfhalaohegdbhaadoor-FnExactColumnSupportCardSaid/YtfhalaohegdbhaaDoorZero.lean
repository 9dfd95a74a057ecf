/- Nothing: the zero value is declared by the translation. -/
import Derived.Test.YtfhalaohegdbhaaDoorProg
namespace Go.Proofs.YtfhalaohegdbhaaDoor
end Go.Proofs.YtfhalaohegdbhaaDoor
