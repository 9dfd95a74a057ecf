/- Nothing: the zero value is declared by the translation. -/
import Derived.Test.YtfhalaohegdbhaaProg
namespace Go.Proofs.Ytfhalaohegdbhaa
end Go.Proofs.Ytfhalaohegdbhaa
