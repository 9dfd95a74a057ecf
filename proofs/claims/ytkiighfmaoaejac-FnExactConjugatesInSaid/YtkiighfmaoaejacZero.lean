/- Nothing: the translation names the zero value itself. -/
import Derived.Test.YtkiighfmaoaejacProg
namespace Go.Proofs.Ytkiighfmaoaejac
end Go.Proofs.Ytkiighfmaoaejac
