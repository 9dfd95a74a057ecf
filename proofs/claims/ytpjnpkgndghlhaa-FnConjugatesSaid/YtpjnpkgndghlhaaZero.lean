/- Nothing: the zero value is declared by the translation. -/
import Derived.Test.YtpjnpkgndghlhaaProg
namespace Go.Proofs.Ytpjnpkgndghlhaa
end Go.Proofs.Ytpjnpkgndghlhaa
