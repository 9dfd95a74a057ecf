/- Squarings: what the model's and the program's function return. -/
import Derived.Test.YtpjnpkgndghlhaaInv
import Derived.Test.YtpjnpkgndghlhaaSqr
namespace Go.Proofs.Ytpjnpkgndghlhaa
open Go.RowKit
set_option linter.unusedVariables false


end Go.Proofs.Ytpjnpkgndghlhaa
