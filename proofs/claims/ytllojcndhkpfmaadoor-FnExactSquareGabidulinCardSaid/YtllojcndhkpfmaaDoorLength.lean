/- Whether a word can have so many elements: the program's. -/
import Derived.Test.YtllojcndhkpfmaaDoorTop
namespace Go.Proofs.YtllojcndhkpfmaaDoor
open Go.RowKit
set_option linter.unusedVariables false

end Go.Proofs.YtllojcndhkpfmaaDoor
