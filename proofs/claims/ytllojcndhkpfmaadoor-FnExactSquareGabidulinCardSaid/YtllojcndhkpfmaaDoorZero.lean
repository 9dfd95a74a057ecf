/- Nothing: the zero value is declared by the translation. -/
import Derived.Test.YtllojcndhkpfmaaDoorProg
namespace Go.Proofs.YtllojcndhkpfmaaDoor
end Go.Proofs.YtllojcndhkpfmaaDoor
