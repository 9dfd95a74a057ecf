/- Nothing: the zero value is declared by the translation. -/
import Derived.Test.YtlchelaohiojiaaDoorProg
namespace Go.Proofs.YtlchelaohiojiaaDoor
end Go.Proofs.YtlchelaohiojiaaDoor
