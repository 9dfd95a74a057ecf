/- Elements as cells. -/
import Derived.Test.YtcdhdgflgdmhdaaTop
namespace Go.Proofs.Ytcdhdgflgdmhdaa
open Go.RowKit
theorem Try.infoE : (Try.prog.info? 79).map (fun i => (i.zero, i.size, i.bytes)) = some (some (.int .u8 0), 1, 1) := by kernel_rfl
end Go.Proofs.Ytcdhdgflgdmhdaa
