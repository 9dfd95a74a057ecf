/- Elements as cells. -/
import Derived.Test.YtfppacahjdpamaaDoorTop
namespace Go.Proofs.YtfppacahjdpamaaDoor
open Go.RowKit
theorem Tryd.infoE : (Tryd.prog.info? 49).map (fun i => (i.zero, i.size, i.bytes)) = some (some (.int .u8 0), 1, 1) := by kernel_rfl
end Go.Proofs.YtfppacahjdpamaaDoor
