/- Elements as cells. -/
import Derived.Test.YtllojcndhkpfmaaDoorTop
namespace Go.Proofs.YtllojcndhkpfmaaDoor
open Go.RowKit
theorem Tryd.infoE : (Tryd.prog.info? 66).map (fun i => (i.zero, i.size, i.bytes)) = some (some (.int .u8 0), 1, 1) := by kernel_rfl
end Go.Proofs.YtllojcndhkpfmaaDoor
