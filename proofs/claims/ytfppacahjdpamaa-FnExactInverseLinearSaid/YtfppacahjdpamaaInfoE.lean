/- Elements as cells. -/
import Derived.Test.YtfppacahjdpamaaTop
namespace Go.Proofs.Ytfppacahjdpamaa
open Go.RowKit
theorem Try.infoE : (Try.prog.info? 71).map (fun i => (i.zero, i.size, i.bytes)) = some (some (.int .u8 0), 1, 1) := by kernel_rfl
end Go.Proofs.Ytfppacahjdpamaa
