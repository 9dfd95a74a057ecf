/- The reference model's products: what its functions return. · Powers by the reference model. · Inverses: what the model's helper and the program's test return. -/
import Derived.Test.YtlchelaohiojiabFill
import Derived.Test.YtlchelaohiojiabToField
import Derived.Test.YtlchelaohiojiabMakeArgs
namespace Go.Proofs.Ytlchelaohiojiab
open Go.RowKit
set_option linter.unusedVariables false



theorem cl_fld {m P n a b : Nat} (hF : Fld m P n) (hb : b < n) : prest (cl m a b) P = mul P a b := by
  unfold mul
  rw [cl_more (m := m) (by rw [hF.n]; exact hb) 5 hF.m5]


end Go.Proofs.Ytlchelaohiojiab
namespace Go.Proofs.Ytlchelaohiojiab
open Go.RowKit
set_option linter.unusedVariables false

end Go.Proofs.Ytlchelaohiojiab
namespace Go.Proofs.Ytlchelaohiojiab
open Go.RowKit
set_option linter.unusedVariables false

theorem ret_int2 {a b : Int} {v : Value} (h : a = b) : Ending.returned (.tuple #[.int .i64 a, v]) = .returned (.tuple #[.int .i64 b, v]) := by rw [h]

end Go.Proofs.Ytlchelaohiojiab
