/- The reference model's products: what its functions return. · Powers by the reference model. · Inverses: what the model's helper and the program's test return. -/
import Derived.Test.YtfhalaohegdbhaaFill
import Derived.Test.YtfhalaohegdbhaaToField
import Derived.Test.YtfhalaohegdbhaaMakeArgs
namespace Go.Proofs.Ytfhalaohegdbhaa
open Go.RowKit
set_option linter.unusedVariables false

theorem l01Ok_eq (d p : Int) (b : Bool) (h : fldI d p = b) (w : World) :
    Calls Try.prog 43 #[.agg #[.int .i64 d, .int .i64 p]] w fun e w' => e = .returned (.bool b) ∧ Below w.heap.size w w' := by
  rw [← h]; exact l01Ok_in d p w

set_option maxHeartbeats 400000 in
theorem l01Size_any (m P n : Nat) (hF : Fld m P n) (w : World) :
    Calls Try.prog 61 #[.agg #[.int .i64 m, .int .i64 P]] w fun e w' => e = .returned (.int .i64 n) ∧ Below w.heap.size w w' := by
  have HP := Lib.hid hF.pow
  have h5 := hF.m5
  go_enter Try.func61, Try.ntmps61
  go_wp2
  go_ret
  exact ⟨ret_int HP.out, (Below.refl _ w).alloc (Nat.le_refl _) _⟩

theorem cl_fld {m P n a b : Nat} (hF : Fld m P n) (hb : b < n) : prest (cl m a b) P = mul P a b := by
  unfold mul
  rw [cl_more (m := m) (by rw [hF.n]; exact hb) 5 hF.m5]


end Go.Proofs.Ytfhalaohegdbhaa
namespace Go.Proofs.Ytfhalaohegdbhaa
open Go.RowKit
set_option linter.unusedVariables false

end Go.Proofs.Ytfhalaohegdbhaa
namespace Go.Proofs.Ytfhalaohegdbhaa
open Go.RowKit
set_option linter.unusedVariables false

theorem ret_int2 {a b : Int} {v : Value} (h : a = b) : Ending.returned (.tuple #[.int .i64 a, v]) = .returned (.tuple #[.int .i64 b, v]) := by rw [h]

end Go.Proofs.Ytfhalaohegdbhaa
