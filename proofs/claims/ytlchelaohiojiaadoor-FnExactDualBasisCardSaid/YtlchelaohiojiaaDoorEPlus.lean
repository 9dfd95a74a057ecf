/- The sum of two elements: the program's. -/
import Derived.Test.YtlchelaohiojiaaDoorImplField
namespace Go.Proofs.YtlchelaohiojiaaDoor
open Go.RowKit
set_option linter.unusedVariables false

set_option maxHeartbeats 400000 in
theorem ePlus_any (a b : Nat) (ha : a < 256) (hb : b < 256) (w : World) :
    Calls Tryd.prog 79 #[.int .u8 a, .int .u8 b] w fun e w' => e = .returned (.int .u8 ((a ^^^ b : Nat) : Int)) ∧ w = w' := by
  have HX := Lib.hid (u8_xor_nat a b ha hb)
  go_enter Tryd.func79, Tryd.ntmps79
  go_wp2
  go_ret
  exact ⟨ret_int HX.out, rfl⟩
end Go.Proofs.YtlchelaohiojiaaDoor
