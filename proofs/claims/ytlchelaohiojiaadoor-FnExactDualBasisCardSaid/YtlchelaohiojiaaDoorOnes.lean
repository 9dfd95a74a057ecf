/- The library's count of bits, at numbers below 32. -/
import Derived.Test.YtlchelaohiojiaaDoorFld
import Derived.Test.YtlchelaohiojiaaDoorIn
import Derived.Laws.BitsAllLaws
namespace Go.Proofs.YtlchelaohiojiaaDoor
open Go.RowKit
set_option linter.unusedVariables false

def ones5 (v : Nat) : Nat := v % 2 + v / 2 % 2 + v / 4 % 2 + v / 8 % 2 + v / 16 % 2
theorem ones5_one : ∀ v : Fin 32, ones5 v.val = 1 ↔ ∃ j : Fin 5, v.val = 2 ^ j.val := by decide
set_option maxHeartbeats 1600000 in
theorem onesCount_any (v : Nat) (hv : v < 32) (w : World) :
    Calls Tryd.prog 45 #[.int .u64 v] w fun e w' => e = .returned (.int .i64 (ones5 v : Nat)) ∧ w = w' := by
  go_enter Tryd.func45, Tryd.ntmps45
  go_wp2
  go_ret
  refine ⟨Eq.trans (b := Ending.returned (Value.int IntKind.i64 _)) rfl (congrArg (fun x => Ending.returned (Value.int IntKind.i64 x)) ?_), rfl⟩
  revert hv
  revert v
  decide +kernel
end Go.Proofs.YtlchelaohiojiaaDoor
