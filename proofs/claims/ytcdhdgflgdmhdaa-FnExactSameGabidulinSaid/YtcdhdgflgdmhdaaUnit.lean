/- A row with one column alone: the program's. -/
import Derived.Test.YtcdhdgflgdmhdaaThird
import Derived.Test.YtcdhdgflgdmhdaaColPure
import Derived.Lib.SmallJoins
namespace Go.Proofs.Ytcdhdgflgdmhdaa
open Go.RowKit Go.Joins
set_option linter.unusedVariables false

set_option maxHeartbeats 400000 in
theorem unit_any (c : Nat) (hc : c ≤ 20) (w : World) :
    Calls Try.prog 121 #[.int .i64 c] w fun e w' => e = .returned (.int .u32 ((2 ^ c : Nat) : Int)) ∧ w = w' := by
  have hp : 2 ^ c ≤ 1048576 := Nat.pow_le_pow_right (n := 2) (by omega) hc
  go_enter Try.func121, Try.ntmps121
  go_wp2
  go_ret
  exact ⟨ret_int (by have e : ((2 ^ c : Nat) : Int) = 2 ^ c := by simp
                     rw [← e]; clear e; generalize 2 ^ c = P at hp ⊢; omega), rfl⟩
end Go.Proofs.Ytcdhdgflgdmhdaa
