/- The checks of a field, an element and a number of times: what the model's and the program's function return. -/
import Derived.Test.YtcdhdgflgdmhdaaGiven
import Derived.Test.YtcdhdgflgdmhdaaSpecMul
import Derived.Test.YtcdhdgflgdmhdaaMakeArgs
namespace Go.Proofs.Ytcdhdgflgdmhdaa
open Go.RowKit
set_option linter.unusedVariables false


set_option maxHeartbeats 400000 in
theorem isTimes_yes (k : Int) (h1 : 0 ≤ k) (h2 : k ≤ 1000) (w : World) :
    Calls Try.prog 82 #[.int .i64 k] w fun e w' => e = .returned (.bool true) ∧ w = w' := by
  go_enter Try.func82, Try.ntmps82
  go_wp2
  go_ret
  exact ⟨ret_bool (by first | rfl | (simp; done) | (simp; omega)), rfl⟩
set_option maxHeartbeats 400000 in
theorem isTimes_no (k : Int) (h : k < 0 ∨ 1000 < k) (w : World) :
    Calls Try.prog 82 #[.int .i64 k] w fun e w' => e = .returned (.bool false) ∧ w = w' := by
  by_cases h1 : 0 ≤ k
  · have h2 : 1000 < k := by omega
    go_enter Try.func82, Try.ntmps82
    go_wp2
    go_ret
    exact ⟨ret_bool (by first | rfl | (simp; done) | (simp; omega)), rfl⟩
  · have h2 : k < 0 := by omega
    go_enter Try.func82, Try.ntmps82
    go_wp2
    go_ret
    exact ⟨ret_bool (by first | rfl | (simp; done) | (simp; omega)), rfl⟩

end Go.Proofs.Ytcdhdgflgdmhdaa
