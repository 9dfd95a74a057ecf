/- Whether a word can have so many elements: the program's. -/
import Derived.Test.YtcdhdgflgdmhdaaTop
namespace Go.Proofs.Ytcdhdgflgdmhdaa
open Go.RowKit
set_option linter.unusedVariables false

set_option maxHeartbeats 800000 in
theorem isLength_any (k : Int) (w : World) :
    Calls Try.prog 120 #[.int .i64 k] w fun e w' => e = .returned (.bool (decide (1 ≤ k ∧ k ≤ 5))) ∧ w = w' := by
  by_cases h1 : 1 ≤ k
  · by_cases h2 : k ≤ 5
    · go_enter Try.func120, Try.ntmps120
      go_wp2
      go_ret
      exact ⟨ret_bool (by simp; omega), rfl⟩
    · go_enter Try.func120, Try.ntmps120
      go_wp2
      go_ret
      exact ⟨ret_bool (by simp; omega), rfl⟩
  · go_enter Try.func120, Try.ntmps120
    go_wp2
    go_ret
    exact ⟨ret_bool (by simp; omega), rfl⟩
theorem isLength_eq (k : Int) (r : Bool) (h : decide (1 ≤ k ∧ k ≤ 5) = r) (w : World) :
    Calls Try.prog 120 #[.int .i64 k] w fun e w' => e = .returned (.bool r) ∧ w = w' := by rw [← h]; exact isLength_any k w
end Go.Proofs.Ytcdhdgflgdmhdaa
