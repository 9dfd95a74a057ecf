/- a2Below, of a list whose numbers are all below the one given: true. -/
import Derived.Test.YtpjnpkgndghlhaaGrid
namespace Go.Proofs.Ytpjnpkgndghlhaa
open Go.RowKit Go.Joins
set_option linter.unusedVariables false

set_option maxHeartbeats 800000 in
theorem a2Below_yes (g k cap N : Nat) (hN : N ≤ 1048576) (hk : k ≤ 1048576) (f : Nat → Nat) (hf : ∀ j, j < k → f j < N) (w : World) (hc : ∀ j, j < k → w.cell? ⟨g, j, none⟩ = some (.int .i64 (f j : Nat))) :
    Calls Try.prog 30 #[.slice (some ⟨g, 0, none⟩) k cap, .int .i64 N] w fun e w' => e = .returned (.bool true) ∧ w = w' := by
  have HF := Lib.hid hf
  have HC := Lib.hid hc
  clear hf hc
  go_enter Try.func30, Try.ntmps30
  go_wp2_with fail
  go_loop [5] (fun i => ∃ j : Nat, j ≤ k ∧ i = .int .i64 j) (fun i => k - (intOf i).toNat)
  case atStart => exact ⟨0, Nat.zero_le _, rfl⟩
  case round =>
    obtain ⟨j, hj, rfl⟩ := hrel
    by_cases hlt : j < k
    · have d := HC.out j hlt
      have h1 := HF.out j hlt
      generalize f j = x at d h1
      go_wp2_with fail
      go_round
      case rel => exact ⟨j + 1, by omega, by go_num⟩
      case measure => simp [intOf]; omega
    · obtain rfl : j = k := by omega
      go_wp2_with fail
      go_ret
      exact ⟨rfl, rfl⟩
end Go.Proofs.Ytpjnpkgndghlhaa
