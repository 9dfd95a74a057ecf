/- Squarings and sums by the program's methods. -/
import Derived.Test.YtlchelaohiojiaaMakeArgs
namespace Go.Proofs.Ytlchelaohiojiaa
open Go.RowKit
set_option linter.unusedVariables false


set_option maxHeartbeats 800000 in
theorem squared_any (c m P n : Nat) (hF : Fld m P n) (a : Nat) (ha : a < n) (k : Nat) (hk : k ≤ 1000000) (w : World) (hC : Calc c m P n w) :
    Calls Try.prog 133 #[.pointer (some ⟨c, 0, none⟩), .int .u8 a, .int .i64 k] w fun e w' => e = .returned (.int .u8 (sq P a k)) ∧ w = w' := by
  go_enter Try.func133, Try.ntmps133
  go_wp2
  go_loop [1, 8] (fun s i => ∃ j : Nat, j ≤ k ∧ i = .int .i64 j ∧ s = .int .u8 (sq P a j)) (fun _ i => k - (intOf i).toNat)
  case atStart => exact ⟨0, Nat.zero_le _, rfl, rfl⟩
  case round =>
    obtain ⟨j, hj, rfl, rfl⟩ := hrel
    have hlt := sq_lt hF ha j
    by_cases hjk : j < k
    · go_wp2_with (go_at_call 64; refine (product_any c m P n hF _ _ hlt hlt _ hC).mono ?_; rintro e w' ⟨rfl, rfl⟩)
      go_round
      case rel => exact ⟨j + 1, by omega, by go_num, rfl⟩
      case measure => simp [intOf]; omega
    · obtain rfl : j = k := by omega
      go_wp2
      go_ret
      exact ⟨rfl, rfl⟩
end Go.Proofs.Ytlchelaohiojiaa
