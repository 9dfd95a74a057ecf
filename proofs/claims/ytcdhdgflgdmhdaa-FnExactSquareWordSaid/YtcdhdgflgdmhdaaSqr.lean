/- The sum of two elements: the program's. · Squarings and sums by the program's methods. -/
import Derived.Test.YtcdhdgflgdmhdaaImplField
import Derived.Test.YtcdhdgflgdmhdaaMakeArgs
namespace Go.Proofs.Ytcdhdgflgdmhdaa
open Go.RowKit
set_option linter.unusedVariables false

set_option maxHeartbeats 400000 in
theorem ePlus_any (a b : Nat) (ha : a < 256) (hb : b < 256) (w : World) :
    Calls Try.prog 98 #[.int .u8 a, .int .u8 b] w fun e w' => e = .returned (.int .u8 ((a ^^^ b : Nat) : Int)) ∧ w = w' := by
  have HX := Lib.hid (u8_xor_nat a b ha hb)
  go_enter Try.func98, Try.ntmps98
  go_wp2
  go_ret
  exact ⟨ret_int HX.out, rfl⟩
end Go.Proofs.Ytcdhdgflgdmhdaa
namespace Go.Proofs.Ytcdhdgflgdmhdaa
open Go.RowKit
set_option linter.unusedVariables false


set_option maxHeartbeats 800000 in
theorem squared_any (c m P n : Nat) (hF : Fld m P n) (a : Nat) (ha : a < n) (k : Nat) (hk : k ≤ 1000000) (w : World) (hC : Calc c m P n w) :
    Calls Try.prog 100 #[.pointer (some ⟨c, 0, none⟩), .int .u8 a, .int .i64 k] w fun e w' => e = .returned (.int .u8 (sq P a k)) ∧ w = w' := by
  go_enter Try.func100, Try.ntmps100
  go_wp2
  go_loop [1, 8] (fun s i => ∃ j : Nat, j ≤ k ∧ i = .int .i64 j ∧ s = .int .u8 (sq P a j)) (fun _ i => k - (intOf i).toNat)
  case atStart => exact ⟨0, Nat.zero_le _, rfl, rfl⟩
  case round =>
    obtain ⟨j, hj, rfl, rfl⟩ := hrel
    have hlt := sq_lt hF ha j
    by_cases hjk : j < k
    · go_wp2_with (go_at_call 99; refine (product_any c m P n hF _ _ hlt hlt _ hC).mono ?_; rintro e w' ⟨rfl, rfl⟩)
      go_round
      case rel => exact ⟨j + 1, by omega, by go_num, rfl⟩
      case measure => simp [intOf]; omega
    · obtain rfl : j = k := by omega
      go_wp2
      go_ret
      exact ⟨rfl, rfl⟩
end Go.Proofs.Ytcdhdgflgdmhdaa
