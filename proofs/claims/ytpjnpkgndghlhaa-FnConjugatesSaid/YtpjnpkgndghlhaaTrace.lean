/- Traces: what the model's and the program's function return. -/
import Derived.Test.YtpjnpkgndghlhaaEPlus
import Derived.Test.YtpjnpkgndghlhaaSquare
namespace Go.Proofs.Ytpjnpkgndghlhaa
open Go.RowKit
set_option linter.unusedVariables false

/-- The sum of what a becomes by k, and fewer, squarings. -/
def tr (P a : Nat) : Nat → Nat
  | 0 => 0
  | k + 1 => tr P a k ^^^ sq P a k
theorem tr_lt {m P n a : Nat} (hF : Fld m P n) (ha : a < n) : ∀ k, tr P a k < n
  | 0 => by have := hF.n2; simp [tr]; omega
  | k + 1 => by
    have h1 := tr_lt hF ha k
    have h2 := sq_lt hF ha k
    rw [← hF.n] at h1 h2 ⊢
    exact Nat.xor_lt_two_pow h1 h2

set_option maxHeartbeats 800000 in
theorem trace_any (c m P n : Nat) (hF : Fld m P n) (a : Nat) (ha : a < n) (w : World) (hC : Calc c m P n w) :
    Calls Try.prog 58 #[.pointer (some ⟨c, 0, none⟩), .int .u8 a] w fun e w' => e = .returned (.int .u8 (tr P a m)) ∧ w = w' := by
  have hD := hC.deg
  have h32 := hF.n32
  have hm5 := hF.m5
  go_enter Try.func58, Try.ntmps58
  go_wp2
  go_loop [5, 11] (fun s i => ∃ j : Nat, j ≤ m ∧ i = .int .i64 j ∧ s = .int .u8 (tr P a j)) (fun _ i => m - (intOf i).toNat)
  case atStart => exact ⟨0, Nat.zero_le _, rfl, rfl⟩
  case round =>
    obtain ⟨j, hj, rfl, rfl⟩ := hrel
    have hlt := tr_lt hF ha j
    have hl2 := sq_lt hF ha j
    by_cases hjk : j < m
    · go_wp2_with (first | (go_at_call 61; refine (squared_any c m P n hF _ ha _ (by omega) _ hC).mono ?_; rintro e w' ⟨rfl, rfl⟩) | (go_at_call 60; refine (ePlus_any _ _ (by omega) (by omega) _).mono ?_; rintro e w' ⟨rfl, rfl⟩))
      go_round
      case rel => exact ⟨j + 1, by omega, by go_num, rfl⟩
      case measure => simp [intOf]; omega
    · obtain rfl : j = m := by omega
      go_wp2
      go_ret
      exact ⟨rfl, rfl⟩

end Go.Proofs.Ytpjnpkgndghlhaa
