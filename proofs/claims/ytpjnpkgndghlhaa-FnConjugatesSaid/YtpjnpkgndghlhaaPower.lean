/- Powers: what the model's and the program's function return. -/
import Derived.Test.YtpjnpkgndghlhaaTimes
import Derived.Test.YtpjnpkgndghlhaaInv
namespace Go.Proofs.Ytpjnpkgndghlhaa
open Go.RowKit
set_option linter.unusedVariables false


set_option maxHeartbeats 400000 in
theorem implPowerIn_A (d p : Int) (hf : fldI d p = false) (hl : -9223372036854775808 ≤ p) (hh : p ≤ 9223372036854775807) (a k : Int) (w : World) :
    Calls Try.prog 31 #[.agg #[.int .i64 d, .int .i64 p], .int .i64 a, .int .i64 k] w fun e w' => e = .returned (.tuple #[.int .i64 0, .int .i64 1]) ∧ Below w.heap.size w w' := by
  have HF := Lib.hid hf
  clear hf
  go_enter Try.func31, Try.ntmps31
  go_wp2_with (go_at_call 57; refine (calcTimes_A _ _ HF.out hl hh _ _ _).mono ?_; rintro e w1 ⟨rfl, hb⟩)
  go_ret2
  exact ⟨rfl, ((Below.refl _ w).alloc (Nat.le_refl _) _).trans (hb.mono (by simp))⟩
set_option maxHeartbeats 400000 in
theorem implPowerIn_B (m P n : Nat) (hF : Fld m P n) (a k : Int) (h : (a < 0 ∨ (n : Int) ≤ a) ∨ (k < 0 ∨ 1000 < k)) (w : World) :
    Calls Try.prog 31 #[.agg #[.int .i64 m, .int .i64 P], .int .i64 a, .int .i64 k] w fun e w' => e = .returned (.tuple #[.int .i64 0, .int .i64 2]) ∧ Below w.heap.size w w' := by
  have HH := Lib.hid h
  clear h
  go_enter Try.func31, Try.ntmps31
  go_wp2_with (go_at_call 57; refine (calcTimes_B _ _ _ hF _ _ HH.out _).mono ?_; rintro e w1 ⟨rfl, hb⟩)
  go_ret2
  exact ⟨rfl, ((Below.refl _ w).alloc (Nat.le_refl _) _).trans (hb.mono (by simp))⟩
set_option maxHeartbeats 800000 in
theorem implPowerIn_C (m P n : Nat) (hF : Fld m P n) (a k : Nat) (ha : a < n) (hk : k ≤ 1000) (w : World) :
    Calls Try.prog 31 #[.agg #[.int .i64 m, .int .i64 P], .int .i64 a, .int .i64 k] w fun e w' => e = .returned (.tuple #[.int .i64 (pw P a k), .int .i64 0]) ∧ Below w.heap.size w w' := by
  have h32 := hF.n32
  go_enter Try.func31, Try.ntmps31
  go_wp2_with fail
  refine (calcTimes_C _ _ _ hF a ha _ (by omega) (by omega) _).mono ?_
  rintro e w1 ⟨c, rfl, hb1, hC, hc⟩
  have e1 : IntKind.u8.wrap (a : Int) = a := by rw [IntKind.wrap_u8']; omega
  go_wp2
  go_loop [10, 22] (fun s i => ∃ j : Nat, j ≤ k ∧ i = .int .i64 j ∧ s = .int .u8 (pw P a j)) (fun _ i => k - (intOf i).toNat)
  case atStart => exact ⟨0, Nat.zero_le _, rfl, rfl⟩
  case round =>
    obtain ⟨j, hj, rfl, rfl⟩ := hrel
    have hlt := pw_lt hF a j
    by_cases hjk : j < k
    · go_wp2_with (go_at_call 52; refine (product_any c m P n hF _ _ hlt ha _ hC).mono ?_; rintro e w' ⟨rfl, rfl⟩)
      go_round
      case rel => exact ⟨j + 1, by omega, by go_num, rfl⟩
      case measure => simp [intOf]; omega
    · obtain rfl : j = k := by omega
      go_wp2
      go_ret2
      exact ⟨rfl, ((Below.refl _ w).alloc (Nat.le_refl _) _).trans (hb1.mono (by simp))⟩
end Go.Proofs.Ytpjnpkgndghlhaa
