/- Traces: what the model's and the program's function return. -/
import Derived.Test.YtlchelaohiojiaaDoorEPlus
import Derived.Test.YtlchelaohiojiaaDoorSquare
namespace Go.Proofs.YtlchelaohiojiaaDoor
open Go.RowKit
set_option linter.unusedVariables false

/-- The sum of what a becomes by k, and fewer, squarings. -/
def tr (P a : Nat) : Nat → Nat
  | 0 => 0
  | k + 1 => tr P a k ^^^ sq P a k
theorem tr_lt {m P n a : Nat} (hF : Fld m P n) (ha : a < n) : ∀ k, tr P a k < n
  | 0 => by have := hF.n2; simp [tr]; omega
  | k + 1 => by
    have h1 := tr_lt hF ha k
    have h2 := sq_lt hF ha k
    rw [← hF.n] at h1 h2 ⊢
    exact Nat.xor_lt_two_pow h1 h2

set_option maxHeartbeats 800000 in
theorem trace_any (c m P n : Nat) (hF : Fld m P n) (a : Nat) (ha : a < n) (w : World) (hC : Calc c m P n w) :
    Calls Tryd.prog 48 #[.pointer (some ⟨c, 0, none⟩), .int .u8 a] w fun e w' => e = .returned (.int .u8 (tr P a m)) ∧ w = w' := by
  have hD := hC.deg
  have h32 := hF.n32
  have hm5 := hF.m5
  go_enter Tryd.func48, Tryd.ntmps48
  go_wp2
  go_loop [5, 11] (fun s i => ∃ j : Nat, j ≤ m ∧ i = .int .i64 j ∧ s = .int .u8 (tr P a j)) (fun _ i => m - (intOf i).toNat)
  case atStart => exact ⟨0, Nat.zero_le _, rfl, rfl⟩
  case round =>
    obtain ⟨j, hj, rfl, rfl⟩ := hrel
    have hlt := tr_lt hF ha j
    have hl2 := sq_lt hF ha j
    by_cases hjk : j < m
    · go_wp2_with (first | (go_at_call 53; refine (squared_any c m P n hF _ ha _ (by omega) _ hC).mono ?_; rintro e w' ⟨rfl, rfl⟩) | (go_at_call 79; refine (ePlus_any _ _ (by omega) (by omega) _).mono ?_; rintro e w' ⟨rfl, rfl⟩))
      go_round
      case rel => exact ⟨j + 1, by omega, by go_num, rfl⟩
      case measure => simp [intOf]; omega
    · obtain rfl : j = m := by omega
      go_wp2
      go_ret
      exact ⟨rfl, rfl⟩

set_option maxHeartbeats 800000 in
theorem l01Trace_any (m P n : Nat) (hF : Fld m P n) (a : Nat) (ha : a < n) (w : World) :
    Calls Tryd.prog 56 #[.agg #[.int .i64 m, .int .i64 P], .int .i64 a] w fun e w' => e = .returned (.int .i64 (tr P a m)) ∧ Below w.heap.size w w' := by
  have h32 := hF.n32
  have hm5 := hF.m5
  go_enter Tryd.func56, Tryd.ntmps56
  go_wp2
  go_loopw [5, 6] (fun s i wr => ∃ j : Nat, j ≤ m ∧ i = .int .i64 j ∧ s = .int .i64 (tr P a j) ∧ FAt w m P wr) (fun _ i _ => m - (intOf i).toNat)
  case atStart => exact ⟨0, Nat.zero_le _, rfl, rfl, FAt.start w m P 25⟩
  case round =>
    obtain ⟨j, hj, rfl, rfl, hA⟩ := hrel
    have z1 := hA.z; have c1 := hA.c0; have d1 := hA.c1
    have hlt := tr_lt hF ha j
    have hl2 := sq_lt hF ha j
    by_cases hjk : j < m
    · go_wp2_with fail
      refine (l01Square_any _ _ _ hF _ ha _ (by omega) _).mono ?_
      rintro e w2 ⟨rfl, hb⟩
      have h2 := hA.next hb
      clear hb
      go_wp2
      rw [i64_xor_nat _ _ (by omega) (by omega)]
      go_roundw
      case rel => exact ⟨j + 1, by omega, by go_num, rfl, h2⟩
      case measure => simp [intOf]; omega
    · obtain rfl : j = m := by omega
      go_wp2
      go_ret
      exact ⟨rfl, hA.b⟩
end Go.Proofs.YtlchelaohiojiaaDoor
