/- The program's calculator: its small methods. -/
import Derived.Test.YtejpjcdnhboooaaDoorImplField
import Derived.Test.YtejpjcdnhboooaaDoorFld
namespace Go.Proofs.YtejpjcdnhboooaaDoor
open Go.RowKit
set_option linter.unusedVariables false

set_option maxHeartbeats 400000 in
theorem size_any (c m P n : Nat) (hF : Fld m P n) (w : World) (hc : w.cell? ⟨c, 0, none⟩ = some (.int .i64 m)) :
    Calls Tryd.prog 59 #[.pointer (some ⟨c, 0, none⟩)] w fun e w' => e = .returned (.int .i64 n) ∧ w = w' := by
  have HP := Lib.hid hF.pow
  have h5 := hF.m5
  go_enter Tryd.func59, Tryd.ntmps59
  go_wp2
  go_ret
  exact ⟨ret_int HP.out, rfl⟩

set_option maxHeartbeats 400000 in
theorem has_yes (c m P n : Nat) (hF : Fld m P n) (a : Int) (h0 : 0 ≤ a) (h1 : a < n) (w : World) (hc : w.cell? ⟨c, 0, none⟩ = some (.int .i64 m)) :
    Calls Tryd.prog 68 #[.pointer (some ⟨c, 0, none⟩), .int .i64 a] w fun e w' => e = .returned (.bool true) ∧ w = w' := by
  go_enter Tryd.func68, Tryd.ntmps68
  go_wp2_with (go_at_call 59; refine (size_any _ _ _ _ hF _ hc).mono ?_; rintro e w' ⟨rfl, rfl⟩)
  go_ret
  exact ⟨ret_bool (by first | rfl | (simp; done) | (simp; omega)), rfl⟩

set_option maxHeartbeats 400000 in
theorem has_no (c m P n : Nat) (hF : Fld m P n) (a : Int) (h : a < 0 ∨ (n : Int) ≤ a) (w : World) (hc : w.cell? ⟨c, 0, none⟩ = some (.int .i64 m)) :
    Calls Tryd.prog 68 #[.pointer (some ⟨c, 0, none⟩), .int .i64 a] w fun e w' => e = .returned (.bool false) ∧ w = w' := by
  by_cases h0 : 0 ≤ a
  · have h1 : (n : Int) ≤ a := by omega
    go_enter Tryd.func68, Tryd.ntmps68
    go_wp2_with (go_at_call 59; refine (size_any _ _ _ _ hF _ hc).mono ?_; rintro e w' ⟨rfl, rfl⟩)
    go_ret
    exact ⟨ret_bool (by first | rfl | (simp; done) | (simp; omega)), rfl⟩
  · have h1 : a < 0 := by omega
    have g : decide (0 ≤ a) = false := by simp; omega
    go_enter Tryd.func68, Tryd.ntmps68
    go_wp2
    go_ret
    exact ⟨ret_bool (by first | rfl | (simp; done) | (simp; omega)), rfl⟩

theorem mul_bits (p q k : Nat) (hp : p < 1024) (hk : k ≤ 5) : bits .xor .i64 ((cl k p q : Nat) : Int) (wrap64 ((p : Int) * 2 ^ k)) = ((cl k p q ^^^ (p * 2 ^ k) : Nat) : Int) := by
  have h1 : cl k p q < 2 ^ (10 + k) := cl_lt (by omega) k
  have h2 : 2 ^ (10 + k) ≤ 2 ^ 15 := Nat.pow_le_pow_right (by omega) (by omega)
  have h3 : p * 2 ^ k < 2 ^ 10 * 2 ^ k := Nat.mul_lt_mul_of_pos_right (by omega) (Nat.two_pow_pos _)
  rw [← Nat.pow_add] at h3
  rw [shl_nat _ _ (by omega), i64_xor_nat _ _ (by omega) (by omega)]

set_option maxHeartbeats 400000 in
theorem polyProduct_any (p q : Nat) (hp : p < 1024) (hq : q < 1024) (w : World) :
    Calls Tryd.prog 62 #[.int .i64 p, .int .i64 q] w fun e w' => e = .returned (.int .i64 (cl 5 p q)) ∧ w = w' := by
  go_enter Tryd.func62, Tryd.ntmps62
  go_wp2
  go_loop [5, 7] (fun s i => ∃ k : Nat, k ≤ 5 ∧ i = .int .i64 k ∧ s = .int .i64 (cl k p q)) (fun _ i => 5 - (intOf i).toNat)
  case atStart => exact ⟨0, Nat.zero_le _, rfl, rfl⟩
  case round =>
    obtain ⟨k, hk, rfl, rfl⟩ := hrel
    by_cases hlt : k < 5
    · by_cases hb : q / 2 ^ k % 2 = 1
      · have hb' := bit_yes (q := q) (k := k) (by omega) hb
        have HB := Lib.hid hb
        clear hb
        go_wp2
        rw [mul_bits _ _ _ hp hk]
        go_round
        case rel => exact ⟨k + 1, by omega, by go_num, by simp only [cl]; rw [if_pos HB.out]⟩
        case measure => simp [intOf]; omega
      · have hb' := bit_no (q := q) (k := k) (by omega) hb
        have HB := Lib.hid hb
        clear hb
        go_wp2
        go_round
        case rel => exact ⟨k + 1, by omega, by go_num, by simp only [cl]; rw [if_neg HB.out]⟩
        case measure => simp [intOf]; omega
    · go_wp2
      go_ret
      exact ⟨ret_int (by rw [show k = 5 by omega]), rfl⟩
end Go.Proofs.YtejpjcdnhboooaaDoor
