/- The reference model's products: what its functions return. · Powers by the reference model. · Inverses: what the model's helper and the program's test return. -/
import Derived.Test.YtlchelaohiojiaaDoorFill
import Derived.Test.YtlchelaohiojiaaDoorToField
import Derived.Test.YtlchelaohiojiaaDoorMakeArgs
namespace Go.Proofs.YtlchelaohiojiaaDoor
open Go.RowKit
set_option linter.unusedVariables false

theorem l01Ok_eq (d p : Int) (b : Bool) (h : fldI d p = b) (w : World) :
    Calls Tryd.prog 80 #[.agg #[.int .i64 d, .int .i64 p]] w fun e w' => e = .returned (.bool b) ∧ Below w.heap.size w w' := by
  rw [← h]; exact l01Ok_in d p w

set_option maxHeartbeats 400000 in
theorem l01Size_any (m P n : Nat) (hF : Fld m P n) (w : World) :
    Calls Tryd.prog 37 #[.agg #[.int .i64 m, .int .i64 P]] w fun e w' => e = .returned (.int .i64 n) ∧ Below w.heap.size w w' := by
  have HP := Lib.hid hF.pow
  have h5 := hF.m5
  go_enter Tryd.func37, Tryd.ntmps37
  go_wp2
  go_ret
  exact ⟨ret_int HP.out, (Below.refl _ w).alloc (Nat.le_refl _) _⟩

theorem cl_fld {m P n a b : Nat} (hF : Fld m P n) (hb : b < n) : prest (cl m a b) P = mul P a b := by
  unfold mul
  rw [cl_more (m := m) (by rw [hF.n]; exact hb) 5 hF.m5]

set_option maxHeartbeats 800000 in
theorem l01Mul_any (m P n : Nat) (hF : Fld m P n) (a b : Nat) (ha : a < n) (hb : b < n) (w : World) :
    Calls Tryd.prog 57 #[.agg #[.int .i64 m, .int .i64 P], .int .i64 a, .int .i64 b] w fun e w' => e = .returned (.int .i64 (mul P a b)) ∧ Below w.heap.size w w' := by
  have h32 := hF.n32
  have h5 := hF.m5
  have hP := hF.P64
  have hP2 := hF.P2
  have hcl : cl m a b < 1048576 := by
    have h1 := cl_lt (a := a) (b := b) (k := 5) (by omega) m
    have h2 : 2 ^ (5 + m) ≤ 2 ^ 10 := Nat.pow_le_pow_right (by omega) (by omega)
    omega
  have HM := Lib.hid (cl_fld (a := a) hF hb)
  go_enter Tryd.func57, Tryd.ntmps57
  go_wp2
  go_loop [7, 8] (fun s i => ∃ k : Nat, k ≤ m ∧ i = .int .i64 k ∧ s = .int .i64 (cl k a b)) (fun _ i => m - (intOf i).toNat)
  case atStart => exact ⟨0, Nat.zero_le _, rfl, rfl⟩
  case round =>
    obtain ⟨k, hk, rfl, rfl⟩ := hrel
    by_cases hlt : k < m
    · by_cases hbt : b / 2 ^ k % 2 = 1
      · have hb' := bit_yes (q := b) (k := k) (by omega) hbt
        have HB := Lib.hid hbt
        clear hbt
        go_wp2
        rw [mul_bits _ _ _ (by omega) (by omega)]
        go_round
        case rel => exact ⟨k + 1, by omega, by go_num, by simp only [cl]; rw [if_pos HB.out]⟩
        case measure => simp [intOf]; omega
      · have hb' := bit_no (q := b) (k := k) (by omega) hbt
        have HB := Lib.hid hbt
        clear hbt
        go_wp2
        go_round
        case rel => exact ⟨k + 1, by omega, by go_num, by simp only [cl]; rw [if_neg HB.out]⟩
        case measure => simp [intOf]; omega
    · obtain rfl : k = m := by omega
      go_wp2_with (go_at_call 84; refine (l01Rest_any _ _ (by omega) (by omega) (by omega) _).mono ?_; rintro e w' ⟨rfl, rfl⟩)
      go_ret
      exact ⟨ret_int (by rw [HM.out]), (Below.refl _ w).alloc (Nat.le_refl _) _⟩

end Go.Proofs.YtlchelaohiojiaaDoor
namespace Go.Proofs.YtlchelaohiojiaaDoor
open Go.RowKit
set_option linter.unusedVariables false

end Go.Proofs.YtlchelaohiojiaaDoor
namespace Go.Proofs.YtlchelaohiojiaaDoor
open Go.RowKit
set_option linter.unusedVariables false

theorem ret_int2 {a b : Int} {v : Value} (h : a = b) : Ending.returned (.tuple #[.int .i64 a, v]) = .returned (.tuple #[.int .i64 b, v]) := by rw [h]

end Go.Proofs.YtlchelaohiojiaaDoor
