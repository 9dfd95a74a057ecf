/- The reference model's products: what its functions return. · Powers by the reference model. · Inverses: what the model's helper and the program's test return. -/
import Derived.Test.YtlchelaohiojiaaFill
import Derived.Test.YtlchelaohiojiaaToField
import Derived.Test.YtlchelaohiojiaaMakeArgs
namespace Go.Proofs.Ytlchelaohiojiaa
open Go.RowKit
set_option linter.unusedVariables false

theorem l01Ok_eq (d p : Int) (b : Bool) (h : fldI d p = b) (w : World) :
    Calls Try.prog 75 #[.agg #[.int .i64 d, .int .i64 p]] w fun e w' => e = .returned (.bool b) ∧ Below w.heap.size w w' := by
  rw [← h]; exact l01Ok_in d p w

set_option maxHeartbeats 400000 in
theorem l01Size_any (m P n : Nat) (hF : Fld m P n) (w : World) :
    Calls Try.prog 62 #[.agg #[.int .i64 m, .int .i64 P]] w fun e w' => e = .returned (.int .i64 n) ∧ Below w.heap.size w w' := by
  have HP := Lib.hid hF.pow
  have h5 := hF.m5
  go_enter Try.func62, Try.ntmps62
  go_wp2
  go_ret
  exact ⟨ret_int HP.out, (Below.refl _ w).alloc (Nat.le_refl _) _⟩

theorem cl_fld {m P n a b : Nat} (hF : Fld m P n) (hb : b < n) : prest (cl m a b) P = mul P a b := by
  unfold mul
  rw [cl_more (m := m) (by rw [hF.n]; exact hb) 5 hF.m5]

set_option maxHeartbeats 800000 in
theorem l01Mul_any (m P n : Nat) (hF : Fld m P n) (a b : Nat) (ha : a < n) (hb : b < n) (w : World) :
    Calls Try.prog 147 #[.agg #[.int .i64 m, .int .i64 P], .int .i64 a, .int .i64 b] w fun e w' => e = .returned (.int .i64 (mul P a b)) ∧ Below w.heap.size w w' := by
  have h32 := hF.n32
  have h5 := hF.m5
  have hP := hF.P64
  have hP2 := hF.P2
  have hcl : cl m a b < 1048576 := by
    have h1 := cl_lt (a := a) (b := b) (k := 5) (by omega) m
    have h2 : 2 ^ (5 + m) ≤ 2 ^ 10 := Nat.pow_le_pow_right (by omega) (by omega)
    omega
  have HM := Lib.hid (cl_fld (a := a) hF hb)
  go_enter Try.func147, Try.ntmps147
  go_wp2
  go_loop [7, 8] (fun s i => ∃ k : Nat, k ≤ m ∧ i = .int .i64 k ∧ s = .int .i64 (cl k a b)) (fun _ i => m - (intOf i).toNat)
  case atStart => exact ⟨0, Nat.zero_le _, rfl, rfl⟩
  case round =>
    obtain ⟨k, hk, rfl, rfl⟩ := hrel
    by_cases hlt : k < m
    · by_cases hbt : b / 2 ^ k % 2 = 1
      · have hb' := bit_yes (q := b) (k := k) (by omega) hbt
        have HB := Lib.hid hbt
        clear hbt
        go_wp2
        rw [mul_bits _ _ _ (by omega) (by omega)]
        go_round
        case rel => exact ⟨k + 1, by omega, by go_num, by simp only [cl]; rw [if_pos HB.out]⟩
        case measure => simp [intOf]; omega
      · have hb' := bit_no (q := b) (k := k) (by omega) hbt
        have HB := Lib.hid hbt
        clear hbt
        go_wp2
        go_round
        case rel => exact ⟨k + 1, by omega, by go_num, by simp only [cl]; rw [if_neg HB.out]⟩
        case measure => simp [intOf]; omega
    · obtain rfl : k = m := by omega
      go_wp2_with (go_at_call 169; refine (l01Rest_any _ _ (by omega) (by omega) (by omega) _).mono ?_; rintro e w' ⟨rfl, rfl⟩)
      go_ret
      exact ⟨ret_int (by rw [HM.out]), (Below.refl _ w).alloc (Nat.le_refl _) _⟩

end Go.Proofs.Ytlchelaohiojiaa
namespace Go.Proofs.Ytlchelaohiojiaa
open Go.RowKit
set_option linter.unusedVariables false

set_option maxHeartbeats 800000 in
theorem l01Power_any (m P n : Nat) (hF : Fld m P n) (a : Nat) (ha : a < n) (k : Nat) (hk : k ≤ 1000000) (w : World) :
    Calls Try.prog 166 #[.agg #[.int .i64 m, .int .i64 P], .int .i64 a, .int .i64 k] w fun e w' => e = .returned (.int .i64 (pw P a k)) ∧ Below w.heap.size w w' := by
  go_enter Try.func166, Try.ntmps166
  go_wp2
  go_loopw [2, 7] (fun i s wr => ∃ j : Nat, j ≤ k ∧ i = .int .i64 ((k - j : Nat) : Int) ∧ s = .int .i64 (pw P a j) ∧ FAt w m P wr) (fun i _ _ => (intOf i).toNat)
  case atStart => exact ⟨0, Nat.zero_le _, rfl, rfl, FAt.start w m P 25⟩
  case round =>
    obtain ⟨j, hj, rfl, rfl, hA⟩ := hrel
    have z1 := hA.z; have c1 := hA.c0; have d1 := hA.c1
    obtain ⟨i, hi⟩ : ∃ i : Nat, k - j = i := ⟨_, rfl⟩
    have hlt := pw_lt hF a j
    have hik : i ≤ k := by omega
    rw [hi]
    by_cases hlt0 : 0 < i
    · have HI := Lib.hid hi
      clear hi
      go_wp2_with fail
      refine (l01Mul_any _ _ _ hF _ _ hlt ha _).mono ?_
      rintro e w2 ⟨rfl, hb⟩
      have h2 := hA.next hb
      clear hb
      go_wp2
      go_roundw
      case rel => exact ⟨j + 1, by have := HI.out; omega, by have := HI.out; rw [show k - (j + 1) = i - 1 by omega]; go_num, rfl, h2⟩
      case measure => simp [intOf]; omega
    · have HI := Lib.hid hi
      clear hi
      go_wp2
      go_ret
      exact ⟨ret_int (by have := HI.out; rw [show j = k by omega]), hA.b⟩
end Go.Proofs.Ytlchelaohiojiaa
namespace Go.Proofs.Ytlchelaohiojiaa
open Go.RowKit
set_option linter.unusedVariables false

theorem ret_int2 {a b : Int} {v : Value} (h : a = b) : Ending.returned (.tuple #[.int .i64 a, v]) = .returned (.tuple #[.int .i64 b, v]) := by rw [h]
set_option maxHeartbeats 2000000 in
theorem l01Inverse_any (m P n : Nat) (hF : Fld m P n) (a : Nat) (ha : a < n) (w : World) :
    Calls Try.prog 141 #[.agg #[.int .i64 m, .int .i64 P], .int .i64 a] w fun e w' => e = .returned (.int .i64 (pw P a (n - 2))) ∧ Below w.heap.size w w' := by
  have hn := hF.n2
  have h32 := hF.n32
  have e0 : (n : Int) - 2 = ((n - 2 : Nat) : Int) := by omega
  have E0 := Lib.hid e0
  clear e0
  go_enter Try.func141, Try.ntmps141
  have hA := (FAt.start w m P 25).drew
  have ew : IntKind.i64.wrap ((n : Int) - 2) = (n : Int) - 2 := by rw [IntKind.wrap_i64]; omega
  go_wp2
  go_region_held3 (fun w' => w'.cell? ⟨w.heap.size, 0, none⟩ = some (.int .i64 m) ∧ w'.cell? ⟨w.heap.size, 1, none⟩ = some (.int .i64 P) ∧ FAt w m P w') (first | exact ⟨hA.c0, hA.c1, hA⟩ | exact ⟨by assumption, by assumption, by assumption⟩) (first | (go_at_call 62; refine (l01Size_any _ _ _ hF _).mono ?_; rintro e w1 ⟨rfl, hb1⟩; have k1 : FAt w m P w1 := FAt.next (by assumption) hb1; have q0 := k1.c0; have q1 := k1.c1; clear hb1) | (go_at_call 166; rw [E0.out]; refine (l01Power_any _ _ _ hF _ ha _ (by omega) _).mono ?_; rintro e w2 ⟨rfl, hb2⟩; have k2 : FAt w m P w2 := FAt.next (by assumption) hb2; have q2 := k2.c0; have q3 := k2.c1; clear hb2))
  all_goals go_wp2
  all_goals go_ret
  all_goals exact ⟨rfl, FAt.b (by assumption)⟩

end Go.Proofs.Ytlchelaohiojiaa
