/- The product of two elements: what the model's and the program's function return. -/
import Derived.Test.YtlchelaohiojiaaGiven
import Derived.Test.YtlchelaohiojiaaInv
import Derived.Test.YtlchelaohiojiaaMakeArgs
namespace Go.Proofs.Ytlchelaohiojiaa
open Go.RowKit
set_option linter.unusedVariables false

set_option maxHeartbeats 400000 in
theorem specMulIn_A (d p : Int) (hf : fldI d p = false) (a b : Int) (w : World) :
    Calls Try.prog 95 #[.agg #[.int .i64 d, .int .i64 p], .int .i64 a, .int .i64 b] w fun e w' => e = .returned (.tuple #[.int .i64 0, .int .i64 1]) ∧ Below w.heap.size w w' := by
  have HF := Lib.hid hf
  clear hf
  go_enter Try.func95, Try.ntmps95
  go_wp2_with (go_at_call 146; refine (l01Given_A _ _ HF.out _ _ _).mono ?_; rintro e w1 ⟨rfl, hb⟩)
  go_ret2
  exact ⟨rfl, ((Below.refl _ w).alloc (Nat.le_refl _) _).trans (hb.mono (by simp))⟩
set_option maxHeartbeats 400000 in
theorem specMulIn_B (m P n : Nat) (hF : Fld m P n) (a b : Int) (h : (a < 0 ∨ (n : Int) ≤ a) ∨ (b < 0 ∨ (n : Int) ≤ b)) (w : World) :
    Calls Try.prog 95 #[.agg #[.int .i64 m, .int .i64 P], .int .i64 a, .int .i64 b] w fun e w' => e = .returned (.tuple #[.int .i64 0, .int .i64 2]) ∧ Below w.heap.size w w' := by
  have HH := Lib.hid h
  clear h
  go_enter Try.func95, Try.ntmps95
  go_wp2_with (go_at_call 146; refine (l01Given_B _ _ _ hF _ _ HH.out _).mono ?_; rintro e w1 ⟨rfl, hb⟩)
  go_ret2
  exact ⟨rfl, ((Below.refl _ w).alloc (Nat.le_refl _) _).trans (hb.mono (by simp))⟩
set_option maxHeartbeats 400000 in
theorem specMulIn_C (m P n : Nat) (hF : Fld m P n) (a b : Nat) (ha : a < n) (hb : b < n) (w : World) :
    Calls Try.prog 95 #[.agg #[.int .i64 m, .int .i64 P], .int .i64 a, .int .i64 b] w fun e w' => e = .returned (.tuple #[.int .i64 (mul P a b), .int .i64 0]) ∧ Below w.heap.size w w' := by
  go_enter Try.func95, Try.ntmps95
  have h0 := FAt.start w m P 25
  go_wp2_with fail
  refine (l01Given_C _ _ _ hF _ _ ha hb _).mono ?_
  rintro e w1 ⟨rfl, hb1⟩
  have h1 := h0.next hb1
  have z1 := h1.z; have c1 := h1.c0; have d1 := h1.c1
  clear hb1
  go_wp2_with fail
  refine (l01Mul_any _ _ _ hF _ _ ha hb _).mono ?_
  rintro e w2 ⟨rfl, hb2⟩
  go_wp2
  go_ret2
  exact ⟨rfl, (h1.next hb2).b⟩

set_option maxHeartbeats 400000 in
theorem implMulIn_A (d p : Int) (hf : fldI d p = false) (hl : -9223372036854775808 ≤ p) (hh : p ≤ 9223372036854775807) (a b : Int) (w : World) :
    Calls Try.prog 13 #[.agg #[.int .i64 d, .int .i64 p], .int .i64 a, .int .i64 b] w fun e w' => e = .returned (.tuple #[.int .i64 0, .int .i64 1]) ∧ Below w.heap.size w w' := by
  have HF := Lib.hid hf
  clear hf
  go_enter Try.func13, Try.ntmps13
  go_wp2_with (go_at_call 63; refine (calculatorFor_invalid _ _ HF.out hl hh _ _).mono ?_; rintro e w1 ⟨rfl, hb⟩)
  go_ret2
  exact ⟨rfl, (((Below.refl _ w).alloc (Nat.le_refl _) _).alloc (by simp) _).trans (hb.mono (by simp; omega))⟩
set_option maxHeartbeats 400000 in
theorem implMulIn_B (m P n : Nat) (hF : Fld m P n) (a b : Int) (h : (a < 0 ∨ (n : Int) ≤ a) ∨ (b < 0 ∨ (n : Int) ≤ b)) (w : World) :
    Calls Try.prog 13 #[.agg #[.int .i64 m, .int .i64 P], .int .i64 a, .int .i64 b] w fun e w' => e = .returned (.tuple #[.int .i64 0, .int .i64 2]) ∧ Below w.heap.size w w' := by
  have HH := Lib.hid h
  clear h
  go_enter Try.func13, Try.ntmps13
  go_wp2_with fail
  refine (calcFor2_B _ _ _ hF (w.heap.size + 1) a b HH.out _ (by simp) (by simp) (by simp)).mono ?_
  rintro e w1 ⟨rfl, hb⟩
  go_wp2
  go_ret2
  exact ⟨rfl, (((Below.refl _ w).alloc (Nat.le_refl _) _).alloc (by simp) _).trans (hb.mono (by simp; omega))⟩
set_option maxHeartbeats 400000 in
theorem implMulIn_C (m P n : Nat) (hF : Fld m P n) (a b : Nat) (ha : a < n) (hb : b < n) (w : World) :
    Calls Try.prog 13 #[.agg #[.int .i64 m, .int .i64 P], .int .i64 a, .int .i64 b] w fun e w' => e = .returned (.tuple #[.int .i64 (mul P a b), .int .i64 0]) ∧ Below w.heap.size w w' := by
  have h32 := hF.n32
  have hm := hF.mul_lt a b
  go_enter Try.func13, Try.ntmps13
  go_wp2_with fail
  refine (calcFor2_C _ _ _ hF (w.heap.size + 1) a b (by omega) (by omega) _ (by simp) (by simp) (by simp)).mono ?_
  rintro e w1 ⟨c, rfl, hb1, hC, hc⟩
  have e1 : IntKind.u8.wrap (a : Int) = a := by rw [IntKind.wrap_u8']; omega
  have e2 : IntKind.u8.wrap (b : Int) = b := by rw [IntKind.wrap_u8']; omega
  go_wp2_with (go_at_call 64; refine (product_any c m P n hF a b ha hb _ hC).mono ?_; rintro e w' ⟨rfl, rfl⟩)
  go_ret2
  exact ⟨rfl, (((Below.refl _ w).alloc (Nat.le_refl _) _).alloc (by simp) _).trans (hb1.mono (by simp; omega))⟩
end Go.Proofs.Ytlchelaohiojiaa
