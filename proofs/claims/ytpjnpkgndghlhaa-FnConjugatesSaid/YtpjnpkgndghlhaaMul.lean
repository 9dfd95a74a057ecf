/- The product of two elements: what the model's and the program's function return. -/
import Derived.Test.YtpjnpkgndghlhaaGiven
import Derived.Test.YtpjnpkgndghlhaaInv
import Derived.Test.YtpjnpkgndghlhaaMakeArgs
namespace Go.Proofs.Ytpjnpkgndghlhaa
open Go.RowKit
set_option linter.unusedVariables false


set_option maxHeartbeats 400000 in
theorem implMulIn_A (d p : Int) (hf : fldI d p = false) (hl : -9223372036854775808 ≤ p) (hh : p ≤ 9223372036854775807) (a b : Int) (w : World) :
    Calls Try.prog 25 #[.agg #[.int .i64 d, .int .i64 p], .int .i64 a, .int .i64 b] w fun e w' => e = .returned (.tuple #[.int .i64 0, .int .i64 1]) ∧ Below w.heap.size w w' := by
  have HF := Lib.hid hf
  clear hf
  go_enter Try.func25, Try.ntmps25
  go_wp2_with (go_at_call 40; refine (calculatorFor_invalid _ _ HF.out hl hh _ _).mono ?_; rintro e w1 ⟨rfl, hb⟩)
  go_ret2
  exact ⟨rfl, (((Below.refl _ w).alloc (Nat.le_refl _) _).alloc (by simp) _).trans (hb.mono (by simp; omega))⟩
set_option maxHeartbeats 400000 in
theorem implMulIn_B (m P n : Nat) (hF : Fld m P n) (a b : Int) (h : (a < 0 ∨ (n : Int) ≤ a) ∨ (b < 0 ∨ (n : Int) ≤ b)) (w : World) :
    Calls Try.prog 25 #[.agg #[.int .i64 m, .int .i64 P], .int .i64 a, .int .i64 b] w fun e w' => e = .returned (.tuple #[.int .i64 0, .int .i64 2]) ∧ Below w.heap.size w w' := by
  have HH := Lib.hid h
  clear h
  go_enter Try.func25, Try.ntmps25
  go_wp2_with fail
  refine (calcFor2_B _ _ _ hF (w.heap.size + 1) a b HH.out _ (by simp) (by simp) (by simp)).mono ?_
  rintro e w1 ⟨rfl, hb⟩
  go_wp2
  go_ret2
  exact ⟨rfl, (((Below.refl _ w).alloc (Nat.le_refl _) _).alloc (by simp) _).trans (hb.mono (by simp; omega))⟩
set_option maxHeartbeats 400000 in
theorem implMulIn_C (m P n : Nat) (hF : Fld m P n) (a b : Nat) (ha : a < n) (hb : b < n) (w : World) :
    Calls Try.prog 25 #[.agg #[.int .i64 m, .int .i64 P], .int .i64 a, .int .i64 b] w fun e w' => e = .returned (.tuple #[.int .i64 (mul P a b), .int .i64 0]) ∧ Below w.heap.size w w' := by
  have h32 := hF.n32
  have hm := hF.mul_lt a b
  go_enter Try.func25, Try.ntmps25
  go_wp2_with fail
  refine (calcFor2_C _ _ _ hF (w.heap.size + 1) a b (by omega) (by omega) _ (by simp) (by simp) (by simp)).mono ?_
  rintro e w1 ⟨c, rfl, hb1, hC, hc⟩
  have e1 : IntKind.u8.wrap (a : Int) = a := by rw [IntKind.wrap_u8']; omega
  have e2 : IntKind.u8.wrap (b : Int) = b := by rw [IntKind.wrap_u8']; omega
  go_wp2_with (go_at_call 52; refine (product_any c m P n hF a b ha hb _ hC).mono ?_; rintro e w' ⟨rfl, rfl⟩)
  go_ret2
  exact ⟨rfl, (((Below.refl _ w).alloc (Nat.le_refl _) _).alloc (by simp) _).trans (hb1.mono (by simp; omega))⟩
end Go.Proofs.Ytpjnpkgndghlhaa
