/- MinimalPoly: what the model's and the program's function return. -/
import Derived.Test.YtpjnpkgndghlhaaGiven
import Derived.Test.YtpjnpkgndghlhaaMinS
import Derived.Test.YtpjnpkgndghlhaaMinI
namespace Go.Proofs.Ytpjnpkgndghlhaa
open Go.RowKit
set_option linter.unusedVariables false

set_option maxHeartbeats 400000 in
theorem specMinimalPoly_A (d p : Int) (hf : fldI d p = false) (a : Int) (w : World) :
    Calls Try.prog 17 #[.agg #[.int .i64 d, .int .i64 p], .int .i64 a] w fun e w' => e = .returned (.tuple #[.int .i64 0, .int .i64 1]) ∧ Below w.heap.size w w' := by
  have HF := Lib.hid hf
  clear hf
  go_enter Try.func17, Try.ntmps17
  go_wp2_with (go_at_call 37; refine (l01Given_A _ _ HF.out _ _ _).mono ?_; rintro e w1 ⟨rfl, hb⟩)
  go_ret2
  exact ⟨rfl, ((Below.refl _ w).alloc (Nat.le_refl _) _).trans (hb.mono (by simp))⟩
set_option maxHeartbeats 400000 in
theorem specMinimalPoly_B (m P n : Nat) (hF : Fld m P n) (a : Int) (h : a < 0 ∨ (n : Int) ≤ a) (w : World) :
    Calls Try.prog 17 #[.agg #[.int .i64 m, .int .i64 P], .int .i64 a] w fun e w' => e = .returned (.tuple #[.int .i64 0, .int .i64 2]) ∧ Below w.heap.size w w' := by
  have HH := Lib.hid (show (a < 0 ∨ (n : Int) ≤ a) ∨ ((0 : Int) < 0 ∨ (n : Int) ≤ 0) from .inl h)
  clear h
  go_enter Try.func17, Try.ntmps17
  go_wp2_with (go_at_call 37; refine (l01Given_B _ _ _ hF _ _ HH.out _).mono ?_; rintro e w1 ⟨rfl, hb⟩)
  go_ret2
  exact ⟨rfl, ((Below.refl _ w).alloc (Nat.le_refl _) _).trans (hb.mono (by simp))⟩
set_option maxHeartbeats 400000 in
theorem implMinimalPoly_A (d p : Int) (hf : fldI d p = false) (hl : -9223372036854775808 ≤ p) (hh : p ≤ 9223372036854775807) (a : Int) (w : World) :
    Calls Try.prog 19 #[.agg #[.int .i64 d, .int .i64 p], .int .i64 a] w fun e w' => e = .returned (.tuple #[.int .i64 0, .int .i64 1]) ∧ Below w.heap.size w w' := by
  have HF := Lib.hid hf
  clear hf
  go_enter Try.func19, Try.ntmps19
  go_wp2_with (go_at_call 40; refine (calculatorFor_invalid _ _ HF.out hl hh _ _).mono ?_; rintro e w1 ⟨rfl, hb⟩)
  go_ret2
  exact ⟨rfl, (((Below.refl _ w).alloc (Nat.le_refl _) _).alloc (by simp) _).trans (hb.mono (by simp; omega))⟩
set_option maxHeartbeats 400000 in
theorem implMinimalPoly_B (m P n : Nat) (hF : Fld m P n) (a : Int) (h : a < 0 ∨ (n : Int) ≤ a) (w : World) :
    Calls Try.prog 19 #[.agg #[.int .i64 m, .int .i64 P], .int .i64 a] w fun e w' => e = .returned (.tuple #[.int .i64 0, .int .i64 2]) ∧ Below w.heap.size w w' := by
  have HH := Lib.hid h
  clear h
  go_enter Try.func19, Try.ntmps19
  go_wp2_with fail
  refine (calcFor1_B _ _ _ hF (w.heap.size + 1) a HH.out _ (by simp) (by simp)).mono ?_
  rintro e w1 ⟨rfl, hb⟩
  go_wp2
  go_ret2
  exact ⟨rfl, (((Below.refl _ w).alloc (Nat.le_refl _) _).alloc (by simp) _).trans (hb.mono (by simp; omega))⟩
set_option maxHeartbeats 400000 in
theorem implMinimalPoly_C (m P n : Nat) (hF : Fld m P n) (a : Nat) (ha : a < n) (w : World) :
    Calls Try.prog 19 #[.agg #[.int .i64 m, .int .i64 P], .int .i64 a] w fun e w' => e = .returned (.tuple #[.int .i64 (mpV P a m), .int .i64 0]) ∧ Below w.heap.size w w' := by
  have h32 := hF.n32
  go_enter Try.func19, Try.ntmps19
  go_wp2_with fail
  refine (calcFor1_C _ _ _ hF (w.heap.size + 1) a (by omega) _ (by simp) (by simp)).mono ?_
  rintro e w1 ⟨c, rfl, hb1, hC, hc⟩
  have e1 : IntKind.u8.wrap (a : Int) = a := by rw [IntKind.wrap_u8']; omega
  have hB1 := (((Below.refl _ w).alloc (Nat.le_refl _) (.cells #[.int .i64 m, .int .i64 P] 23)).alloc (by simp) (.cells #[.int .i64 a] 2)).trans (hb1.mono (by simp; omega))
  have HB1 := Lib.hid hB1
  have hz := hB1.size
  clear hb1 hB1
  go_wp2_with (go_at_call 41; refine (minimalPoly_any c m P n hF _ ha _ hC).mono ?_; rintro e w3 ⟨rfl, hb3⟩)
  go_ret2
  exact ⟨rfl, HB1.out.trans (hb3.mono hz)⟩
end Go.Proofs.Ytpjnpkgndghlhaa
