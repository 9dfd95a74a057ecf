/- InverseIn: what the model's and the program's function return. -/
import Derived.Test.YtlchelaohiojiaaGiven
import Derived.Test.YtlchelaohiojiaaInv
import Derived.Test.YtlchelaohiojiaaQuo
namespace Go.Proofs.Ytlchelaohiojiaa
open Go.RowKit
set_option linter.unusedVariables false

set_option maxHeartbeats 400000 in
theorem implInverseIn_A (d p : Int) (hf : fldI d p = false) (hl : -9223372036854775808 ≤ p) (hh : p ≤ 9223372036854775807) (a : Int) (w : World) :
    Calls Try.prog 14 #[.agg #[.int .i64 d, .int .i64 p], .int .i64 a] w fun e w' => e = .returned (.tuple #[.int .i64 0, .int .i64 1]) ∧ Below w.heap.size w w' := by
  have HF := Lib.hid hf
  clear hf
  go_enter Try.func14, Try.ntmps14
  go_wp2_with fail
  refine (calculatorFor_invalid _ _ HF.out hl hh _ _).mono ?_
  rintro e w1 ⟨rfl, hb⟩
  go_wp2
  go_ret2
  exact ⟨rfl, (((Below.refl _ w).alloc (Nat.le_refl _) _).alloc (by simp) _).trans (hb.mono (by simp; omega))⟩
set_option maxHeartbeats 400000 in
theorem implInverseIn_B (m P n : Nat) (hF : Fld m P n) (a : Int) (h : a < 0 ∨ (n : Int) ≤ a) (w : World) :
    Calls Try.prog 14 #[.agg #[.int .i64 m, .int .i64 P], .int .i64 a] w fun e w' => e = .returned (.tuple #[.int .i64 0, .int .i64 2]) ∧ Below w.heap.size w w' := by
  have HH := Lib.hid h
  clear h
  go_enter Try.func14, Try.ntmps14
  go_wp2_with fail
  refine (calcFor1_B _ _ _ hF (w.heap.size + 1) a HH.out _ (by simp) (by simp)).mono ?_
  rintro e w1 ⟨rfl, hb⟩
  go_wp2
  go_ret2
  exact ⟨rfl, (((Below.refl _ w).alloc (Nat.le_refl _) _).alloc (by simp) _).trans (hb.mono (by simp; omega))⟩
set_option maxHeartbeats 800000 in
theorem implInverseIn_C (m P n : Nat) (hF : Fld m P n) (a : Nat) (ha : a < n) (ha0 : 0 < a) (w : World) :
    Calls Try.prog 14 #[.agg #[.int .i64 m, .int .i64 P], .int .i64 a] w fun e w' => e = .returned (.tuple #[.int .i64 (pw P a (n - 2)), .int .i64 0]) ∧ Below w.heap.size w w' := by
  have h32 := hF.n32
  have h2 := hF.n2
  have g0 : ((a : Int) == 0) = false := by simp; omega
  have eq1 : quo P n 1 a = pw P a (n - 2) := by rw [quo, one_mul' hF (inv_lt hF a)]; rfl
  have hq := quo_lt hF 1 a (n := n)
  rw [eq1] at hq
  obtain ⟨r, hr⟩ : ∃ r, pw P a (n - 2) = r := ⟨_, rfl⟩
  rw [hr] at hq eq1 ⊢
  clear hr
  go_enter Try.func14, Try.ntmps14
  go_wp2_with fail
  refine (calcFor1_C _ _ _ hF (w.heap.size + 1) a (by omega) _ (by simp) (by simp)).mono ?_
  rintro e w1 ⟨c, rfl, hb1, hC, hc⟩
  have e1 : IntKind.u8.wrap (a : Int) = a := by rw [IntKind.wrap_u8']; omega
  have hQ := quotient_any c m P n hF 1 a (by omega) (by omega) ha w1 hC
  rw [eq1] at hQ
  have HQ := Lib.hid hQ
  clear hQ eq1
  have e2 : IntKind.i64.wrap (r : Int) = r := wrapNat r (by omega)
  go_wp2_with fail
  refine HQ.out.mono ?_
  rintro e w2 ⟨rfl, hb2⟩
  have hB1 := (((Below.refl _ w).alloc (Nat.le_refl _) (.cells #[.int .i64 m, .int .i64 P] 25)).alloc (by simp) (.cells #[.int .i64 a] 2)).trans (hb1.mono (by simp; omega))
  go_wp2
  go_ret2
  exact ⟨rfl, hB1.trans (hb2.mono hB1.size)⟩
set_option maxHeartbeats 400000 in
theorem implInverseIn_Z (m P n : Nat) (hF : Fld m P n) (w : World) :
    Calls Try.prog 14 #[.agg #[.int .i64 m, .int .i64 P], .int .i64 0] w fun e w' => e = .returned (.tuple #[.int .i64 0, .int .i64 4]) ∧ Below w.heap.size w w' := by
  have hn := hF.n2
  go_enter Try.func14, Try.ntmps14
  go_wp2_with fail
  refine (calcFor1_C _ _ _ hF (w.heap.size + 1) 0 (by omega) _ (by simp) (by simp)).mono ?_
  rintro e w1 ⟨c, rfl, hb1, hC, hc⟩
  go_wp2
  go_ret2
  exact ⟨rfl, (((Below.refl _ w).alloc (Nat.le_refl _) _).alloc (by simp) _).trans (hb1.mono (by simp; omega))⟩
end Go.Proofs.Ytlchelaohiojiaa
