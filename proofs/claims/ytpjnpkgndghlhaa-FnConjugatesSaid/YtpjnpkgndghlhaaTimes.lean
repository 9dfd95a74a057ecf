/- The checks of a field, an element and a number of times: what the model's and the program's function return. -/
import Derived.Test.YtpjnpkgndghlhaaGiven
import Derived.Test.YtpjnpkgndghlhaaInv
import Derived.Test.YtpjnpkgndghlhaaMakeArgs
namespace Go.Proofs.Ytpjnpkgndghlhaa
open Go.RowKit
set_option linter.unusedVariables false


set_option maxHeartbeats 400000 in
theorem isTimes_yes (k : Int) (h1 : 0 ≤ k) (h2 : k ≤ 1000) (w : World) :
    Calls Try.prog 80 #[.int .i64 k] w fun e w' => e = .returned (.bool true) ∧ w = w' := by
  go_enter Try.func80, Try.ntmps80
  go_wp2
  go_ret
  exact ⟨ret_bool (by first | rfl | (simp; done) | (simp; omega)), rfl⟩
set_option maxHeartbeats 400000 in
theorem isTimes_no (k : Int) (h : k < 0 ∨ 1000 < k) (w : World) :
    Calls Try.prog 80 #[.int .i64 k] w fun e w' => e = .returned (.bool false) ∧ w = w' := by
  by_cases h1 : 0 ≤ k
  · have h2 : 1000 < k := by omega
    go_enter Try.func80, Try.ntmps80
    go_wp2
    go_ret
    exact ⟨ret_bool (by first | rfl | (simp; done) | (simp; omega)), rfl⟩
  · have h2 : k < 0 := by omega
    go_enter Try.func80, Try.ntmps80
    go_wp2
    go_ret
    exact ⟨ret_bool (by first | rfl | (simp; done) | (simp; omega)), rfl⟩

set_option maxHeartbeats 400000 in
theorem calcTimes_A (d p : Int) (hf : fldI d p = false) (hl : -9223372036854775808 ≤ p) (hh : p ≤ 9223372036854775807) (a k : Int) (w : World) :
    Calls Try.prog 57 #[.agg #[.int .i64 d, .int .i64 p], .int .i64 a, .int .i64 k] w fun e w' => e = .returned (.tuple #[.pointer none, .int .i64 1]) ∧ Below w.heap.size w w' := by
  have HF := Lib.hid hf
  clear hf
  go_enter Try.func57, Try.ntmps57
  go_wp2_with (go_at_call 40; refine (calculatorFor_invalid _ _ HF.out hl hh _ _).mono ?_; rintro e w1 ⟨rfl, hb⟩)
  go_ret2
  exact ⟨rfl, (((Below.refl _ w).alloc (Nat.le_refl _) _).alloc (by simp) _).trans (hb.mono (by simp; omega))⟩
set_option maxHeartbeats 800000 in
theorem calcTimes_B (m P n : Nat) (hF : Fld m P n) (a k : Int) (h : (a < 0 ∨ (n : Int) ≤ a) ∨ (k < 0 ∨ 1000 < k)) (w : World) :
    Calls Try.prog 57 #[.agg #[.int .i64 m, .int .i64 P], .int .i64 a, .int .i64 k] w fun e w' => e = .returned (.tuple #[.pointer none, .int .i64 2]) ∧ Below w.heap.size w w' := by
  by_cases ha : a < 0 ∨ (n : Int) ≤ a
  · have HA := Lib.hid ha
    clear ha h
    go_enter Try.func57, Try.ntmps57
    go_wp2_with fail
    refine (calcFor1_B _ _ _ hF (w.heap.size + 1) a HA.out _ (by simp) (by simp)).mono ?_
    rintro e w1 ⟨rfl, hb⟩
    go_wp2
    go_ret2
    exact ⟨rfl, (((Below.refl _ w).alloc (Nat.le_refl _) _).alloc (by simp) _).trans (hb.mono (by simp; omega))⟩
  · have HA := Lib.hid (show 0 ≤ a ∧ a < n by omega)
    have hk : k < 0 ∨ 1000 < k := by omega
    clear ha h
    have HK := Lib.hid hk
    clear hk
    go_enter Try.func57, Try.ntmps57
    go_wp2_with fail
    refine (calcFor1_C _ _ _ hF (w.heap.size + 1) a HA.out _ (by simp) (by simp)).mono ?_
    rintro e w1 ⟨c, rfl, hb, hC, hc⟩
    go_wp2_with fail
    refine (isTimes_no _ HK.out _).mono ?_
    rintro e w' ⟨rfl, rfl⟩
    go_wp2
    go_ret2
    exact ⟨rfl, (((Below.refl _ w).alloc (Nat.le_refl _) _).alloc (by simp) _).trans (hb.mono (by simp; omega))⟩
set_option maxHeartbeats 800000 in
theorem calcTimes_C (m P n : Nat) (hF : Fld m P n) (a : Nat) (ha : a < n) (k : Int) (hk0 : 0 ≤ k) (hk1 : k ≤ 1000) (w : World) :
    Calls Try.prog 57 #[.agg #[.int .i64 m, .int .i64 P], .int .i64 a, .int .i64 k] w (Made m P n w) := by
  go_enter Try.func57, Try.ntmps57
  go_wp2_with fail
  refine (calcFor1_C _ _ _ hF (w.heap.size + 1) a (by omega) _ (by simp) (by simp)).mono ?_
  rintro e w1 ⟨c, rfl, hb, hC, hc⟩
  go_wp2_with fail
  refine (isTimes_yes _ hk0 hk1 _).mono ?_
  rintro e w' ⟨rfl, rfl⟩
  go_wp2
  go_ret2
  exact ⟨c, rfl, (((Below.refl _ w).alloc (Nat.le_refl _) _).alloc (by simp) _).trans (hb.mono (by simp; omega)), hC, by simp at hc; omega⟩
end Go.Proofs.Ytpjnpkgndghlhaa
