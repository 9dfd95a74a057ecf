/- ConjugatesIn: what the model's and the program's function return. -/
import Derived.Test.YtpjnpkgndghlhaaGiven
import Derived.Test.YtpjnpkgndghlhaaConj
import Derived.Test.YtpjnpkgndghlhaaGives
namespace Go.Proofs.Ytpjnpkgndghlhaa
open Go.RowKit Go.Joins
set_option linter.unusedVariables false

set_option maxHeartbeats 800000 in
theorem implConjugatesIn_A (d p : Int) (hf : fldI d p = false) (hl : -9223372036854775808 ≤ p) (hh : p ≤ 9223372036854775807) (a : Int) : GivesList 29 d p a [] 1 := by
  intro w
  have HF := Lib.hid hf
  clear hf
  go_enter Try.func29, Try.ntmps29
  go_wp2_with (go_at_call 40; refine (calculatorFor_invalid _ _ HF.out hl hh _ _).mono ?_; rintro e w1 ⟨rfl, hb⟩)
  go_ret2
  exact ⟨_, rfl, (((Below.refl _ w).alloc (Nat.le_refl _) _).alloc (by simp) _).trans (hb.mono (by simp; omega)), .nil _ _⟩
set_option maxHeartbeats 800000 in
theorem implConjugatesIn_B (m P n : Nat) (hF : Fld m P n) (a : Int) (h : a < 0 ∨ (n : Int) ≤ a) : GivesList 29 m P a [] 2 := by
  intro w
  have HH := Lib.hid h
  clear h
  go_enter Try.func29, Try.ntmps29
  go_wp2_with fail
  refine (calcFor1_B _ _ _ hF (w.heap.size + 1) a HH.out _ (by simp) (by simp)).mono ?_
  rintro e w1 ⟨rfl, hb⟩
  go_wp2
  go_ret2
  exact ⟨_, rfl, (((Below.refl _ w).alloc (Nat.le_refl _) _).alloc (by simp) _).trans (hb.mono (by simp; omega)), .nil _ _⟩
set_option maxHeartbeats 800000 in
theorem implConjugatesIn_C (m P n : Nat) (hF : Fld m P n) (a : Nat) (ha : a < n) (r : Nat) (hr : Orb P a r) (hrm : r ≤ m) : GivesList 29 m P a (conjL P a r) 0 := by
  intro w
  have h32 := hF.n32
  go_enter Try.func29, Try.ntmps29
  go_wp2_with fail
  refine (calcFor1_C _ _ _ hF (w.heap.size + 1) a (by omega) _ (by simp) (by simp)).mono ?_
  rintro e w1 ⟨c, rfl, hb1, hC, hc⟩
  have e1 : IntKind.u8.wrap (a : Int) = a := by rw [IntKind.wrap_u8']; omega
  have hB1 := (((Below.refl _ w).alloc (Nat.le_refl _) (.cells #[.int .i64 m, .int .i64 P] 23)).alloc (by simp) (.cells #[.int .i64 a] 2)).trans (hb1.mono (by simp; omega))
  go_wp2_with fail
  refine (conjugates_any c m P n hF _ ha r hr hrm _ hC).mono ?_
  rintro e w2 ⟨v, rfl, hb2, hR⟩
  have HB := Lib.hid (hB1.trans (hb2.mono hB1.size))
  have HR := Lib.hid (hR.wide2 hB1.size)
  clear hb2 hR hb1 hB1
  go_wp2_with fail
  go_ret2
  exact ⟨v, rfl, HB.out, HR.out⟩
end Go.Proofs.Ytpjnpkgndghlhaa
