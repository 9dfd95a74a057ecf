/- What the model checks of a field and two elements. -/
import Derived.Test.YtlchelaohiojiaaInv
namespace Go.Proofs.Ytlchelaohiojiaa
open Go.RowKit
set_option linter.unusedVariables false

set_option maxHeartbeats 400000 in
theorem l01Given_A (d p : Int) (hf : fldI d p = false) (a b : Int) (w : World) :
    Calls Try.prog 146 #[.agg #[.int .i64 d, .int .i64 p], .int .i64 a, .int .i64 b] w fun e w' => e = .returned (.int .i64 1) ∧ Below w.heap.size w w' := by
  have HF := Lib.hid hf
  clear hf
  go_enter Try.func146, Try.ntmps146
  go_wp2_with (go_at_call 75; refine (l01Ok_eq _ _ _ HF.out _).mono ?_; rintro e w1 ⟨rfl, hb⟩)
  go_ret
  exact ⟨rfl, ((Below.refl _ w).alloc (Nat.le_refl _) _).trans (hb.mono (by simp))⟩

set_option maxHeartbeats 800000 in
theorem l01Given_C (m P n : Nat) (hF : Fld m P n) (a b : Nat) (ha : a < n) (hb : b < n) (w : World) :
    Calls Try.prog 146 #[.agg #[.int .i64 m, .int .i64 P], .int .i64 a, .int .i64 b] w fun e w' => e = .returned (.int .i64 0) ∧ Below w.heap.size w w' := by
  have HF := Lib.hid (fldI_of hF.f)
  have h32 := hF.n32
  go_enter Try.func146, Try.ntmps146
  have h0 := FAt.start w m P 25
  go_wp2_with fail
  refine (l01Ok_eq _ _ _ HF.out _).mono ?_
  rintro e w1 ⟨rfl, hb1⟩
  have h1 := h0.next hb1
  have z1 := h1.z; have c1 := h1.c0; have d1 := h1.c1
  clear hb1
  go_wp2_with fail
  refine (l01Size_any _ _ _ hF _).mono ?_
  rintro e w2 ⟨rfl, hb2⟩
  have h2 := h1.next hb2
  have z2 := h2.z; have c2 := h2.c0; have d2 := h2.c1
  clear hb2
  go_wp2_with fail
  refine (l00In_yes _ _ _ (by omega) (by omega) _).mono ?_
  rintro e w' ⟨rfl, rfl⟩
  go_wp2_with fail
  refine (l01Size_any _ _ _ hF _).mono ?_
  rintro e w3 ⟨rfl, hb3⟩
  have h3 := h2.next hb3
  clear hb3
  go_wp2_with fail
  refine (l00In_yes _ _ _ (by omega) (by omega) _).mono ?_
  rintro e w' ⟨rfl, rfl⟩
  go_wp2
  go_ret
  exact ⟨rfl, h3.b⟩

set_option maxHeartbeats 800000 in
theorem l01Given_B (m P n : Nat) (hF : Fld m P n) (a b : Int) (h : (a < 0 ∨ (n : Int) ≤ a) ∨ (b < 0 ∨ (n : Int) ≤ b)) (w : World) :
    Calls Try.prog 146 #[.agg #[.int .i64 m, .int .i64 P], .int .i64 a, .int .i64 b] w fun e w' => e = .returned (.int .i64 2) ∧ Below w.heap.size w w' := by
  have HF := Lib.hid (fldI_of hF.f)
  have h32 := hF.n32
  by_cases ha : a < 0 ∨ (n : Int) ≤ a
  · go_enter Try.func146, Try.ntmps146
    have h0 := FAt.start w m P 25
    go_wp2_with fail
    refine (l01Ok_eq _ _ _ HF.out _).mono ?_
    rintro e w1 ⟨rfl, hb1⟩
    have h1 := h0.next hb1
    have z1 := h1.z; have c1 := h1.c0; have d1 := h1.c1
    clear hb1
    go_wp2_with fail
    refine (l01Size_any _ _ _ hF _).mono ?_
    rintro e w2 ⟨rfl, hb2⟩
    have h2 := h1.next hb2
    clear hb2
    go_wp2_with fail
    refine (l00In_no _ _ _ (by omega) _).mono ?_
    rintro e w' ⟨rfl, rfl⟩
    go_wp2
    go_ret
    exact ⟨rfl, h2.b⟩
  · have hb0 : b < 0 ∨ (n : Int) ≤ b := by omega
    have ha0 : 0 ≤ a := by omega
    have ha1 : a < n := by omega
    clear ha h
    go_enter Try.func146, Try.ntmps146
    have h0 := FAt.start w m P 25
    go_wp2_with fail
    refine (l01Ok_eq _ _ _ HF.out _).mono ?_
    rintro e w1 ⟨rfl, hb1⟩
    have h1 := h0.next hb1
    have z1 := h1.z; have c1 := h1.c0; have d1 := h1.c1
    clear hb1
    go_wp2_with fail
    refine (l01Size_any _ _ _ hF _).mono ?_
    rintro e w2 ⟨rfl, hb2⟩
    have h2 := h1.next hb2
    have z2 := h2.z; have c2 := h2.c0; have d2 := h2.c1
    clear hb2
    go_wp2_with fail
    refine (l00In_yes _ _ _ (by omega) (by omega) _).mono ?_
    rintro e w' ⟨rfl, rfl⟩
    go_wp2_with fail
    refine (l01Size_any _ _ _ hF _).mono ?_
    rintro e w3 ⟨rfl, hb3⟩
    have h3 := h2.next hb3
    clear hb3
    go_wp2_with fail
    refine (l00In_no _ _ _ (by omega) _).mono ?_
    rintro e w' ⟨rfl, rfl⟩
    go_wp2
    go_ret
    exact ⟨rfl, h3.b⟩
end Go.Proofs.Ytlchelaohiojiaa
