/- ConjugatesIn: what the model's and the program's function return. -/
import Derived.Test.YtodgfmbnoeameacGiven
import Derived.Test.YtodgfmbnoeameacConj
namespace Go.Proofs.Ytodgfmbnoeameac
open Go.RowKit Go.Joins
set_option linter.unusedVariables false

/-- A function of a field and an element returns numbers and a code. -/
abbrev GivesList (f : FuncId) (d p a : Int) (ys : List Int) (k : Int) : Prop := ∀ w : World,
  Calls Try.prog f #[.agg #[.int .i64 d, .int .i64 p], .int .i64 a] w fun e w' => ∃ v, e = .returned (.tuple #[v, .int .i64 k]) ∧ Below w.heap.size w w' ∧ Res w' w.heap.size w'.heap.size v ys

set_option maxHeartbeats 800000 in
theorem specConjugatesIn_A (d p : Int) (hf : fldI d p = false) (a : Int) : GivesList 33 d p a [] 1 := by
  intro w
  have HF := Lib.hid hf
  clear hf
  go_enter Try.func33, Try.ntmps33
  go_wp2_with (go_at_call 40; refine (l01Given_A _ _ HF.out _ _ _).mono ?_; rintro e w1 ⟨rfl, hb⟩)
  go_ret2
  exact ⟨_, rfl, (((below_alloc1 w _).trans (hb.mono (by simp))).alloc (by have := hb.size; simp at this; omega) _), .nil _ _⟩
set_option maxHeartbeats 800000 in
theorem specConjugatesIn_B (m P n : Nat) (hF : Fld m P n) (a : Int) (h : a < 0 ∨ (n : Int) ≤ a) : GivesList 33 m P a [] 2 := by
  intro w
  have HH := Lib.hid (show (a < 0 ∨ (n : Int) ≤ a) ∨ ((0 : Int) < 0 ∨ (n : Int) ≤ 0) from .inl h)
  clear h
  go_enter Try.func33, Try.ntmps33
  go_wp2_with (go_at_call 40; refine (l01Given_B _ _ _ hF _ _ HH.out _).mono ?_; rintro e w1 ⟨rfl, hb⟩)
  go_ret2
  exact ⟨_, rfl, (((below_alloc1 w _).trans (hb.mono (by simp))).alloc (by have := hb.size; simp at this; omega) _), .nil _ _⟩
set_option maxHeartbeats 800000 in
theorem specConjugatesIn_C (m P n : Nat) (hF : Fld m P n) (a : Nat) (ha : a < n) (r : Nat) (hr : Orb P a r) (hrm : r ≤ m) : GivesList 33 m P a (conjL P a r) 0 := by
  intro w
  have hn := hF.n2
  go_enter Try.func33, Try.ntmps33
  have h0 := FAt.start w m P 26
  go_wp2_with fail
  refine (l01Given_C _ _ _ hF _ 0 ha (by omega) _).mono ?_
  rintro e w1 ⟨rfl, hb1⟩
  have h1 := h0.next hb1
  have z1 := h1.z; have c1 := h1.c0; have d1 := h1.c1
  clear hb1
  go_wp2_with fail
  refine (l01Conjugates_any _ _ _ hF _ ha r hr hrm _).mono ?_
  rintro e w2 ⟨v, rfl, hb2, hR⟩
  go_wp2
  go_ret2
  exact ⟨v, rfl, (h1.next hb2).b, hR.wide2 (by have := h1.z; omega)⟩
set_option maxHeartbeats 800000 in
theorem implConjugatesIn_A (d p : Int) (hf : fldI d p = false) (hl : -9223372036854775808 ≤ p) (hh : p ≤ 9223372036854775807) (a : Int) : GivesList 34 d p a [] 1 := by
  intro w
  have HF := Lib.hid hf
  clear hf
  go_enter Try.func34, Try.ntmps34
  go_wp2_with (go_at_call 42; refine (calculatorFor_invalid _ _ HF.out hl hh _ _).mono ?_; rintro e w1 ⟨rfl, hb⟩)
  go_ret2
  exact ⟨_, rfl, (((Below.refl _ w).alloc (Nat.le_refl _) _).alloc (by simp) _).trans (hb.mono (by simp; omega)), .nil _ _⟩
set_option maxHeartbeats 800000 in
theorem implConjugatesIn_B (m P n : Nat) (hF : Fld m P n) (a : Int) (h : a < 0 ∨ (n : Int) ≤ a) : GivesList 34 m P a [] 2 := by
  intro w
  have HH := Lib.hid h
  clear h
  go_enter Try.func34, Try.ntmps34
  go_wp2_with fail
  refine (calcFor1_B _ _ _ hF (w.heap.size + 1) a HH.out _ (by simp) (by simp)).mono ?_
  rintro e w1 ⟨rfl, hb⟩
  go_wp2
  go_ret2
  exact ⟨_, rfl, (((Below.refl _ w).alloc (Nat.le_refl _) _).alloc (by simp) _).trans (hb.mono (by simp; omega)), .nil _ _⟩
set_option maxHeartbeats 800000 in
theorem implConjugatesIn_C (m P n : Nat) (hF : Fld m P n) (a : Nat) (ha : a < n) (r : Nat) (hr : Orb P a r) (hrm : r ≤ m) : GivesList 34 m P a (conjL P a r) 0 := by
  intro w
  have h32 := hF.n32
  go_enter Try.func34, Try.ntmps34
  go_wp2_with fail
  refine (calcFor1_C _ _ _ hF (w.heap.size + 1) a (by omega) _ (by simp) (by simp)).mono ?_
  rintro e w1 ⟨c, rfl, hb1, hC, hc⟩
  have e1 : IntKind.u8.wrap (a : Int) = a := by rw [IntKind.wrap_u8']; omega
  have hB1 := (((Below.refl _ w).alloc (Nat.le_refl _) (.cells #[.int .i64 m, .int .i64 P] 26)).alloc (by simp) (.cells #[.int .i64 a] 2)).trans (hb1.mono (by simp; omega))
  go_wp2_with fail
  refine (conjugates_any c m P n hF _ ha r hr hrm _ hC).mono ?_
  rintro e w2 ⟨v, rfl, hb2, hR⟩
  have HB := Lib.hid (hB1.trans (hb2.mono hB1.size))
  have HR := Lib.hid (hR.wide2 hB1.size)
  clear hb2 hR hb1 hB1
  go_wp2_with fail
  go_ret2
  exact ⟨v, rfl, HB.out, HR.out⟩
end Go.Proofs.Ytodgfmbnoeameac
