/- TraceIn: what the model's and the program's function return. -/
import Derived.Test.YtodgfmbnoeameacGiven
import Derived.Test.YtodgfmbnoeameacTrace
namespace Go.Proofs.Ytodgfmbnoeameac
open Go.RowKit
set_option linter.unusedVariables false

set_option maxHeartbeats 400000 in
theorem specTraceIn_A (d p : Int) (hf : fldI d p = false) (a : Int) (w : World) :
    Calls Try.prog 31 #[.agg #[.int .i64 d, .int .i64 p], .int .i64 a] w fun e w' => e = .returned (.tuple #[.int .i64 0, .int .i64 1]) ∧ Below w.heap.size w w' := by
  have HF := Lib.hid hf
  clear hf
  go_enter Try.func31, Try.ntmps31
  go_wp2_with (go_at_call 40; refine (l01Given_A _ _ HF.out _ _ _).mono ?_; rintro e w1 ⟨rfl, hb⟩)
  go_ret2
  exact ⟨rfl, ((Below.refl _ w).alloc (Nat.le_refl _) _).trans (hb.mono (by simp))⟩
set_option maxHeartbeats 400000 in
theorem specTraceIn_B (m P n : Nat) (hF : Fld m P n) (a : Int) (h : a < 0 ∨ (n : Int) ≤ a) (w : World) :
    Calls Try.prog 31 #[.agg #[.int .i64 m, .int .i64 P], .int .i64 a] w fun e w' => e = .returned (.tuple #[.int .i64 0, .int .i64 2]) ∧ Below w.heap.size w w' := by
  have HH := Lib.hid (show (a < 0 ∨ (n : Int) ≤ a) ∨ ((0 : Int) < 0 ∨ (n : Int) ≤ 0) from .inl h)
  clear h
  go_enter Try.func31, Try.ntmps31
  go_wp2_with (go_at_call 40; refine (l01Given_B _ _ _ hF _ _ HH.out _).mono ?_; rintro e w1 ⟨rfl, hb⟩)
  go_ret2
  exact ⟨rfl, ((Below.refl _ w).alloc (Nat.le_refl _) _).trans (hb.mono (by simp))⟩
set_option maxHeartbeats 400000 in
theorem implTraceIn_A (d p : Int) (hf : fldI d p = false) (hl : -9223372036854775808 ≤ p) (hh : p ≤ 9223372036854775807) (a : Int) (w : World) :
    Calls Try.prog 32 #[.agg #[.int .i64 d, .int .i64 p], .int .i64 a] w fun e w' => e = .returned (.tuple #[.int .i64 0, .int .i64 1]) ∧ Below w.heap.size w w' := by
  have HF := Lib.hid hf
  clear hf
  go_enter Try.func32, Try.ntmps32
  go_wp2_with (go_at_call 42; refine (calculatorFor_invalid _ _ HF.out hl hh _ _).mono ?_; rintro e w1 ⟨rfl, hb⟩)
  go_ret2
  exact ⟨rfl, (((Below.refl _ w).alloc (Nat.le_refl _) _).alloc (by simp) _).trans (hb.mono (by simp; omega))⟩
set_option maxHeartbeats 400000 in
theorem implTraceIn_B (m P n : Nat) (hF : Fld m P n) (a : Int) (h : a < 0 ∨ (n : Int) ≤ a) (w : World) :
    Calls Try.prog 32 #[.agg #[.int .i64 m, .int .i64 P], .int .i64 a] w fun e w' => e = .returned (.tuple #[.int .i64 0, .int .i64 2]) ∧ Below w.heap.size w w' := by
  have HH := Lib.hid h
  clear h
  go_enter Try.func32, Try.ntmps32
  go_wp2_with fail
  refine (calcFor1_B _ _ _ hF (w.heap.size + 1) a HH.out _ (by simp) (by simp)).mono ?_
  rintro e w1 ⟨rfl, hb⟩
  go_wp2
  go_ret2
  exact ⟨rfl, (((Below.refl _ w).alloc (Nat.le_refl _) _).alloc (by simp) _).trans (hb.mono (by simp; omega))⟩
set_option maxHeartbeats 400000 in
theorem specTraceIn_C (m P n : Nat) (hF : Fld m P n) (a : Nat) (ha : a < n) (w : World) :
    Calls Try.prog 31 #[.agg #[.int .i64 m, .int .i64 P], .int .i64 a] w fun e w' => e = .returned (.tuple #[.int .i64 (tr P a m), .int .i64 0]) ∧ Below w.heap.size w w' := by
  have hn := hF.n2
  go_enter Try.func31, Try.ntmps31
  have h0 := FAt.start w m P 26
  go_wp2_with fail
  refine (l01Given_C _ _ _ hF _ 0 ha (by omega) _).mono ?_
  rintro e w1 ⟨rfl, hb1⟩
  have h1 := h0.next hb1
  have z1 := h1.z; have c1 := h1.c0; have d1 := h1.c1
  clear hb1
  go_wp2_with fail
  refine (l01Trace_any _ _ _ hF _ ha _).mono ?_
  rintro e w2 ⟨rfl, hb2⟩
  go_wp2
  go_ret2
  exact ⟨rfl, (h1.next hb2).b⟩
set_option maxHeartbeats 400000 in
theorem implTraceIn_C (m P n : Nat) (hF : Fld m P n) (a : Nat) (ha : a < n) (w : World) :
    Calls Try.prog 32 #[.agg #[.int .i64 m, .int .i64 P], .int .i64 a] w fun e w' => e = .returned (.tuple #[.int .i64 (tr P a m), .int .i64 0]) ∧ Below w.heap.size w w' := by
  have h32 := hF.n32
  have hlt := tr_lt hF ha m
  go_enter Try.func32, Try.ntmps32
  go_wp2_with fail
  refine (calcFor1_C _ _ _ hF (w.heap.size + 1) a (by omega) _ (by simp) (by simp)).mono ?_
  rintro e w1 ⟨c, rfl, hb1, hC, hc⟩
  have e1 : IntKind.u8.wrap (a : Int) = a := by rw [IntKind.wrap_u8']; omega
  go_wp2_with (go_at_call 60; refine (trace_any c m P n hF _ ha _ hC).mono ?_; rintro e w' ⟨rfl, rfl⟩)
  go_ret2
  exact ⟨rfl, (((Below.refl _ w).alloc (Nat.le_refl _) _).alloc (by simp) _).trans (hb1.mono (by simp; omega))⟩
end Go.Proofs.Ytodgfmbnoeameac
