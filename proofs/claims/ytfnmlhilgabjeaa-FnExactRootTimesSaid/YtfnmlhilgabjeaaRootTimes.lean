/- Squarings, and their undoing: what the model's and the program's function return. -/
import Derived.Test.YtfnmlhilgabjeaaTimes
import Derived.Test.YtfnmlhilgabjeaaSquare
import Derived.Test.YtfnmlhilgabjeaaQuo
import Derived.Deep.RegionHeld3
namespace Go.Proofs.Ytfnmlhilgabjeaa
open Go.RowKit
set_option linter.unusedVariables false

theorem Calc.drewN {c m P n : Nat} {W : World} (h : Calc c m P n W) (q : Nat) : Calc c m P n (W.drewN q) := ⟨h.deg, h.tab⟩

set_option maxHeartbeats 400000 in
theorem specRootTimes_A (d p : Int) (hf : fldI d p = false) (a k : Int) (w : World) :
    Calls Try.prog 36 #[.agg #[.int .i64 d, .int .i64 p], .int .i64 a, .int .i64 k] w fun e w' => e = .returned (.tuple #[.int .i64 0, .int .i64 1]) ∧ Below w.heap.size w w' := by
  have HF := Lib.hid hf
  clear hf
  go_enter Try.func36, Try.ntmps36
  go_wp2_with (go_at_call 59; refine (l01Times_A _ _ HF.out _ _ _).mono ?_; rintro e w1 ⟨rfl, hb⟩)
  go_ret2
  exact ⟨rfl, ((Below.refl _ w).alloc (Nat.le_refl _) _).trans (hb.mono (by simp))⟩
set_option maxHeartbeats 400000 in
theorem specRootTimes_B (m P n : Nat) (hF : Fld m P n) (a k : Int) (h : (a < 0 ∨ (n : Int) ≤ a) ∨ (k < 0 ∨ 1000 < k)) (w : World) :
    Calls Try.prog 36 #[.agg #[.int .i64 m, .int .i64 P], .int .i64 a, .int .i64 k] w fun e w' => e = .returned (.tuple #[.int .i64 0, .int .i64 2]) ∧ Below w.heap.size w w' := by
  have HH := Lib.hid h
  clear h
  go_enter Try.func36, Try.ntmps36
  go_wp2_with (go_at_call 59; refine (l01Times_B _ _ _ hF _ _ HH.out _).mono ?_; rintro e w1 ⟨rfl, hb⟩)
  go_ret2
  exact ⟨rfl, ((Below.refl _ w).alloc (Nat.le_refl _) _).trans (hb.mono (by simp))⟩
set_option maxHeartbeats 1000000 in
theorem specRootTimes_C (m P n : Nat) (hF : Fld m P n) (a k : Nat) (ha : a < n) (hk : k ≤ 1000) (w : World) :
    Calls Try.prog 36 #[.agg #[.int .i64 m, .int .i64 P], .int .i64 a, .int .i64 k] w fun e w' => e = .returned (.tuple #[.int .i64 (sq P a (m - k % m)), .int .i64 0]) ∧ Below w.heap.size w w' := by
  have hm1 := hF.m1
  have hm5 := hF.m5
  have hm0 : ¬ (m : Int) = 0 := by omega
  have hm0' : ¬ m = 0 := by omega
  obtain ⟨q, hq⟩ : ∃ q, k % m = q := ⟨_, rfl⟩
  have hqm : q < m := by rw [← hq]; exact Nat.mod_lt _ (by omega)
  have et : Int.tmod (k : Int) (m : Int) = (q : Int) := by rw [Int.tmod_eq_emod_of_nonneg (by omega), ← hq]; simp
  have ee : (k : Int) % (m : Int) = (q : Int) := by rw [← hq]; simp
  obtain ⟨r, hr⟩ : ∃ r, m - q = r := ⟨_, rfl⟩
  have hrm : r ≤ m := by omega
  rw [hq, hr]
  have ew : IntKind.i64.wrap ((m : Int) - (q : Int)) = (r : Int) := by rw [IntKind.wrap_i64]; omega
  have ew2 : (m : Int) - (q : Int) = (r : Int) := by omega
  have ew3 : IntKind.i64.wrap (r : Int) = (r : Int) := by rw [IntKind.wrap_i64]; omega
  have HQ := Lib.hid hq
  have HR := Lib.hid hr
  clear hq hr
  go_enter Try.func36, Try.ntmps36
  have h0 := FAt.start w m P 26
  go_wp2_with fail
  refine (l01Times_C _ _ _ hF _ ha _ (by omega) (by omega) _).mono ?_
  rintro e w1 ⟨rfl, hb1⟩
  have h1 := h0.next hb1
  have z1 := h1.z; have c1 := h1.c0; have d1 := h1.c1
  clear hb1
  go_wp2_with fail
  go_region_held3 (fun w' => w'.cell? ⟨w.heap.size, 0, none⟩ = some (.int .i64 m) ∧ w'.cell? ⟨w.heap.size, 1, none⟩ = some (.int .i64 P)) (first | exact ⟨by exact c1, by exact d1⟩ | exact ⟨by assumption, by assumption⟩) (first | (go_at_call 63; refine (l01Square_any _ _ _ hF _ ha r (by omega) _).mono ?_; rintro e w2 ⟨rfl, hb2⟩; have h2 := h1.drew.next hb2; have c2 := h2.c0; have d2 := h2.c1))
  all_goals go_wp2
  all_goals go_ret2
  all_goals exact ⟨rfl, h2.b⟩

set_option maxHeartbeats 400000 in
theorem implRootTimes_A (d p : Int) (hf : fldI d p = false) (hl : -9223372036854775808 ≤ p) (hh : p ≤ 9223372036854775807) (a k : Int) (w : World) :
    Calls Try.prog 37 #[.agg #[.int .i64 d, .int .i64 p], .int .i64 a, .int .i64 k] w fun e w' => e = .returned (.tuple #[.int .i64 0, .int .i64 1]) ∧ Below w.heap.size w w' := by
  have HF := Lib.hid hf
  clear hf
  go_enter Try.func37, Try.ntmps37
  go_wp2_with (go_at_call 61; refine (calcTimes_A _ _ HF.out hl hh _ _ _).mono ?_; rintro e w1 ⟨rfl, hb⟩)
  go_ret2
  exact ⟨rfl, ((Below.refl _ w).alloc (Nat.le_refl _) _).trans (hb.mono (by simp))⟩
set_option maxHeartbeats 400000 in
theorem implRootTimes_B (m P n : Nat) (hF : Fld m P n) (a k : Int) (h : (a < 0 ∨ (n : Int) ≤ a) ∨ (k < 0 ∨ 1000 < k)) (w : World) :
    Calls Try.prog 37 #[.agg #[.int .i64 m, .int .i64 P], .int .i64 a, .int .i64 k] w fun e w' => e = .returned (.tuple #[.int .i64 0, .int .i64 2]) ∧ Below w.heap.size w w' := by
  have HH := Lib.hid h
  clear h
  go_enter Try.func37, Try.ntmps37
  go_wp2_with (go_at_call 61; refine (calcTimes_B _ _ _ hF _ _ HH.out _).mono ?_; rintro e w1 ⟨rfl, hb⟩)
  go_ret2
  exact ⟨rfl, ((Below.refl _ w).alloc (Nat.le_refl _) _).trans (hb.mono (by simp))⟩
set_option maxRecDepth 100000 in
set_option maxHeartbeats 800000 in
theorem implRootTimes_C (m P n : Nat) (hF : Fld m P n) (a k : Nat) (ha : a < n) (hk : k ≤ 1000) (w : World) :
    Calls Try.prog 37 #[.agg #[.int .i64 m, .int .i64 P], .int .i64 a, .int .i64 k] w fun e w' => e = .returned (.tuple #[.int .i64 (sq P a (m - k % m)), .int .i64 0]) ∧ Below w.heap.size w w' := by
  have h32 := hF.n32
  have hlt := sq_lt hF ha (m - k % m)
  have hQ : ∀ (c : Nat) (w : World), Calc c m P n w → Calls Try.prog 65 #[.pointer (some ⟨c, 0, none⟩), .int .u8 a, .int .i64 k] w fun e w' => e = .returned (.int .u8 (sq P a (m - k % m))) ∧ ∃ q, w' = w.drewN q := fun c w hC => root_any c m P n hF a ha k (by omega) w hC
  obtain ⟨r, hr⟩ : ∃ r, sq P a (m - k % m) = r := ⟨_, rfl⟩
  rw [hr] at hlt hQ ⊢
  have HQ := Lib.hid hQ
  clear hr hQ
  have e2 : IntKind.i64.wrap (r : Int) = r := wrapNat r (by omega)
  go_enter Try.func37, Try.ntmps37
  go_wp2_with fail
  refine (calcTimes_C _ _ _ hF a ha _ (by omega) (by omega) _).mono ?_
  rintro e w1 ⟨c, rfl, hb1, hC, hc⟩
  have e1 : IntKind.u8.wrap (a : Int) = a := by rw [IntKind.wrap_u8']; omega
  go_wp2_with fail
  refine (HQ.out c _ hC).mono ?_
  rintro e w2 ⟨rfl, q, rfl⟩
  go_wp2
  go_ret2
  exact ⟨rfl, below_drewN (((Below.refl _ w).alloc (Nat.le_refl _) _).trans (hb1.mono (by simp))) _⟩
end Go.Proofs.Ytfnmlhilgabjeaa
