/- Squarings, and their undoing: what the model's and the program's function return. -/
import Derived.Test.YtibennpdffgomaaTimes
import Derived.Test.YtibennpdffgomaaSquare
import Derived.Test.YtibennpdffgomaaQuo
import Derived.Deep.RegionHeld3
namespace Go.Proofs.Ytibennpdffgomaa
open Go.RowKit
set_option linter.unusedVariables false

theorem Calc.drewN {c m P n : Nat} {W : World} (h : Calc c m P n W) (q : Nat) : Calc c m P n (W.drewN q) := ⟨h.deg, h.tab⟩


set_option maxHeartbeats 400000 in
theorem implRootTimes_A (d p : Int) (hf : fldI d p = false) (hl : -9223372036854775808 ≤ p) (hh : p ≤ 9223372036854775807) (a k : Int) (w : World) :
    Calls Try.prog 56 #[.agg #[.int .i64 d, .int .i64 p], .int .i64 a, .int .i64 k] w fun e w' => e = .returned (.tuple #[.int .i64 0, .int .i64 1]) ∧ Below w.heap.size w w' := by
  have HF := Lib.hid hf
  clear hf
  go_enter Try.func56, Try.ntmps56
  go_wp2_with (go_at_call 126; refine (calcTimes_A _ _ HF.out hl hh _ _ _).mono ?_; rintro e w1 ⟨rfl, hb⟩)
  go_ret2
  exact ⟨rfl, ((Below.refl _ w).alloc (Nat.le_refl _) _).trans (hb.mono (by simp))⟩
set_option maxHeartbeats 400000 in
theorem implRootTimes_B (m P n : Nat) (hF : Fld m P n) (a k : Int) (h : (a < 0 ∨ (n : Int) ≤ a) ∨ (k < 0 ∨ 1000 < k)) (w : World) :
    Calls Try.prog 56 #[.agg #[.int .i64 m, .int .i64 P], .int .i64 a, .int .i64 k] w fun e w' => e = .returned (.tuple #[.int .i64 0, .int .i64 2]) ∧ Below w.heap.size w w' := by
  have HH := Lib.hid h
  clear h
  go_enter Try.func56, Try.ntmps56
  go_wp2_with (go_at_call 126; refine (calcTimes_B _ _ _ hF _ _ HH.out _).mono ?_; rintro e w1 ⟨rfl, hb⟩)
  go_ret2
  exact ⟨rfl, ((Below.refl _ w).alloc (Nat.le_refl _) _).trans (hb.mono (by simp))⟩
set_option maxRecDepth 100000 in
set_option maxHeartbeats 800000 in
theorem implRootTimes_C (m P n : Nat) (hF : Fld m P n) (a k : Nat) (ha : a < n) (hk : k ≤ 1000) (w : World) :
    Calls Try.prog 56 #[.agg #[.int .i64 m, .int .i64 P], .int .i64 a, .int .i64 k] w fun e w' => e = .returned (.tuple #[.int .i64 (sq P a (m - k % m)), .int .i64 0]) ∧ Below w.heap.size w w' := by
  have h32 := hF.n32
  have hlt := sq_lt hF ha (m - k % m)
  have hQ : ∀ (c : Nat) (w : World), Calc c m P n w → Calls Try.prog 129 #[.pointer (some ⟨c, 0, none⟩), .int .u8 a, .int .i64 k] w fun e w' => e = .returned (.int .u8 (sq P a (m - k % m))) ∧ ∃ q, w' = w.drewN q := fun c w hC => root_any c m P n hF a ha k (by omega) w hC
  obtain ⟨r, hr⟩ : ∃ r, sq P a (m - k % m) = r := ⟨_, rfl⟩
  rw [hr] at hlt hQ ⊢
  have HQ := Lib.hid hQ
  clear hr hQ
  have e2 : IntKind.i64.wrap (r : Int) = r := wrapNat r (by omega)
  go_enter Try.func56, Try.ntmps56
  go_wp2_with fail
  refine (calcTimes_C _ _ _ hF a ha _ (by omega) (by omega) _).mono ?_
  rintro e w1 ⟨c, rfl, hb1, hC, hc⟩
  have e1 : IntKind.u8.wrap (a : Int) = a := by rw [IntKind.wrap_u8']; omega
  go_wp2_with fail
  refine (HQ.out c _ hC).mono ?_
  rintro e w2 ⟨rfl, q, rfl⟩
  go_wp2
  go_ret2
  exact ⟨rfl, below_drewN (((Below.refl _ w).alloc (Nat.le_refl _) _).trans (hb1.mono (by simp))) _⟩
end Go.Proofs.Ytibennpdffgomaa
