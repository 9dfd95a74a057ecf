/- Logarithms: what the model's and the program's function return. -/
import Derived.Test.YtibennpdffgomaaGiven
import Derived.Test.YtibennpdffgomaaInv
import Derived.Test.YtibennpdffgomaaOrder
namespace Go.Proofs.Ytibennpdffgomaa
open Go.RowKit
set_option linter.unusedVariables false

theorem one_mul_all : ∀ P : Fin 64, irr P.val = true → ∀ a : Fin 32, a.val < 2 ^ (nb P.val - 1) → mul P.val 1 a.val = a.val := by decide +kernel
theorem one_mul_fld {m P n a : Nat} (hF : Fld m P n) (ha : a < n) : mul P 1 a = a := by
  have h1 := fld_nb hF.f
  have h2 := hF.n32
  exact one_mul_all ⟨P, hF.P64⟩ (fld_irr hF.f) ⟨a, by omega⟩ (by show a < 2 ^ (nb P - 1); rw [h1]; simp; rw [hF.n]; exact ha)
theorem ord_lt_all : ∀ P : Fin 64, irr P.val = true → ∀ a : Fin 32, 0 < a.val → a.val < 2 ^ (nb P.val - 1) → 0 < ord P.val a.val ∧ ord P.val a.val < 2 ^ (nb P.val - 1) := by decide +kernel
theorem ord_lt {m P n a : Nat} (hF : Fld m P n) (h0 : 0 < a) (ha : a < n) : 0 < ord P a ∧ ord P a < n := by
  have h1 := fld_nb hF.f
  have h2 := hF.n32
  have := ord_lt_all ⟨P, hF.P64⟩ (fld_irr hF.f) ⟨a, by omega⟩ h0 (by show a < 2 ^ (nb P - 1); rw [h1]; simp; rw [hF.n]; exact ha)
  simp only [h1, Nat.add_sub_cancel, hF.n] at this
  exact this
theorem ordF_pw (P a : Nat) : ∀ f x k, x = pw P a k → ordOk P a f x = true → pw P a (ordF P a f x k) = 1
  | 0, _, _, _, h => by simp [ordOk] at h
  | f + 1, x, k, hx, h => by
    simp only [ordF]
    split
    · rename_i e; rw [← hx, e]
    · rename_i e
      exact ordF_pw P a f _ _ (by rw [hx]; rfl) (by simpa [ordOk, e] using h)
theorem pw_ord {m P n a : Nat} (hF : Fld m P n) (h0 : 0 < a) (ha : a < n) : pw P a (ord P a) = 1 :=
  ordF_pw P a 40 a 1 (by show a = mul P 1 a; rw [one_mul_fld hF ha]) (ordOk_fld hF h0 ha)
theorem pw_again {P a o : Nat} (h : pw P a o = 1) : ∀ j, pw P a (o + j) = pw P a j
  | 0 => h
  | j + 1 => by
    show mul P (pw P a (o + j)) a = mul P (pw P a j) a
    rw [pw_again h j]
/-- What no power below the order is, no power is. -/
theorem pw_none {P b a o : Nat} (h1 : pw P b o = 1) (ho : 0 < o) (h : ∀ j, j < o → pw P b j ≠ a) : ∀ f j, j ≤ f → pw P b j ≠ a
  | 0, j, hj => h j (by omega)
  | f + 1, j, hj => by
    by_cases hjo : j < o
    · exact h j hjo
    · have e := pw_again h1 (j - o)
      rw [show o + (j - o) = j by omega] at e
      rw [e]
      exact pw_none h1 ho h f (j - o) (by omega)

set_option maxHeartbeats 400000 in
theorem implLogIn_A (d p : Int) (hf : fldI d p = false) (hl : -9223372036854775808 ≤ p) (hh : p ≤ 9223372036854775807) (a b : Int) (w : World) :
    Calls Try.prog 59 #[.agg #[.int .i64 d, .int .i64 p], .int .i64 a, .int .i64 b] w fun e w' => e = .returned (.tuple #[.int .i64 0, .int .i64 1]) ∧ Below w.heap.size w w' := by
  have HF := Lib.hid hf
  clear hf
  go_enter Try.func59, Try.ntmps59
  go_wp2_with (go_at_call 110; refine (calculatorFor_invalid _ _ HF.out hl hh _ _).mono ?_; rintro e w1 ⟨rfl, hb⟩)
  go_ret2
  exact ⟨rfl, (((Below.refl _ w).alloc (Nat.le_refl _) _).alloc (by simp) _).trans (hb.mono (by simp; omega))⟩
set_option maxHeartbeats 400000 in
theorem implLogIn_B (m P n : Nat) (hF : Fld m P n) (a b : Int) (h : (a < 0 ∨ (n : Int) ≤ a) ∨ (b < 0 ∨ (n : Int) ≤ b)) (w : World) :
    Calls Try.prog 59 #[.agg #[.int .i64 m, .int .i64 P], .int .i64 a, .int .i64 b] w fun e w' => e = .returned (.tuple #[.int .i64 0, .int .i64 2]) ∧ Below w.heap.size w w' := by
  have HH := Lib.hid h
  clear h
  go_enter Try.func59, Try.ntmps59
  go_wp2_with fail
  refine (calcFor2_B _ _ _ hF (w.heap.size + 1) a b HH.out _ (by simp) (by simp) (by simp)).mono ?_
  rintro e w1 ⟨rfl, hb⟩
  go_wp2
  go_ret2
  exact ⟨rfl, (((Below.refl _ w).alloc (Nat.le_refl _) _).alloc (by simp) _).trans (hb.mono (by simp; omega))⟩

set_option maxHeartbeats 400000 in
theorem implLogIn_Z (m P n : Nat) (hF : Fld m P n) (a : Nat) (ha : a < n) (w : World) :
    Calls Try.prog 59 #[.agg #[.int .i64 m, .int .i64 P], .int .i64 0, .int .i64 a] w fun e w' => e = .returned (.tuple #[.int .i64 0, .int .i64 4]) ∧ Below w.heap.size w w' := by
  have hn := hF.n2
  go_enter Try.func59, Try.ntmps59
  go_wp2_with fail
  refine (calcFor2_C _ _ _ hF (w.heap.size + 1) 0 a (by omega) (by omega) _ (by simp) (by simp) (by simp)).mono ?_
  rintro e w1 ⟨c, rfl, hb1, hC, hc⟩
  go_wp2
  go_ret2
  exact ⟨rfl, (((Below.refl _ w).alloc (Nat.le_refl _) _).alloc (by simp) _).trans (hb1.mono (by simp; omega))⟩



set_option maxHeartbeats 1600000 in
theorem implLogIn_L (m P n : Nat) (hF : Fld m P n) (b a : Nat) (h0 : 0 < b) (hb : b < n) (ha : a < n) (k : Nat) (hk : k < ord P b) (hv : pw P b k = a) (hmin : ∀ j, j < k → pw P b j ≠ a) (w : World) :
    Calls Try.prog 59 #[.agg #[.int .i64 m, .int .i64 P], .int .i64 b, .int .i64 a] w fun e w' => e = .returned (.tuple #[.int .i64 k, .int .i64 0]) ∧ Below w.heap.size w w' := by
  have hn := hF.n2
  have h32 := hF.n32
  have hol := (ord_lt hF h0 hb).2
  have g0 : ((b : Int) == 0) = false := by simp; omega
  have HNE := Lib.hid hmin
  have HV := Lib.hid hv
  clear hmin hv
  go_enter Try.func59, Try.ntmps59
  go_wp2_with fail
  refine (calcFor2_C _ _ _ hF (w.heap.size + 1) b a (by omega) (by omega) _ (by simp) (by simp) (by simp)).mono ?_
  rintro e w1 ⟨c, rfl, hb1, hC, hc⟩
  have hB := (((Below.refl _ w).alloc (Nat.le_refl _) (.cells #[.int .i64 m, .int .i64 P] 31)).alloc (by simp) (.cells #[.int .i64 b, .int .i64 a] 2)).trans (hb1.mono (by simp; omega))
  clear hb1
  have e1 : IntKind.u8.wrap (a : Int) = a := by rw [IntKind.wrap_u8']; omega
  have e2 : IntKind.u8.wrap (b : Int) = b := by rw [IntKind.wrap_u8']; omega
  go_wp2_with (go_at_call 132; refine (order_any c m P n hF _ h0 hb _ hC).mono ?_; rintro e w' ⟨rfl, rfl⟩)
  go_loop [10, 11, 29] (fun s _ i => ∃ j : Nat, j ≤ k ∧ i = .int .i64 j ∧ s = .int .u8 (pw P b j)) (fun _ _ i => 50 - (intOf i).toNat)
  case atStart => exact ⟨0, Nat.zero_le _, rfl, rfl⟩
  case round =>
    obtain ⟨j, hj, rfl, rfl⟩ := hrel
    have hlt := pw_lt hF b j
    by_cases hjk : j < k
    · have hp := HNE.out j hjk
      have g : ((pw P b j : Int) == (a : Int)) = false := by simp; omega
      have HP := Lib.hid hp
      clear hp
      go_wp2_with (go_at_call 127; refine (product_any c m P n hF _ _ hlt hb _ hC).mono ?_; rintro e w' ⟨rfl, rfl⟩)
      go_round
      case rel => exact ⟨j + 1, by omega, by go_num, rfl⟩
      case measure => simp [intOf]; omega
    · obtain rfl : j = k := by omega
      have g : ((pw P b j : Int) == (a : Int)) = true := by rw [HV.out]; simp
      go_wp2
      go_ret2
      exact ⟨rfl, hB⟩

set_option maxHeartbeats 1600000 in
theorem implLogIn_N (m P n : Nat) (hF : Fld m P n) (b a : Nat) (h0 : 0 < b) (hb : b < n) (ha : a < n) (hno : ∀ j, j < ord P b → pw P b j ≠ a) (w : World) :
    Calls Try.prog 59 #[.agg #[.int .i64 m, .int .i64 P], .int .i64 b, .int .i64 a] w fun e w' => e = .returned (.tuple #[.int .i64 0, .int .i64 6]) ∧ Below w.heap.size w w' := by
  have hn := hF.n2
  have h32 := hF.n32
  have hol := (ord_lt hF h0 hb).2
  have g0 : ((b : Int) == 0) = false := by simp; omega
  have HNE := Lib.hid hno
  clear hno
  go_enter Try.func59, Try.ntmps59
  go_wp2_with fail
  refine (calcFor2_C _ _ _ hF (w.heap.size + 1) b a (by omega) (by omega) _ (by simp) (by simp) (by simp)).mono ?_
  rintro e w1 ⟨c, rfl, hb1, hC, hc⟩
  have hB := (((Below.refl _ w).alloc (Nat.le_refl _) (.cells #[.int .i64 m, .int .i64 P] 31)).alloc (by simp) (.cells #[.int .i64 b, .int .i64 a] 2)).trans (hb1.mono (by simp; omega))
  clear hb1
  have e1 : IntKind.u8.wrap (a : Int) = a := by rw [IntKind.wrap_u8']; omega
  have e2 : IntKind.u8.wrap (b : Int) = b := by rw [IntKind.wrap_u8']; omega
  go_wp2_with (go_at_call 132; refine (order_any c m P n hF _ h0 hb _ hC).mono ?_; rintro e w' ⟨rfl, rfl⟩)
  go_loop [10, 11, 29] (fun s _ i => ∃ j : Nat, j ≤ ord P b ∧ i = .int .i64 j ∧ s = .int .u8 (pw P b j)) (fun _ _ i => 50 - (intOf i).toNat)
  case atStart => exact ⟨0, Nat.zero_le _, rfl, rfl⟩
  case round =>
    obtain ⟨j, hj, rfl, rfl⟩ := hrel
    have hlt := pw_lt hF b j
    by_cases hjk : j < ord P b
    · have hp := HNE.out j hjk
      have g : ((pw P b j : Int) == (a : Int)) = false := by simp; omega
      have HP := Lib.hid hp
      clear hp
      go_wp2_with (go_at_call 127; refine (product_any c m P n hF _ _ hlt hb _ hC).mono ?_; rintro e w' ⟨rfl, rfl⟩)
      go_round
      case rel => exact ⟨j + 1, by omega, by go_num, rfl⟩
      case measure => simp [intOf]; omega
    · have hjo : ord P b ≤ j := by omega
      go_wp2
      go_ret2
      exact ⟨rfl, hB⟩
end Go.Proofs.Ytibennpdffgomaa
