/- Orders of elements: what the model's and the program's methods return. -/
import Derived.Test.YtibennpdffgomaaTimes
namespace Go.Proofs.Ytibennpdffgomaa
open Go.RowKit
set_option linter.unusedVariables false

/-- From the power x, which has the exponent k, on: the exponent at which 1 is met. -/
def ordF (P a : Nat) : Nat → Nat → Nat → Nat
  | 0, _, k => k
  | f + 1, x, k => if x = 1 then k else ordF P a f (mul P x a) (k + 1)
/-- 1 is met within f steps. -/
def ordOk (P a : Nat) : Nat → Nat → Bool
  | 0, _ => false
  | f + 1, x => x == 1 || ordOk P a f (mul P x a)
def ord (P a : Nat) : Nat := ordF P a 40 a 1
theorem ordOk_all : ∀ P : Fin 64, irr P.val = true → ∀ a : Fin 32, 0 < a.val → a.val < 2 ^ (nb P.val - 1) → ordOk P.val a.val 40 a.val = true := by decide +kernel
theorem ordOk_fld {m P n a : Nat} (hF : Fld m P n) (h0 : 0 < a) (ha : a < n) : ordOk P a 40 a = true := by
  have h1 := fld_nb hF.f
  have h2 := hF.n32
  exact ordOk_all ⟨P, hF.P64⟩ (fld_irr hF.f) ⟨a, by omega⟩ h0 (by show a < 2 ^ (nb P - 1); rw [h1]; simp; rw [hF.n]; exact ha)
theorem ordF_le (P a : Nat) : ∀ f x k, ordF P a f x k ≤ k + f
  | 0, _, k => by simp [ordF]
  | f + 1, x, k => by
    simp only [ordF]
    split
    · omega
    · have := ordF_le P a f (mul P x a) (k + 1); omega
theorem ord_le (P a : Nat) : ord P a ≤ 41 := by have := ordF_le P a 40 a 1; unfold ord; omega

set_option maxHeartbeats 800000 in
theorem order_any (c m P n : Nat) (hF : Fld m P n) (a : Nat) (h0 : 0 < a) (ha : a < n) (w : World) (hC : Calc c m P n w) :
    Calls Try.prog 132 #[.pointer (some ⟨c, 0, none⟩), .int .u8 a] w fun e w' => e = .returned (.int .i64 (ord P a)) ∧ w = w' := by
  have HK := Lib.hid (ordOk_fld hF h0 ha)
  go_enter Try.func132, Try.ntmps132
  go_wp2
  go_loop [5, 6] (fun k s => ∃ f x i : Nat, i + f = 41 ∧ x < n ∧ ordOk P a f x = true ∧ ordF P a f x i = ord P a ∧ k = .int .i64 i ∧ s = .int .u8 x) (fun k _ => 50 - (intOf k).toNat)
  case atStart => exact ⟨40, a, 1, rfl, ha, HK.out, rfl, rfl, rfl⟩
  case round =>
    obtain ⟨f, x, i, hif, hx, hok, hord, rfl, rfl⟩ := hrel
    cases f with
    | zero => simp [ordOk] at hok
    | succ f =>
      by_cases hx1 : x = 1
      · subst hx1
        have HO := Lib.hid hord
        clear hok hord
        go_wp2
        go_ret
        exact ⟨ret_int (by have := HO.out; simp [ordF] at this; rw [this]), rfl⟩
      · have g : ((x : Int) != 1) = true := by simp; omega
        have HO := Lib.hid (show ordF P a f (mul P x a) (i + 1) = ord P a by rw [← hord]; simp only [ordF]; rw [if_neg hx1])
        have HOK := Lib.hid (show ordOk P a f (mul P x a) = true by simpa [ordOk, hx1] using hok)
        have hm := hF.mul_lt x a
        clear hok hord
        go_wp2_with (go_at_call 127; refine (product_any c m P n hF _ _ hx ha _ hC).mono ?_; rintro e w' ⟨rfl, rfl⟩)
        go_round
        case rel => exact ⟨f, mul P x a, i + 1, by omega, hm, HOK.out, HO.out, by go_num, rfl⟩
        case measure => simp [intOf]; omega

end Go.Proofs.Ytibennpdffgomaa
