/- Minimal polynomials as numbers: the product of x minus the conjugates, coefficient by coefficient. -/
import Derived.Test.YtpjnpkgndghlhaaConj
import Derived.Test.YtpjnpkgndghlhaaDivPure
namespace Go.Proofs.Ytpjnpkgndghlhaa
open Go.RowKit
set_option linter.unusedVariables false

/-- One factor more: the coefficients of f times (x + c). -/
def mpS (P c : Nat) (f : Nat → Nat) (i : Nat) : Nat := (if i = 0 then 0 else f (i - 1)) ^^^ mul P (f i) c
/-- The coefficients of the product over the first k conjugates. -/
def mpF (P a : Nat) : Nat → Nat → Nat
  | 0 => fun i => if i = 0 then 1 else 0
  | k + 1 => mpS P (sq P a k) (mpF P a k)
/-- The first k coefficients as the bits of a number. -/
def mpO (f : Nat → Nat) : Nat → Nat
  | 0 => 0
  | k + 1 => mpO f k ||| f k * 2 ^ k
theorem xor_ltn {m P n x y : Nat} (hF : Fld m P n) (hx : x < n) (hy : y < n) : x ^^^ y < n := by rw [← hF.n] at hx hy ⊢; exact Nat.xor_lt_two_pow hx hy
theorem mpS_lt {m P n c : Nat} (hF : Fld m P n) {f : Nat → Nat} (hf : ∀ i, f i < n) (i : Nat) : mpS P c f i < n := by
  have := hF.n2
  unfold mpS
  exact xor_ltn hF (by split; omega; exact hf _) (hF.mul_lt _ _)
theorem mpF_lt {m P n a : Nat} (hF : Fld m P n) : ∀ k i, mpF P a k i < n
  | 0, i => by have := hF.n2; simp only [mpF]; split <;> omega
  | k + 1, i => mpS_lt hF (mpF_lt hF k) i
theorem mpF_top {m P n a : Nat} (hF : Fld m P n) (ha : a < n) : ∀ k i, k < i → mpF P a k i = 0
  | 0, i, h => by simp only [mpF]; rw [if_neg (by omega)]
  | k + 1, i, h => by
    simp only [mpF, mpS]
    rw [mpF_top hF ha k i (by omega), zero_mul' hF (sq_lt hF ha k), Nat.xor_zero]
    split
    · rfl
    · exact mpF_top hF ha k (i - 1) (by omega)
theorem mpO_lt {f : Nat → Nat} (hf : ∀ i, f i < 32) : ∀ k, mpO f k < 2 ^ (k + 5)
  | 0 => by simp [mpO]
  | k + 1 => by
    have h1 := mpO_lt hf k
    have h2 : f k * 2 ^ k < 2 ^ (k + 1 + 5) := by
      have := hf k
      have e : 2 ^ (k + 1 + 5) = 64 * 2 ^ k := by rw [show k + 1 + 5 = k + 6 by omega, Nat.pow_add]; omega
      rw [e]
      exact Nat.mul_lt_mul_of_pos_right (by omega) (Nat.two_pow_pos k)
    exact Nat.or_lt_two_pow (Nat.lt_of_lt_of_le h1 (Nat.pow_le_pow_right (by omega) (by omega))) h2
theorem mpO_more {f : Nat → Nat} {k : Nat} : ∀ j, (∀ i, k ≤ i → i < k + j → f i = 0) → mpO f (k + j) = mpO f k
  | 0, _ => rfl
  | j + 1, h => by
    show mpO f (k + j) ||| f (k + j) * 2 ^ (k + j) = _
    rw [h (k + j) (by omega) (by omega), Nat.zero_mul, Nat.or_zero]
    exact mpO_more j (fun i h1 h2 => h i h1 (by omega))
def orbF (P a : Nat) : Nat → Nat → Nat
  | 0, k => k
  | f + 1, k => if sq P a k = a then k else orbF P a f (k + 1)
theorem orbF_eq {P a r : Nat} (h : Orb P a r) : ∀ f k, 1 ≤ k → k ≤ r → r ≤ k + f → orbF P a f k = r
  | 0, k, h1, h2, h3 => by simp only [orbF]; omega
  | f + 1, k, h1, h2, h3 => by
    simp only [orbF]
    split
    · rename_i e
      by_cases hk : k = r
      · exact hk
      · exact absurd e (h.not k h1 (by omega))
    · rename_i e
      have hk : k ≠ r := fun hk => e (by rw [hk]; exact h.back)
      exact orbF_eq h f (k + 1) (by omega) (by omega) (by omega)
/-- The minimal polynomial. -/
def mpV (P a m : Nat) : Nat := mpO (mpF P a (orbF P a m 1)) (orbF P a m 1 + 1)
theorem mpV_eq {m P a r : Nat} (h : Orb P a r) (hr : r ≤ m) : mpV P a m = mpO (mpF P a r) (r + 1) := by
  have := h.r1
  rw [mpV, orbF_eq h m 1 (by omega) (by omega) (by omega)]
theorem mpV_six {m P n a r : Nat} (hF : Fld m P n) (ha : a < n) (h : Orb P a r) (hr : r ≤ m) : mpV P a m = mpO (mpF P a r) 6 := by
  have := hF.m5
  rw [mpV_eq h hr]
  obtain ⟨j, hj⟩ : ∃ j, 6 = r + 1 + j := ⟨5 - r, by omega⟩
  rw [hj]
  exact (mpO_more j (fun i h1 h2 => mpF_top hF ha r i (by omega))).symm
theorem or_step (o x k : Nat) (ho : o < 4611686018427387904) (hx : x < 32) (hk : k ≤ 6) : bits .or .i64 (o : Int) ((x : Int) * 2 ^ k) = ((o ||| x * 2 ^ k : Nat) : Int) := by
  have e : (x : Int) * 2 ^ k = ((x * 2 ^ k : Nat) : Int) := by simp
  have h1 : 2 ^ k ≤ 2 ^ 6 := Nat.pow_le_pow_right (by omega) hk
  have h2 : x * 2 ^ k ≤ 31 * 64 := Nat.mul_le_mul (by omega) h1
  rw [e, i64_or_nat o _ ho (by omega)]
end Go.Proofs.Ytpjnpkgndghlhaa
