/- Minimal polynomials of conjugates, their roots, traces: over all fields, by reckoning. -/
import Derived.Test.YtpjnpkgndghlhaaMinPure
import Derived.Test.YtpjnpkgndghlhaaTrace
import Derived.Test.YtpjnpkgndghlhaaDivPure
namespace Go.Proofs.Ytpjnpkgndghlhaa
open Go.RowKit
set_option linter.unusedVariables false

/-- The value of a polynomial over two elements: of its first k coefficients. -/
def evP (P p x : Nat) : Nat → Nat
  | 0 => 0
  | k + 1 => if p / 2 ^ k % 2 = 1 then evP P p x k ^^^ pw P x k else evP P p x k
theorem evP_lt {m P n p x : Nat} (hF : Fld m P n) (hx : x < n) : ∀ k, evP P p x k < n
  | 0 => by have := hF.n2; simp only [evP]; omega
  | k + 1 => by
    simp only [evP]
    split
    · exact xor_ltn hF (evP_lt hF hx k) (pw_lt hF x k)
    · exact evP_lt hF hx k
/-- What is asked of an element x of a field of the degree m with the minimal polynomial p and r conjugates. -/
def okMin (P m x r p : Nat) : Bool := irr p && decide (p < 64) && m % r == 0 && evP P p x (r + 1) == 0
theorem min_all : ∀ P : Fin 64, irr P.val = true → ∀ a : Fin 32, a.val < 2 ^ (nb P.val - 1) → okMin P.val (nb P.val - 1) a.val (orbF P.val a.val (nb P.val - 1) 1) (mpV P.val a.val (nb P.val - 1)) = true := by decide +kernel
theorem same_all : ∀ P : Fin 64, irr P.val = true → ∀ a : Fin 32, a.val < 2 ^ (nb P.val - 1) → orbF P.val (mul P.val a.val a.val) (nb P.val - 1) 1 = orbF P.val a.val (nb P.val - 1) 1 ∧ mpV P.val (mul P.val a.val a.val) (nb P.val - 1) = mpV P.val a.val (nb P.val - 1) := by decide +kernel
theorem fld_all {m P n a : Nat} (hF : Fld m P n) (ha : a < n) {q : Nat → Nat → Nat → Prop} (h : ∀ P : Fin 64, irr P.val = true → ∀ a : Fin 32, a.val < 2 ^ (nb P.val - 1) → q P.val a.val (nb P.val - 1)) : q P a m := by
  have := h ⟨P, hF.P64⟩ (fld_irr hF.f) ⟨a, (fin_of hF ha).1⟩ (fin_of hF ha).2
  simpa only [fld_nb hF.f, Nat.add_sub_cancel] using this
theorem orb_is {m P n a r : Nat} (hF : Fld m P n) (ho : Orb P a r) (hr : r ≤ m) : orbF P a m 1 = r := by
  have := ho.r1
  exact orbF_eq ho m 1 (by omega) (by omega) (by omega)
theorem min_fld {m P n a r : Nat} (hF : Fld m P n) (ha : a < n) (ho : Orb P a r) (hr : r ≤ m) : irr (mpV P a m) = true ∧ mpV P a m < 64 ∧ m % r = 0 ∧ evP P (mpV P a m) a (r + 1) = 0 := by
  have := fld_all hF ha (q := fun P a m => okMin P m a (orbF P a m 1) (mpV P a m) = true) min_all
  rw [orb_is hF ho hr] at this
  simp only [okMin, Bool.and_eq_true, decide_eq_true_eq, beq_iff_eq] at this
  exact ⟨this.1.1.1, this.1.1.2, this.1.2, this.2⟩
/-- All conjugates have the same minimal polynomial, and are as many. -/
theorem same_fld {m P n a : Nat} (hF : Fld m P n) (ha : a < n) : ∀ t, orbF P (sq P a t) m 1 = orbF P a m 1 ∧ mpV P (sq P a t) m = mpV P a m
  | 0 => ⟨rfl, rfl⟩
  | t + 1 => by
    have h := fld_all hF (sq_lt hF ha t) (q := fun P a m => orbF P (mul P a a) m 1 = orbF P a m 1 ∧ mpV P (mul P a a) m = mpV P a m) same_all
    have ih := same_fld hF ha t
    exact ⟨h.1.trans ih.1, h.2.trans ih.2⟩
theorem root_fld {m P n a r : Nat} (hF : Fld m P n) (ha : a < n) (ho : Orb P a r) (hr : r ≤ m) (t : Nat) : evP P (mpV P a m) (sq P a t) (r + 1) = 0 := by
  obtain ⟨r', hr', ho'⟩ := orb_some hF (sq_lt hF ha t)
  have h1 := (min_fld hF (sq_lt hF ha t) ho' hr').2.2.2
  have h2 := same_fld hF ha t
  rw [orb_is hF ho' hr', orb_is hF ho hr] at h2
  rw [h2.1, h2.2] at h1
  exact h1
theorem tr_xor {m P n a b : Nat} (hF : Fld m P n) (ha : a < n) (hb : b < n) : ∀ k, tr P (a ^^^ b) k = tr P a k ^^^ tr P b k
  | 0 => by simp [tr]
  | k + 1 => by
    simp only [tr, tr_xor hF ha hb k, sq_xor hF ha hb k]
    rw [Nat.xor_assoc, Nat.xor_assoc]
    congr 1
    rw [← Nat.xor_assoc, Nat.xor_comm (tr P b k), Nat.xor_assoc]
theorem tr_bit_all : ∀ P : Fin 64, irr P.val = true → ∀ a : Fin 32, a.val < 2 ^ (nb P.val - 1) → tr P.val a.val (nb P.val - 1) < 2 := by decide +kernel
theorem tr_bit {m P n a : Nat} (hF : Fld m P n) (ha : a < n) : tr P a m < 2 := fld_all hF ha (q := fun P a m => tr P a m < 2) tr_bit_all
/-- How many of the first k elements have the trace 1. -/
def trN (P m : Nat) : Nat → Nat
  | 0 => 0
  | k + 1 => trN P m k + tr P k m
theorem trN_all : ∀ P : Fin 64, irr P.val = true → 2 * trN P.val (nb P.val - 1) (2 ^ (nb P.val - 1)) = 2 ^ (nb P.val - 1) := by decide +kernel
theorem trN_half {m P n : Nat} (hF : Fld m P n) : 2 * trN P m n = n := by
  have := trN_all ⟨P, hF.P64⟩ (fld_irr hF.f)
  simp only [fld_nb hF.f, Nat.add_sub_cancel, hF.n] at this
  exact this
theorem spl_all : ∀ P : Fin 64, irr P.val = true → ∀ a : Fin 32, a.val < 2 ^ (nb P.val - 1) → ((List.range (2 ^ (nb P.val - 1))).any fun b => (b ^^^ mul P.val b b) == a.val) = (tr P.val a.val (nb P.val - 1) == 0) := by decide +kernel
theorem spl_some {m P n a : Nat} (hF : Fld m P n) (ha : a < n) : (tr P a m = 0 → ∃ b, b < n ∧ (b ^^^ mul P b b) = a) ∧ (tr P a m ≠ 0 → ∀ b, b < n → (b ^^^ mul P b b) ≠ a) := by
  have h := fld_all hF ha (q := fun P a m => ((List.range (2 ^ m)).any fun b => (b ^^^ mul P b b) == a) = (tr P a m == 0)) spl_all
  rw [hF.n] at h
  refine ⟨fun h0 => ?_, fun h0 b hb he => ?_⟩
  · rw [h0] at h
    obtain ⟨b, hb, he⟩ := List.any_eq_true.1 (h.trans rfl)
    exact ⟨b, by simpa using hb, by simpa using he⟩
  · have : ((List.range n).any fun b => (b ^^^ mul P b b) == a) = true := List.any_eq_true.2 ⟨b, by simpa using hb, by simpa using he⟩
    rw [this] at h
    exact h0 (by simpa using h.symm)
end Go.Proofs.Ytpjnpkgndghlhaa
