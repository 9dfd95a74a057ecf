/- Fields, squarings, powers and inverses as numbers. Pure, of no program. -/
import Derived.Test.YtllojcndhkpfmaaDoorPure
import Derived.Test.YtllojcndhkpfmaaDoorBits
namespace Go.Proofs.YtllojcndhkpfmaaDoor
open Go.RowKit
set_option linter.unusedVariables false

/-- A field of the degree m with the polynomial P and n elements. -/
structure Fld (m P n : Nat) : Prop where
  f : fld m P = true
  n : 2 ^ m = n
theorem Fld.m1 {m P n : Nat} (h : Fld m P n) : 1 ≤ m := (fld_deg h.f).1
theorem Fld.m5 {m P n : Nat} (h : Fld m P n) : m ≤ 5 := (fld_deg h.f).2
theorem Fld.n2 {m P n : Nat} (h : Fld m P n) : 2 ≤ n := by
  rw [← h.n]
  calc 2 = 2 ^ 1 := rfl
    _ ≤ 2 ^ m := Nat.pow_le_pow_right (by omega) h.m1
theorem Fld.n32 {m P n : Nat} (h : Fld m P n) : n ≤ 32 := by
  rw [← h.n]
  calc 2 ^ m ≤ 2 ^ 5 := Nat.pow_le_pow_right (by omega) h.m5
    _ = 32 := rfl
theorem Fld.P2 {m P n : Nat} (h : Fld m P n) : 2 ≤ P := (irr_lt (fld_irr h.f)).1
theorem Fld.P64 {m P n : Nat} (h : Fld m P n) : P < 64 := (irr_lt (fld_irr h.f)).2
theorem Fld.mul_lt {m P n : Nat} (h : Fld m P n) (a b : Nat) : mul P a b < n := by rw [← h.n]; exact Go.Proofs.YtllojcndhkpfmaaDoor.mul_lt h.f
theorem Fld.of {m P : Nat} (h : fld m P = true) : Fld m P (2 ^ m) := ⟨h, rfl⟩
theorem Fld.pow {m P n : Nat} (h : Fld m P n) : wrap64 ((2 : Int) ^ m) = (n : Int) := by
  have h5 := h.n32
  have := shl_nat 1 m (by rw [h.n]; omega)
  rw [← h.n]
  simpa using this

/-- What a becomes when it is squared k times. -/
def sq (P a : Nat) : Nat → Nat
  | 0 => a
  | k + 1 => mul P (sq P a k) (sq P a k)
theorem sq_lt {m P n a : Nat} (hF : Fld m P n) (ha : a < n) : ∀ k, sq P a k < n
  | 0 => ha
  | k + 1 => hF.mul_lt _ _
theorem sq_add (P a i : Nat) : ∀ j, sq P a (i + j) = sq P (sq P a i) j
  | 0 => rfl
  | j + 1 => by
    show mul P (sq P a (i + j)) (sq P a (i + j)) = mul P (sq P (sq P a i) j) (sq P (sq P a i) j)
    rw [sq_add P a i j]
theorem sq_deg_all : ∀ P : Fin 64, irr P.val = true → ∀ a : Fin 32, a.val < 2 ^ (nb P.val - 1) → sq P.val a.val (nb P.val - 1) = a.val := by decide +kernel
theorem sq_deg {m P n a : Nat} (hF : Fld m P n) (ha : a < n) : sq P a m = a := by
  have h1 := fld_nb hF.f
  have h2 := hF.n32
  have := sq_deg_all ⟨P, hF.P64⟩ (fld_irr hF.f) ⟨a, by omega⟩ (by show a < 2 ^ (nb P - 1); rw [h1]; simp; rw [hF.n]; exact ha)
  simp only [h1, Nat.add_sub_cancel] at this
  exact this
theorem sq_times {m P n a : Nat} (hF : Fld m P n) (ha : a < n) : ∀ t, sq P a (m * t) = a
  | 0 => rfl
  | t + 1 => by rw [Nat.mul_succ, sq_add, sq_times hF ha t, sq_deg hF ha]
theorem sq_mod {m P n a : Nat} (hF : Fld m P n) (ha : a < n) (k : Nat) : sq P a (k % m) = sq P a k := by
  conv => rhs; rw [← Nat.div_add_mod k m, sq_add, sq_times hF ha]

/-- The product of k factors a. -/
def pw (P a : Nat) : Nat → Nat
  | 0 => 1
  | k + 1 => mul P (pw P a k) a
theorem pw_lt {m P n : Nat} (hF : Fld m P n) (a : Nat) : ∀ k, pw P a k < n
  | 0 => by have := hF.n2; simp [pw]; omega
  | k + 1 => hF.mul_lt _ _

theorem inv_all : ∀ P : Fin 64, irr P.val = true → ∀ a : Fin 32, 0 < a.val → a.val < 2 ^ (nb P.val - 1) → mul P.val a.val (pw P.val a.val (2 ^ (nb P.val - 1) - 2)) = 1 := by decide +kernel
theorem inv_one_all : ∀ P : Fin 64, irr P.val = true → ∀ a : Fin 32, a.val < 2 ^ (nb P.val - 1) → ∀ k : Fin 32, k.val < 2 ^ (nb P.val - 1) → mul P.val a.val k.val = 1 → k.val = pw P.val a.val (2 ^ (nb P.val - 1) - 2) := by decide +kernel
theorem inv_is {m P n a : Nat} (hF : Fld m P n) (h0 : 0 < a) (ha : a < n) : mul P a (pw P a (n - 2)) = 1 := by
  have h1 := fld_nb hF.f
  have h2 := hF.n32
  have := inv_all ⟨P, hF.P64⟩ (fld_irr hF.f) ⟨a, by omega⟩ h0 (by show a < 2 ^ (nb P - 1); rw [h1]; simp; rw [hF.n]; exact ha)
  simp only [h1, Nat.add_sub_cancel, hF.n] at this
  exact this
theorem inv_one {m P n a k : Nat} (hF : Fld m P n) (ha : a < n) (hk : k < n) (h : mul P a k = 1) : k = pw P a (n - 2) := by
  have h1 := fld_nb hF.f
  have h2 := hF.n32
  have := inv_one_all ⟨P, hF.P64⟩ (fld_irr hF.f) ⟨a, by omega⟩ (by show a < 2 ^ (nb P - 1); rw [h1]; simp; rw [hF.n]; exact ha) ⟨k, by omega⟩ (by show k < 2 ^ (nb P - 1); rw [h1]; simp; rw [hF.n]; exact hk) h
  simp only [h1, Nat.add_sub_cancel, hF.n] at this
  exact this
end Go.Proofs.YtllojcndhkpfmaaDoor
