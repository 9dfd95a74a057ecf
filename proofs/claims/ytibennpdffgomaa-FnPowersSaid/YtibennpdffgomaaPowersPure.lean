/- Powers, squarings, orders and logarithms as numbers: their laws. -/
import Derived.Test.YtibennpdffgomaaDivPure
import Derived.Test.YtibennpdffgomaaLogIn
import Derived.Test.YtibennpdffgomaaFirstPrimitive
namespace Go.Proofs.Ytibennpdffgomaa
open Go.RowKit
set_option linter.unusedVariables false

theorem pw_add {m P n a : Nat} (hF : Fld m P n) (ha : a < n) (i : Nat) : ∀ k, mul P (pw P a i) (pw P a k) = pw P a (i + k)
  | 0 => mul_one' hF (pw_lt hF a i)
  | k + 1 => by
    show mul P (pw P a i) (mul P (pw P a k) a) = mul P (pw P a (i + k)) a
    rw [← mul_assoc' hF (pw_lt hF a i) (pw_lt hF a k) ha, pw_add hF ha i k]
theorem sq_root {m P n a : Nat} (hF : Fld m P n) (ha : a < n) (k : Nat) : sq P (sq P a k) (m - k % m) = a := by
  have hm := hF.m1
  have h1 := Nat.mod_lt k (show 0 < m by omega)
  rw [← sq_add]
  have h2 := Nat.div_add_mod k m
  rw [show k + (m - k % m) = m * (k / m + 1) by rw [Nat.mul_succ]; omega]
  exact sq_times hF ha _
theorem ord_div_all : ∀ P : Fin 64, irr P.val = true → ∀ a : Fin 32, 0 < a.val → a.val < 2 ^ (nb P.val - 1) → (2 ^ (nb P.val - 1) - 1) % ord P.val a.val = 0 := by decide +kernel
theorem ord_div {m P n a : Nat} (hF : Fld m P n) (h0 : 0 < a) (ha : a < n) : (n - 1) % ord P a = 0 := by
  have := ord_div_all ⟨P, hF.P64⟩ (fld_irr hF.f) ⟨a, (fin_of hF ha).1⟩ h0 (fin_of hF ha).2
  simp only [fld_nb hF.f, Nat.add_sub_cancel, hF.n] at this
  exact this
theorem log_all : ∀ P : Fin 64, irr P.val = true → ∀ g : Fin 32, 0 < g.val → g.val < 2 ^ (nb P.val - 1) → ord P.val g.val = 2 ^ (nb P.val - 1) - 1 → ((List.range g.val).all fun j => j == 0 || ord P.val j != 2 ^ (nb P.val - 1) - 1) = true →
    ∀ a : Fin 32, 0 < a.val → a.val < 2 ^ (nb P.val - 1) → ((List.range (2 ^ (nb P.val - 1) - 1)).any fun k => pw P.val g.val k == a.val) = true := by decide +kernel
theorem log_ex {m P n g a : Nat} (hF : Fld m P n) (hg0 : 0 < g) (hgn : g < n) (hg : ord P g = n - 1) (hmin : ∀ j, 0 < j → j < g → ord P j ≠ n - 1) (h0 : 0 < a) (ha : a < n) : ∃ k, k < ord P g ∧ pw P g k = a := by
  have h1 := log_all ⟨P, hF.P64⟩ (fld_irr hF.f) ⟨g, (fin_of hF hgn).1⟩ hg0 (fin_of hF hgn).2 (by show ord P g = _; rw [fld_nb hF.f]; simp; rw [hF.n]; exact hg) (by
    rw [List.all_eq_true]
    intro j hj
    simp only [List.mem_range] at hj
    by_cases e : j = 0
    · simp [e]
    · have := hmin j (by omega) hj
      simp only [fld_nb hF.f, Nat.add_sub_cancel, hF.n]
      simp [this])
    ⟨a, (fin_of hF ha).1⟩ h0 (fin_of hF ha).2
  simp only [fld_nb hF.f, Nat.add_sub_cancel, hF.n] at h1
  obtain ⟨k, hk, he⟩ := List.any_eq_true.1 h1
  simp only [List.mem_range] at hk
  exact ⟨k, by omega, by simpa using he⟩
theorem first_of {p : Nat → Prop} [DecidablePred p] : ∀ o, (∃ k, k < o ∧ p k) → ∃ k, k < o ∧ p k ∧ ∀ j, j < k → ¬ p j
  | 0, ⟨k, h, _⟩ => absurd h (Nat.not_lt_zero k)
  | o + 1, ⟨k, h, hp⟩ => by
    by_cases hx : ∃ k, k < o ∧ p k
    · obtain ⟨j, h1, h2⟩ := first_of (p := p) o hx
      exact ⟨j, by omega, h2⟩
    · have hk : k = o := by
        by_cases e : k = o
        · exact e
        · exact absurd ⟨k, by omega, hp⟩ hx
      subst hk
      exact ⟨k, by omega, hp, fun j hj hpj => hx ⟨j, hj, hpj⟩⟩
/-- The least primitive element, with what makes it that. -/
theorem prim_min {m P n : Nat} (hF : Fld m P n) : ∃ g, 0 < g ∧ g < n ∧ ord P g = n - 1 ∧ ∀ j, 0 < j → j < g → ord P j ≠ n - 1 := by
  obtain ⟨g, h1, h2, h3⟩ := prim_ex hF
  obtain ⟨k, hk, ⟨h4, h5⟩, h6⟩ := first_of (p := fun g => 0 < g ∧ ord P g = n - 1) n ⟨g, h2, h1, h3⟩
  exact ⟨k, h4, hk, h5, fun j hj hjk he => h6 j hjk ⟨hj, he⟩⟩
theorem pw_nz {m P n a : Nat} (hF : Fld m P n) (ha : a < n) (h0 : a ≠ 0) : ∀ k, pw P a k ≠ 0
  | 0 => by show (1 : Nat) ≠ 0; decide
  | k + 1 => mul_ne hF (pw_lt hF a k) ha (pw_nz hF ha h0 k) h0
end Go.Proofs.Ytibennpdffgomaa
