/- Plain arithmetic of polynomials over two elements, and of the fields of degrees 1 to 5: no program in sight. -/
import Derived.Lib.BitFns
namespace Go.Proofs.Ytfpahdbkcdpchaa

/-- The length of a number in bits. -/
def nb (p : Nat) : Nat := if p = 0 then 0 else p.log2 + 1

theorem nb_zero : nb 0 = 0 := rfl
theorem nb_pos {p : Nat} (h : 0 < p) : 0 < nb p := by unfold nb; rw [if_neg (by omega)]; omega
theorem nb_half {p : Nat} (h : 0 < p) : nb p = nb (p / 2) + 1 := by
  unfold nb
  rw [if_neg (by omega)]
  by_cases h2 : 2 ≤ p
  · rw [if_neg (by omega), Nat.log2_def, if_pos h2]
  · have : p = 1 := by omega
    subst this; rfl
theorem nb_lt {p : Nat} : p < 2 ^ nb p := by
  unfold nb
  split
  · subst_vars; simp
  · exact Nat.lt_log2_self
theorem nb_le {p : Nat} (h : 0 < p) : 2 ^ (nb p - 1) ≤ p := by
  unfold nb; rw [if_neg (by omega)]
  exact Nat.log2_self_le (by omega)
theorem nb_le_of_lt {p k : Nat} (h : p < 2 ^ k) : nb p ≤ k := by
  by_cases h0 : p = 0
  · subst h0; simp [nb]
  · have h1 := nb_le (p := p) (by omega)
    have h2 : 2 ^ (nb p - 1) < 2 ^ k := by omega
    have := (Nat.pow_lt_pow_iff_right (by omega : 1 < 2)).1 h2
    omega
theorem bitLen_nb : ∀ (f p : Nat), p < 2 ^ f → Lib.bitLenAux f p = nb p := by
  intro f
  induction f with
  | zero => intro p h; have : p = 0 := by simpa using h
            subst this; rfl
  | succ f ih =>
    intro p h
    by_cases h0 : p = 0
    · subst h0; simp [Lib.bitLenAux, nb]
    · rw [nb_half (by omega), ← ih (p / 2) (by rw [Nat.pow_succ] at h; omega)]
      simp only [Lib.bitLenAux, if_neg h0]; omega
theorem bitLen_eq {p : Nat} (h : p < 2 ^ 64) : Lib.bitLen p = nb p := bitLen_nb 64 p h

/-- One step of the division: the leading bit goes. -/
theorem step_lt {p q : Nat} (hq : 0 < q) (h : nb q ≤ nb p) : p ^^^ (q * 2 ^ (nb p - nb q)) < 2 ^ (nb p - 1) := by
  have hqp := nb_pos hq
  have hp : 0 < p := by
    cases p with
    | zero => simp [nb] at h; omega
    | succ n => omega
  have a1 := nb_lt (p := p)
  have a2 := nb_le hp
  have b1 := nb_lt (p := q)
  have b2 := nb_le hq
  have e1 : 2 ^ nb p = 2 * 2 ^ (nb p - 1) := by
    rw [← Nat.pow_succ']; congr 1; omega
  have c1 : q * 2 ^ (nb p - nb q) < 2 ^ nb p := by
    calc q * 2 ^ (nb p - nb q) < 2 ^ nb q * 2 ^ (nb p - nb q) := Nat.mul_lt_mul_of_pos_right b1 (Nat.two_pow_pos _)
      _ = 2 ^ nb p := by rw [← Nat.pow_add]; congr 1; omega
  have c2 : 2 ^ (nb p - 1) ≤ q * 2 ^ (nb p - nb q) := by
    calc 2 ^ (nb p - 1) = 2 ^ (nb q - 1) * 2 ^ (nb p - nb q) := by rw [← Nat.pow_add]; congr 1; omega
      _ ≤ q * 2 ^ (nb p - nb q) := Nat.mul_le_mul_right _ b2
  generalize hs : q * 2 ^ (nb p - nb q) = s at *
  generalize hk : nb p - 1 = k at *
  refine Nat.lt_pow_two_of_testBit _ (fun i hi => ?_)
  rw [Nat.testBit_xor]
  by_cases e : i = k
  · subst e
    have t1 : p.testBit i = true := by
      rw [Nat.testBit_eq_decide_div_mod_eq]
      have : p / 2 ^ i = 1 := Nat.div_eq_of_lt_le (by omega) (by omega)
      rw [this]; rfl
    have t2 : s.testBit i = true := by
      rw [Nat.testBit_eq_decide_div_mod_eq]
      have : s / 2 ^ i = 1 := Nat.div_eq_of_lt_le (by omega) (by omega)
      rw [this]; rfl
    rw [t1, t2]; rfl
  · have hi' : 2 ^ nb p ≤ 2 ^ i := Nat.pow_le_pow_right (by omega) (by omega)
    rw [Nat.testBit_lt_two_pow (by omega : p < 2 ^ i), Nat.testBit_lt_two_pow (by omega : s < 2 ^ i)]; rfl

/-- One step of the division. -/
def stepp (p q : Nat) : Nat := p ^^^ (q * 2 ^ (nb p - nb q))
/-- The prest of the division, by fuel. -/
def prestF : Nat → Nat → Nat → Nat
  | 0, p, _ => p
  | f + 1, p, q => if nb p < nb q then p else prestF f (stepp p q) q
def prest (p q : Nat) : Nat := prestF (nb p) p q

theorem nb_stepp {p q : Nat} (hq : 0 < q) (h : nb q ≤ nb p) : nb (stepp p q) < nb p := by
  have h1 := nb_le_of_lt (step_lt hq h)
  have := nb_pos hq
  unfold stepp; omega
theorem stepp_lt {p q : Nat} (hq : 0 < q) (h : nb q ≤ nb p) : stepp p q < p := by
  have hp : 0 < p := by
    have := nb_pos hq
    cases p with
    | zero => simp [nb] at h; omega
    | succ n => omega
  have h1 := step_lt hq h
  have h2 := nb_le hp
  unfold stepp; omega
theorem prestF_two {q : Nat} (hq : 0 < q) : ∀ (f g p : Nat), nb p ≤ f → nb p ≤ g → prestF f p q = prestF g p q := by
  have hq' := nb_pos hq
  intro f
  induction f with
  | zero =>
    intro g p h _
    cases g with
    | zero => rfl
    | succ g => simp only [prestF]; rw [if_pos (by omega)]
  | succ f ih =>
    intro g p h h'
    cases g with
    | zero => simp only [prestF]; rw [if_pos (by omega)]
    | succ g =>
      simp only [prestF]
      by_cases hlt : nb p < nb q
      · rw [if_pos hlt, if_pos hlt]
      · rw [if_neg hlt, if_neg hlt]
        have hs := nb_stepp (p := p) hq (by omega)
        exact ih g _ (by omega) (by omega)
theorem prestF_fuel (f p q : Nat) (hq : 0 < q) (h : nb p ≤ f) : prestF f p q = prest p q := prestF_two hq f (nb p) p h (Nat.le_refl _)
theorem prest_lt {p q : Nat} (h : nb p < nb q) : prest p q = p := by
  unfold prest
  cases hn : nb p with
  | zero => rfl
  | succ n => simp only [prestF]; rw [if_pos (by omega)]
theorem prest_step {p q : Nat} (hq : 0 < q) (h : nb q ≤ nb p) : prest (stepp p q) q = prest p q := by
  have hs := nb_stepp hq h
  have hq' := nb_pos hq
  obtain ⟨n, hn⟩ : ∃ n, nb p = n + 1 := ⟨nb p - 1, by omega⟩
  conv => rhs; unfold prest; rw [hn]; simp only [prestF]; rw [if_neg (by omega)]
  exact (prestF_fuel n _ q hq (by omega)).symm

theorem prest_nb {q : Nat} (hq : 0 < q) : ∀ (f p : Nat), nb p ≤ f → nb (prestF f p q) < nb q := by
  have hq' := nb_pos hq
  intro f
  induction f with
  | zero => intro p h; simp only [prestF]; omega
  | succ f ih =>
    intro p h
    simp only [prestF]
    by_cases hlt : nb p < nb q
    · rw [if_pos hlt]; exact hlt
    · rw [if_neg hlt]
      have hs := nb_stepp (p := p) hq (by omega)
      exact ih _ (by omega)
theorem prest_bound {p q k : Nat} (hq : 0 < q) (hk : nb q ≤ k + 1) : prest p q < 2 ^ k := by
  have h := prest_nb hq (nb p) p (Nat.le_refl _)
  have h2 : prest p q < 2 ^ nb (prest p q) := nb_lt
  have h3 : nb (prest p q) ≤ k := by unfold prest; omega
  exact Nat.lt_of_lt_of_le h2 (Nat.pow_le_pow_right (by omega) h3)

/-- The product without carries of a and the last n bits of b. -/
def cl : Nat → Nat → Nat → Nat
  | 0, _, _ => 0
  | n + 1, a, b => if b / 2 ^ n % 2 = 1 then cl n a b ^^^ (a * 2 ^ n) else cl n a b
theorem cl_lt {a b k : Nat} (ha : a < 2 ^ k) : ∀ n, cl n a b < 2 ^ (k + n) := by
  intro n
  induction n with
  | zero => exact Nat.two_pow_pos _
  | succ n ih =>
    have h1 : cl n a b < 2 ^ (k + (n + 1)) := Nat.lt_trans ih (Nat.pow_lt_pow_right (by omega) (by omega))
    have h2 : a * 2 ^ n < 2 ^ (k + (n + 1)) := by
      calc a * 2 ^ n < 2 ^ k * 2 ^ n := Nat.mul_lt_mul_of_pos_right ha (Nat.two_pow_pos _)
        _ = 2 ^ (k + n) := by rw [← Nat.pow_add]
        _ < 2 ^ (k + (n + 1)) := Nat.pow_lt_pow_right (by omega) (by omega)
    simp only [cl]
    split
    · exact Nat.xor_lt_two_pow h1 h2
    · exact h1
theorem cl_more {a b m : Nat} (hb : b < 2 ^ m) : ∀ n, m ≤ n → cl n a b = cl m a b := by
  intro n
  induction n with
  | zero => intro h; obtain rfl : m = 0 := by omega
            rfl
  | succ n ih =>
    intro h
    by_cases e : m = n + 1
    · rw [e]
    · have : b / 2 ^ n = 0 := Nat.div_eq_of_lt (Nat.lt_of_lt_of_le hb (Nat.pow_le_pow_right (by omega) (by omega)))
      simp only [cl]
      rw [this, if_neg (by omega)]
      exact ih (by omega)

/-- The irreducible polynomials of a degree from 1 to 5. -/
def irr (p : Nat) : Bool := [2, 3, 7, 11, 13, 19, 25, 31, 37, 41, 47, 55, 59, 61].contains p
/-- A field: its degree and its polynomial. -/
def fld (m P : Nat) : Bool := irr P && nb P == m + 1
/-- The product in a field. -/
def mul (P a b : Nat) : Nat := prest (cl 5 a b) P

theorem fld_irr {m P : Nat} (h : fld m P = true) : irr P = true := by unfold fld at h; simp at h; exact h.1
theorem fld_nb {m P : Nat} (h : fld m P = true) : nb P = m + 1 := by unfold fld at h; simp at h; exact h.2
theorem irr_lt {P : Nat} (h : irr P = true) : 2 ≤ P ∧ P < 64 := by
  unfold irr at h; simp at h; omega
theorem irr_nb {P : Nat} (h : irr P = true) : 2 ≤ nb P ∧ nb P ≤ 6 := by
  have : ∀ p : Fin 64, irr p.val = true → 2 ≤ nb p.val ∧ nb p.val ≤ 6 := by decide +kernel
  exact this ⟨P, (irr_lt h).2⟩ h
theorem fld_deg {m P : Nat} (h : fld m P = true) : 1 ≤ m ∧ m ≤ 5 := by
  have h1 := fld_nb h
  have h2 := irr_nb (fld_irr h)
  omega
theorem mul_lt {m P a b : Nat} (h : fld m P = true) : mul P a b < 2 ^ m :=
  prest_bound (by have := irr_lt (fld_irr h); omega) (by rw [fld_nb h]; omega)

/-- No number from 2 to q - 1 divides p. -/
def noDiv (p : Nat) : Nat → Bool
  | 0 => true
  | q + 1 => noDiv p q && (decide (q < 2) || prest p q != 0)
theorem irr_no : ∀ p q : Fin 64, 2 ≤ q.val → nb q.val < nb p.val → prest p.val q.val = 0 → irr p.val = false := by decide +kernel
theorem irr_yes : ∀ p q : Fin 65, 2 ≤ p.val → p.val < 64 → nb p.val ≤ nb q.val → noDiv p.val q.val = true → irr p.val = true := by decide +kernel

end Go.Proofs.Ytfpahdbkcdpchaa
