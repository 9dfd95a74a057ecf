/- Plain arithmetic of polynomials over two elements, and of the fields of degrees 1 to 5: no program in sight. · Bit operations on int64 numbers that are not negative, as operations on natural numbers. · Fields, squarings, powers and inverses as numbers. Pure, of no program. -/
import Derived.Lib.BitFns
import Derived.WalkKit
import Derived.Laws.BitsAllLaws
namespace Go.Proofs.Ytlchelaohiojiaa

/-- The length of a number in bits. -/
def nb (p : Nat) : Nat := if p = 0 then 0 else p.log2 + 1

theorem nb_zero : nb 0 = 0 := rfl
theorem nb_pos {p : Nat} (h : 0 < p) : 0 < nb p := by unfold nb; rw [if_neg (by omega)]; omega
theorem nb_half {p : Nat} (h : 0 < p) : nb p = nb (p / 2) + 1 := by
  unfold nb
  rw [if_neg (by omega)]
  by_cases h2 : 2 ≤ p
  · rw [if_neg (by omega), Nat.log2_def, if_pos h2]
  · have : p = 1 := by omega
    subst this; rfl
theorem nb_lt {p : Nat} : p < 2 ^ nb p := by
  unfold nb
  split
  · subst_vars; simp
  · exact Nat.lt_log2_self
theorem nb_le {p : Nat} (h : 0 < p) : 2 ^ (nb p - 1) ≤ p := by
  unfold nb; rw [if_neg (by omega)]
  exact Nat.log2_self_le (by omega)
theorem nb_le_of_lt {p k : Nat} (h : p < 2 ^ k) : nb p ≤ k := by
  by_cases h0 : p = 0
  · subst h0; simp [nb]
  · have h1 := nb_le (p := p) (by omega)
    have h2 : 2 ^ (nb p - 1) < 2 ^ k := by omega
    have := (Nat.pow_lt_pow_iff_right (by omega : 1 < 2)).1 h2
    omega
theorem bitLen_nb : ∀ (f p : Nat), p < 2 ^ f → Lib.bitLenAux f p = nb p := by
  intro f
  induction f with
  | zero => intro p h; have : p = 0 := by simpa using h
            subst this; rfl
  | succ f ih =>
    intro p h
    by_cases h0 : p = 0
    · subst h0; simp [Lib.bitLenAux, nb]
    · rw [nb_half (by omega), ← ih (p / 2) (by rw [Nat.pow_succ] at h; omega)]
      simp only [Lib.bitLenAux, if_neg h0]; omega
theorem bitLen_eq {p : Nat} (h : p < 2 ^ 64) : Lib.bitLen p = nb p := bitLen_nb 64 p h

/-- One step of the division: the leading bit goes. -/
theorem step_lt {p q : Nat} (hq : 0 < q) (h : nb q ≤ nb p) : p ^^^ (q * 2 ^ (nb p - nb q)) < 2 ^ (nb p - 1) := by
  have hqp := nb_pos hq
  have hp : 0 < p := by
    cases p with
    | zero => simp [nb] at h; omega
    | succ n => omega
  have a1 := nb_lt (p := p)
  have a2 := nb_le hp
  have b1 := nb_lt (p := q)
  have b2 := nb_le hq
  have e1 : 2 ^ nb p = 2 * 2 ^ (nb p - 1) := by
    rw [← Nat.pow_succ']; congr 1; omega
  have c1 : q * 2 ^ (nb p - nb q) < 2 ^ nb p := by
    calc q * 2 ^ (nb p - nb q) < 2 ^ nb q * 2 ^ (nb p - nb q) := Nat.mul_lt_mul_of_pos_right b1 (Nat.two_pow_pos _)
      _ = 2 ^ nb p := by rw [← Nat.pow_add]; congr 1; omega
  have c2 : 2 ^ (nb p - 1) ≤ q * 2 ^ (nb p - nb q) := by
    calc 2 ^ (nb p - 1) = 2 ^ (nb q - 1) * 2 ^ (nb p - nb q) := by rw [← Nat.pow_add]; congr 1; omega
      _ ≤ q * 2 ^ (nb p - nb q) := Nat.mul_le_mul_right _ b2
  generalize hs : q * 2 ^ (nb p - nb q) = s at *
  generalize hk : nb p - 1 = k at *
  refine Nat.lt_pow_two_of_testBit _ (fun i hi => ?_)
  rw [Nat.testBit_xor]
  by_cases e : i = k
  · subst e
    have t1 : p.testBit i = true := by
      rw [Nat.testBit_eq_decide_div_mod_eq]
      have : p / 2 ^ i = 1 := Nat.div_eq_of_lt_le (by omega) (by omega)
      rw [this]; rfl
    have t2 : s.testBit i = true := by
      rw [Nat.testBit_eq_decide_div_mod_eq]
      have : s / 2 ^ i = 1 := Nat.div_eq_of_lt_le (by omega) (by omega)
      rw [this]; rfl
    rw [t1, t2]; rfl
  · have hi' : 2 ^ nb p ≤ 2 ^ i := Nat.pow_le_pow_right (by omega) (by omega)
    rw [Nat.testBit_lt_two_pow (by omega : p < 2 ^ i), Nat.testBit_lt_two_pow (by omega : s < 2 ^ i)]; rfl

/-- One step of the division. -/
def stepp (p q : Nat) : Nat := p ^^^ (q * 2 ^ (nb p - nb q))
/-- The prest of the division, by fuel. -/
def prestF : Nat → Nat → Nat → Nat
  | 0, p, _ => p
  | f + 1, p, q => if nb p < nb q then p else prestF f (stepp p q) q
def prest (p q : Nat) : Nat := prestF (nb p) p q

theorem nb_stepp {p q : Nat} (hq : 0 < q) (h : nb q ≤ nb p) : nb (stepp p q) < nb p := by
  have h1 := nb_le_of_lt (step_lt hq h)
  have := nb_pos hq
  unfold stepp; omega
theorem stepp_lt {p q : Nat} (hq : 0 < q) (h : nb q ≤ nb p) : stepp p q < p := by
  have hp : 0 < p := by
    have := nb_pos hq
    cases p with
    | zero => simp [nb] at h; omega
    | succ n => omega
  have h1 := step_lt hq h
  have h2 := nb_le hp
  unfold stepp; omega
theorem prestF_two {q : Nat} (hq : 0 < q) : ∀ (f g p : Nat), nb p ≤ f → nb p ≤ g → prestF f p q = prestF g p q := by
  have hq' := nb_pos hq
  intro f
  induction f with
  | zero =>
    intro g p h _
    cases g with
    | zero => rfl
    | succ g => simp only [prestF]; rw [if_pos (by omega)]
  | succ f ih =>
    intro g p h h'
    cases g with
    | zero => simp only [prestF]; rw [if_pos (by omega)]
    | succ g =>
      simp only [prestF]
      by_cases hlt : nb p < nb q
      · rw [if_pos hlt, if_pos hlt]
      · rw [if_neg hlt, if_neg hlt]
        have hs := nb_stepp (p := p) hq (by omega)
        exact ih g _ (by omega) (by omega)
theorem prestF_fuel (f p q : Nat) (hq : 0 < q) (h : nb p ≤ f) : prestF f p q = prest p q := prestF_two hq f (nb p) p h (Nat.le_refl _)
theorem prest_lt {p q : Nat} (h : nb p < nb q) : prest p q = p := by
  unfold prest
  cases hn : nb p with
  | zero => rfl
  | succ n => simp only [prestF]; rw [if_pos (by omega)]
theorem prest_step {p q : Nat} (hq : 0 < q) (h : nb q ≤ nb p) : prest (stepp p q) q = prest p q := by
  have hs := nb_stepp hq h
  have hq' := nb_pos hq
  obtain ⟨n, hn⟩ : ∃ n, nb p = n + 1 := ⟨nb p - 1, by omega⟩
  conv => rhs; unfold prest; rw [hn]; simp only [prestF]; rw [if_neg (by omega)]
  exact (prestF_fuel n _ q hq (by omega)).symm

theorem prest_nb {q : Nat} (hq : 0 < q) : ∀ (f p : Nat), nb p ≤ f → nb (prestF f p q) < nb q := by
  have hq' := nb_pos hq
  intro f
  induction f with
  | zero => intro p h; simp only [prestF]; omega
  | succ f ih =>
    intro p h
    simp only [prestF]
    by_cases hlt : nb p < nb q
    · rw [if_pos hlt]; exact hlt
    · rw [if_neg hlt]
      have hs := nb_stepp (p := p) hq (by omega)
      exact ih _ (by omega)
theorem prest_bound {p q k : Nat} (hq : 0 < q) (hk : nb q ≤ k + 1) : prest p q < 2 ^ k := by
  have h := prest_nb hq (nb p) p (Nat.le_refl _)
  have h2 : prest p q < 2 ^ nb (prest p q) := nb_lt
  have h3 : nb (prest p q) ≤ k := by unfold prest; omega
  exact Nat.lt_of_lt_of_le h2 (Nat.pow_le_pow_right (by omega) h3)

/-- The product without carries of a and the last n bits of b. -/
def cl : Nat → Nat → Nat → Nat
  | 0, _, _ => 0
  | n + 1, a, b => if b / 2 ^ n % 2 = 1 then cl n a b ^^^ (a * 2 ^ n) else cl n a b
theorem cl_lt {a b k : Nat} (ha : a < 2 ^ k) : ∀ n, cl n a b < 2 ^ (k + n) := by
  intro n
  induction n with
  | zero => exact Nat.two_pow_pos _
  | succ n ih =>
    have h1 : cl n a b < 2 ^ (k + (n + 1)) := Nat.lt_trans ih (Nat.pow_lt_pow_right (by omega) (by omega))
    have h2 : a * 2 ^ n < 2 ^ (k + (n + 1)) := by
      calc a * 2 ^ n < 2 ^ k * 2 ^ n := Nat.mul_lt_mul_of_pos_right ha (Nat.two_pow_pos _)
        _ = 2 ^ (k + n) := by rw [← Nat.pow_add]
        _ < 2 ^ (k + (n + 1)) := Nat.pow_lt_pow_right (by omega) (by omega)
    simp only [cl]
    split
    · exact Nat.xor_lt_two_pow h1 h2
    · exact h1
theorem cl_more {a b m : Nat} (hb : b < 2 ^ m) : ∀ n, m ≤ n → cl n a b = cl m a b := by
  intro n
  induction n with
  | zero => intro h; obtain rfl : m = 0 := by omega
            rfl
  | succ n ih =>
    intro h
    by_cases e : m = n + 1
    · rw [e]
    · have : b / 2 ^ n = 0 := Nat.div_eq_of_lt (Nat.lt_of_lt_of_le hb (Nat.pow_le_pow_right (by omega) (by omega)))
      simp only [cl]
      rw [this, if_neg (by omega)]
      exact ih (by omega)

/-- The irreducible polynomials of a degree from 1 to 5. -/
def irr (p : Nat) : Bool := [2, 3, 7, 11, 13, 19, 25, 31, 37, 41, 47, 55, 59, 61].contains p
/-- A field: its degree and its polynomial. -/
def fld (m P : Nat) : Bool := irr P && nb P == m + 1
/-- The product in a field. -/
def mul (P a b : Nat) : Nat := prest (cl 5 a b) P

theorem fld_irr {m P : Nat} (h : fld m P = true) : irr P = true := by unfold fld at h; simp at h; exact h.1
theorem fld_nb {m P : Nat} (h : fld m P = true) : nb P = m + 1 := by unfold fld at h; simp at h; exact h.2
theorem irr_lt {P : Nat} (h : irr P = true) : 2 ≤ P ∧ P < 64 := by
  unfold irr at h; simp at h; omega
theorem irr_nb {P : Nat} (h : irr P = true) : 2 ≤ nb P ∧ nb P ≤ 6 := by
  have : ∀ p : Fin 64, irr p.val = true → 2 ≤ nb p.val ∧ nb p.val ≤ 6 := by decide +kernel
  exact this ⟨P, (irr_lt h).2⟩ h
theorem fld_deg {m P : Nat} (h : fld m P = true) : 1 ≤ m ∧ m ≤ 5 := by
  have h1 := fld_nb h
  have h2 := irr_nb (fld_irr h)
  omega
theorem mul_lt {m P a b : Nat} (h : fld m P = true) : mul P a b < 2 ^ m :=
  prest_bound (by have := irr_lt (fld_irr h); omega) (by rw [fld_nb h]; omega)

/-- No number from 2 to q - 1 divides p. -/
def noDiv (p : Nat) : Nat → Bool
  | 0 => true
  | q + 1 => noDiv p q && (decide (q < 2) || prest p q != 0)
theorem irr_no : ∀ p q : Fin 64, 2 ≤ q.val → nb q.val < nb p.val → prest p.val q.val = 0 → irr p.val = false := by decide +kernel
theorem irr_yes : ∀ p q : Fin 65, 2 ≤ p.val → p.val < 64 → nb p.val ≤ nb q.val → noDiv p.val q.val = true → irr p.val = true := by decide +kernel

end Go.Proofs.Ytlchelaohiojiaa
namespace Go.Proofs.Ytlchelaohiojiaa
open Go.RowKit

theorem ofInt_i64 (a : Nat) (ha : a < 4611686018427387904) : (BitVec.ofInt 64 (a : Int)).toNat = a := by
  simp; omega
theorem wrapNat (a : Nat) (ha : a < 4611686018427387904) : IntKind.i64.wrap (a : Int) = a := by
  rw [IntKind.wrap_i64]; omega
theorem i64_xor_nat (a b : Nat) (ha : a < 4611686018427387904) (hb : b < 4611686018427387904) : bits .xor .i64 (a : Int) (b : Int) = ((a ^^^ b : Nat) : Int) := by
  have hx : a ^^^ b < 2 ^ 62 := Nat.xor_lt_two_pow (by omega) (by omega)
  show IntKind.i64.wrap ((BitVec.ofInt 64 (a : Int) ^^^ BitVec.ofInt 64 (b : Int)).toNat : Int) = _
  rw [BitVec.toNat_xor, ofInt_i64 a ha, ofInt_i64 b hb, wrapNat _ (by omega)]
theorem i64_or_nat (a b : Nat) (ha : a < 4611686018427387904) (hb : b < 4611686018427387904) : bits .or .i64 (a : Int) (b : Int) = ((a ||| b : Nat) : Int) := by
  have hx : a ||| b < 2 ^ 62 := Nat.or_lt_two_pow (by omega) (by omega)
  show IntKind.i64.wrap ((BitVec.ofInt 64 (a : Int) ||| BitVec.ofInt 64 (b : Int)).toNat : Int) = _
  rw [BitVec.toNat_or, ofInt_i64 a ha, ofInt_i64 b hb, wrapNat _ (by omega)]
theorem i64_and_nat (a b : Nat) (ha : a < 4611686018427387904) (hb : b < 4611686018427387904) : bits .and .i64 (a : Int) (b : Int) = ((a &&& b : Nat) : Int) := by
  have hx : a &&& b < 2 ^ 62 := Nat.and_lt_two_pow _ (by omega)
  show IntKind.i64.wrap ((BitVec.ofInt 64 (a : Int) &&& BitVec.ofInt 64 (b : Int)).toNat : Int) = _
  rw [BitVec.toNat_and, ofInt_i64 a ha, ofInt_i64 b hb, wrapNat _ (by omega)]
theorem i64_and1 (a : Nat) (ha : a < 4611686018427387904) : bits .and .i64 (a : Int) 1 = ((a % 2 : Nat) : Int) := by
  have := i64_and_nat a 1 ha (by omega)
  rw [nat_mask1] at this
  exact this
theorem shl_nat (q n : Nat) (h : q * 2 ^ n < 4611686018427387904) : wrap64 ((q : Int) * 2 ^ n) = ((q * 2 ^ n : Nat) : Int) := by
  have e : ((q : Int) * 2 ^ n) = ((q * 2 ^ n : Nat) : Int) := by simp
  rw [e]; unfold wrap64; omega

theorem div_nat (q k : Nat) : (q : Int) / 2 ^ k = ((q / 2 ^ k : Nat) : Int) := by simp
theorem bit_any (q k : Nat) (h : q < 4611686018427387904) : bits .and .i64 ((q : Int) / 2 ^ k) 1 = ((q / 2 ^ k % 2 : Nat) : Int) := by
  rw [div_nat, i64_and1 _ (Nat.lt_of_le_of_lt (Nat.div_le_self _ _) h)]
theorem bit_yes {q k : Nat} (h : q < 4611686018427387904) (hb : q / 2 ^ k % 2 = 1) : (bits .and .i64 ((q : Int) / 2 ^ k) 1 == 1) = true := by
  rw [bit_any q k h, hb]; rfl
theorem bit_no {q k : Nat} (h : q < 4611686018427387904) (hb : ¬ q / 2 ^ k % 2 = 1) : (bits .and .i64 ((q : Int) / 2 ^ k) 1 == 1) = false := by
  rw [bit_any q k h, show q / 2 ^ k % 2 = 0 by omega]; rfl

end Go.Proofs.Ytlchelaohiojiaa
namespace Go.Proofs.Ytlchelaohiojiaa
open Go.RowKit
set_option linter.unusedVariables false

/-- A field of the degree m with the polynomial P and n elements. -/
structure Fld (m P n : Nat) : Prop where
  f : fld m P = true
  n : 2 ^ m = n
theorem Fld.m1 {m P n : Nat} (h : Fld m P n) : 1 ≤ m := (fld_deg h.f).1
theorem Fld.m5 {m P n : Nat} (h : Fld m P n) : m ≤ 5 := (fld_deg h.f).2
theorem Fld.n2 {m P n : Nat} (h : Fld m P n) : 2 ≤ n := by
  rw [← h.n]
  calc 2 = 2 ^ 1 := rfl
    _ ≤ 2 ^ m := Nat.pow_le_pow_right (by omega) h.m1
theorem Fld.n32 {m P n : Nat} (h : Fld m P n) : n ≤ 32 := by
  rw [← h.n]
  calc 2 ^ m ≤ 2 ^ 5 := Nat.pow_le_pow_right (by omega) h.m5
    _ = 32 := rfl
theorem Fld.P2 {m P n : Nat} (h : Fld m P n) : 2 ≤ P := (irr_lt (fld_irr h.f)).1
theorem Fld.P64 {m P n : Nat} (h : Fld m P n) : P < 64 := (irr_lt (fld_irr h.f)).2
theorem Fld.mul_lt {m P n : Nat} (h : Fld m P n) (a b : Nat) : mul P a b < n := by rw [← h.n]; exact Go.Proofs.Ytlchelaohiojiaa.mul_lt h.f
theorem Fld.of {m P : Nat} (h : fld m P = true) : Fld m P (2 ^ m) := ⟨h, rfl⟩
theorem Fld.pow {m P n : Nat} (h : Fld m P n) : wrap64 ((2 : Int) ^ m) = (n : Int) := by
  have h5 := h.n32
  have := shl_nat 1 m (by rw [h.n]; omega)
  rw [← h.n]
  simpa using this

/-- What a becomes when it is squared k times. -/
def sq (P a : Nat) : Nat → Nat
  | 0 => a
  | k + 1 => mul P (sq P a k) (sq P a k)
theorem sq_lt {m P n a : Nat} (hF : Fld m P n) (ha : a < n) : ∀ k, sq P a k < n
  | 0 => ha
  | k + 1 => hF.mul_lt _ _
theorem sq_add (P a i : Nat) : ∀ j, sq P a (i + j) = sq P (sq P a i) j
  | 0 => rfl
  | j + 1 => by
    show mul P (sq P a (i + j)) (sq P a (i + j)) = mul P (sq P (sq P a i) j) (sq P (sq P a i) j)
    rw [sq_add P a i j]
theorem sq_deg_all : ∀ P : Fin 64, irr P.val = true → ∀ a : Fin 32, a.val < 2 ^ (nb P.val - 1) → sq P.val a.val (nb P.val - 1) = a.val := by decide +kernel
theorem sq_deg {m P n a : Nat} (hF : Fld m P n) (ha : a < n) : sq P a m = a := by
  have h1 := fld_nb hF.f
  have h2 := hF.n32
  have := sq_deg_all ⟨P, hF.P64⟩ (fld_irr hF.f) ⟨a, by omega⟩ (by show a < 2 ^ (nb P - 1); rw [h1]; simp; rw [hF.n]; exact ha)
  simp only [h1, Nat.add_sub_cancel] at this
  exact this
theorem sq_times {m P n a : Nat} (hF : Fld m P n) (ha : a < n) : ∀ t, sq P a (m * t) = a
  | 0 => rfl
  | t + 1 => by rw [Nat.mul_succ, sq_add, sq_times hF ha t, sq_deg hF ha]
theorem sq_mod {m P n a : Nat} (hF : Fld m P n) (ha : a < n) (k : Nat) : sq P a (k % m) = sq P a k := by
  conv => rhs; rw [← Nat.div_add_mod k m, sq_add, sq_times hF ha]

/-- The product of k factors a. -/
def pw (P a : Nat) : Nat → Nat
  | 0 => 1
  | k + 1 => mul P (pw P a k) a
theorem pw_lt {m P n : Nat} (hF : Fld m P n) (a : Nat) : ∀ k, pw P a k < n
  | 0 => by have := hF.n2; simp [pw]; omega
  | k + 1 => hF.mul_lt _ _

theorem inv_all : ∀ P : Fin 64, irr P.val = true → ∀ a : Fin 32, 0 < a.val → a.val < 2 ^ (nb P.val - 1) → mul P.val a.val (pw P.val a.val (2 ^ (nb P.val - 1) - 2)) = 1 := by decide +kernel
theorem inv_one_all : ∀ P : Fin 64, irr P.val = true → ∀ a : Fin 32, a.val < 2 ^ (nb P.val - 1) → ∀ k : Fin 32, k.val < 2 ^ (nb P.val - 1) → mul P.val a.val k.val = 1 → k.val = pw P.val a.val (2 ^ (nb P.val - 1) - 2) := by decide +kernel
theorem inv_is {m P n a : Nat} (hF : Fld m P n) (h0 : 0 < a) (ha : a < n) : mul P a (pw P a (n - 2)) = 1 := by
  have h1 := fld_nb hF.f
  have h2 := hF.n32
  have := inv_all ⟨P, hF.P64⟩ (fld_irr hF.f) ⟨a, by omega⟩ h0 (by show a < 2 ^ (nb P - 1); rw [h1]; simp; rw [hF.n]; exact ha)
  simp only [h1, Nat.add_sub_cancel, hF.n] at this
  exact this
theorem inv_one {m P n a k : Nat} (hF : Fld m P n) (ha : a < n) (hk : k < n) (h : mul P a k = 1) : k = pw P a (n - 2) := by
  have h1 := fld_nb hF.f
  have h2 := hF.n32
  have := inv_one_all ⟨P, hF.P64⟩ (fld_irr hF.f) ⟨a, by omega⟩ (by show a < 2 ^ (nb P - 1); rw [h1]; simp; rw [hF.n]; exact ha) ⟨k, by omega⟩ (by show k < 2 ^ (nb P - 1); rw [h1]; simp; rw [hF.n]; exact hk) h
  simp only [h1, Nat.add_sub_cancel, hF.n] at this
  exact this
end Go.Proofs.Ytlchelaohiojiaa
