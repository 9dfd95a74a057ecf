/- The arithmetic of the fields: sums, products, squares. Pure, of no program. -/
import Derived.Test.YtdpaoabgigdlgaaLinPure
namespace Go.Proofs.Ytdpaoabgigdlgaa
set_option linter.unusedVariables false

theorem comm_all : ∀ P : Fin 64, irr P.val = true → ∀ a : Fin 32, a.val < 2 ^ (nb P.val - 1) → ∀ b : Fin 32, b.val < a.val → mul P.val a.val b.val = mul P.val b.val a.val := by decide +kernel
theorem mul_comm' {m P n a b : Nat} (hF : Fld m P n) (ha : a < n) (hb : b < n) : mul P a b = mul P b a := by
  rcases Nat.lt_trichotomy a b with h | h | h
  · exact (comm_all ⟨P, hF.P64⟩ (fld_irr hF.f) ⟨b, (fin_of hF hb).1⟩ (fin_of hF hb).2 ⟨a, (fin_of hF ha).1⟩ h).symm
  · rw [h]
  · exact comm_all ⟨P, hF.P64⟩ (fld_irr hF.f) ⟨a, (fin_of hF ha).1⟩ (fin_of hF ha).2 ⟨b, (fin_of hF hb).1⟩ h

/-- The value for the bits of a number, a value for each. -/
def lin (f : Nat → Nat) (x : Nat) : Nat → Nat
  | 0 => 0
  | k + 1 => lin f x k ^^^ (if x.testBit k then f (2 ^ k) else 0)
theorem ite_xor (a b : Bool) (v : Nat) : (if (a ^^ b) = true then v else 0) = (if a = true then v else 0) ^^^ (if b = true then v else 0) := by
  cases a <;> cases b <;> simp
theorem xor4 (a b c d : Nat) : (a ^^^ b) ^^^ (c ^^^ d) = (a ^^^ c) ^^^ (b ^^^ d) := by
  rw [Nat.xor_assoc, Nat.xor_assoc, ← Nat.xor_assoc b c d, Nat.xor_comm b c, Nat.xor_assoc c b d]
theorem lin_xor (f : Nat → Nat) (x y : Nat) : ∀ k, lin f (x ^^^ y) k = lin f x k ^^^ lin f y k
  | 0 => by simp [lin]
  | k + 1 => by
    simp only [lin]
    rw [lin_xor f x y k, Nat.testBit_xor, ite_xor, xor4]
theorem lin_congr {f g : Nat → Nat} (x : Nat) : ∀ {k : Nat}, (∀ i, i < k → f (2 ^ i) = g (2 ^ i)) → lin f x k = lin g x k
  | 0, _ => rfl
  | k + 1, h => by simp only [lin]; rw [lin_congr x (k := k) fun i hi => h i (by omega), h k (by omega)]
/-- What is additive below 2 to the power m is told by its values for the powers of two. -/
theorem lin_of {f : Nat → Nat} {m : Nat} (h0 : f 0 = 0) (h : ∀ x y, x < 2 ^ m → y < 2 ^ m → f (x ^^^ y) = f x ^^^ f y) : ∀ k, k ≤ m → ∀ x, x < 2 ^ k → f x = lin f x k
  | 0, _, x, hx => by obtain rfl : x = 0 := by simpa using hx
                      rw [h0]; rfl
  | k + 1, hk, x, hx => by
    have hle : 2 ^ k ≤ 2 ^ m := Nat.pow_le_pow_right (by omega) (by omega)
    have hlt : 2 ^ k < 2 ^ m := Nat.pow_lt_pow_right (by omega) (by omega)
    have hlow : ∀ j, j < k → ∀ y, lin f (y ^^^ 2 ^ k) (j + 1) = lin f y (j + 1) := by
      intro j
      induction j with
      | zero => intro hj y; simp only [lin]; rw [Nat.testBit_xor, Nat.testBit_two_pow_of_ne (by omega)]; simp
      | succ j ih => intro hj y; have := ih (by omega) y; unfold lin; rw [this, Nat.testBit_xor, Nat.testBit_two_pow_of_ne (by omega)]; simp
    have hlow' : ∀ y, lin f (y ^^^ 2 ^ k) k = lin f y k := by
      intro y
      cases k with
      | zero => rfl
      | succ k => exact hlow k (by omega) y
    by_cases e : x < 2 ^ k
    · simp only [lin]
      rw [Nat.testBit_lt_two_pow e, lin_of h0 h k (by omega) x e]; simp
    · have e2 : x.testBit k = true := by
        rw [Nat.testBit_eq_decide_div_mod_eq]
        have : x / 2 ^ k = 1 := by
          rw [Nat.pow_succ] at hx
          exact Nat.div_eq_of_lt_le (by omega) (by omega)
        rw [this]; rfl
      have e3 : x ^^^ 2 ^ k < 2 ^ k := by
        refine Nat.lt_pow_two_of_testBit _ fun i hi => ?_
        rw [Nat.testBit_xor]
        by_cases ei : i = k
        · rw [ei, e2, Nat.testBit_two_pow_self]; rfl
        · rw [Nat.testBit_lt_two_pow (Nat.lt_of_lt_of_le hx (Nat.pow_le_pow_right (by omega) (by omega))), Nat.testBit_two_pow_of_ne (by omega)]; rfl
      have e4 : x = (x ^^^ 2 ^ k) ^^^ 2 ^ k := by rw [Nat.xor_assoc, Nat.xor_self, Nat.xor_zero]
      have e5 : f x = f (x ^^^ 2 ^ k) ^^^ f (2 ^ k) := by
        conv => lhs; rw [e4]
        exact h _ _ (by omega) hlt
      simp only [lin]
      rw [e2, e5, lin_of h0 h k (by omega) _ e3, hlow']; simp

/-- A product, bit by bit. -/
theorem bits_all : ∀ P : Fin 64, irr P.val = true → ∀ b : Fin 32, b.val < 2 ^ (nb P.val - 1) → ∀ a : Fin 32, a.val < 2 ^ (nb P.val - 1) → mul P.val a.val b.val = lin (fun x => mul P.val x b.val) a.val 5 := by decide +kernel
theorem add_mul' {m P n a b c : Nat} (hF : Fld m P n) (ha : a < n) (hb : b < n) (hc : c < n) : mul P (a ^^^ b) c = mul P a c ^^^ mul P b c := by
  have hx := hF.xor_lt ha hb
  have h : ∀ y, y < n → mul P y c = lin (fun x => mul P x c) y 5 := fun y hy =>
    bits_all ⟨P, hF.P64⟩ (fld_irr hF.f) ⟨c, (fin_of hF hc).1⟩ (fin_of hF hc).2 ⟨y, (fin_of hF hy).1⟩ (fin_of hF hy).2
  rw [h _ hx, h _ ha, h _ hb, lin_xor]
theorem mul_add' {m P n a b c : Nat} (hF : Fld m P n) (ha : a < n) (hb : b < n) (hc : c < n) : mul P c (a ^^^ b) = mul P c a ^^^ mul P c b := by
  rw [mul_comm' hF hc (hF.xor_lt ha hb), add_mul' hF ha hb hc, mul_comm' hF ha hc, mul_comm' hF hb hc]
theorem assoc_all : ∀ P : Fin 64, irr P.val = true → ∀ i : Fin 5, i.val < nb P.val - 1 → ∀ j : Fin 5, j.val < nb P.val - 1 → ∀ a : Fin 32, a.val < 2 ^ (nb P.val - 1) → mul P.val (mul P.val a.val (2 ^ i.val)) (2 ^ j.val) = mul P.val a.val (mul P.val (2 ^ i.val) (2 ^ j.val)) := by decide +kernel
theorem pow_lt_n {m P n i : Nat} (hF : Fld m P n) (hi : i < m) : 2 ^ i < n := by rw [← hF.n]; exact Nat.pow_lt_pow_right (by omega) hi
theorem ext_lin {m P n : Nat} (hF : Fld m P n) {f g : Nat → Nat} (f0 : f 0 = 0) (g0 : g 0 = 0) (hf : ∀ x y, x < n → y < n → f (x ^^^ y) = f x ^^^ f y) (hg : ∀ x y, x < n → y < n → g (x ^^^ y) = g x ^^^ g y) (h : ∀ i, i < m → f (2 ^ i) = g (2 ^ i)) {x : Nat} (hx : x < n) : f x = g x := by
  have hn := hF.n
  rw [lin_of (m := m) f0 (by rw [hn]; exact hf) m (Nat.le_refl _) x (by omega), lin_of (m := m) g0 (by rw [hn]; exact hg) m (Nat.le_refl _) x (by omega)]
  exact lin_congr x h
theorem mul_assoc' {m P n a b c : Nat} (hF : Fld m P n) (ha : a < n) (hb : b < n) (hc : c < n) : mul P (mul P a b) c = mul P a (mul P b c) := by
  have hm := hF.mul_lt
  have hn2 := hF.n2
  have h0 : (0 : Nat) < n := by omega
  have hm5 := hF.m5
  have s1 : ∀ j, j < m → ∀ b, b < n → mul P (mul P a b) (2 ^ j) = mul P a (mul P b (2 ^ j)) := by
    intro j hj b hb
    have hj' := pow_lt_n hF hj
    refine ext_lin hF (f := fun b => mul P (mul P a b) (2 ^ j)) (g := fun b => mul P a (mul P b (2 ^ j))) ?_ ?_ ?_ ?_ ?_ hb
    · show mul P (mul P a 0) _ = 0
      rw [mul_zero' hF ha, zero_mul' hF hj']
    · show mul P a (mul P 0 _) = 0
      rw [zero_mul' hF hj', mul_zero' hF ha]
    · intro x y hx hy
      show mul P (mul P a (x ^^^ y)) _ = _
      rw [mul_add' hF hx hy ha, add_mul' hF (hm _ _) (hm _ _) hj']
    · intro x y hx hy
      show mul P a (mul P (x ^^^ y) _) = _
      rw [add_mul' hF hx hy hj', mul_add' hF (hm _ _) (hm _ _) ha]
    · intro i hi
      have hP := fld_nb hF.f
      exact assoc_all ⟨P, hF.P64⟩ (fld_irr hF.f) ⟨i, by omega⟩ (by show i < nb P - 1; omega) ⟨j, by omega⟩ (by show j < nb P - 1; omega) ⟨a, (fin_of hF ha).1⟩ (fin_of hF ha).2
  refine ext_lin hF (f := fun c => mul P (mul P a b) c) (g := fun c => mul P a (mul P b c)) ?_ ?_ ?_ ?_ ?_ hc
  · exact mul_zero' hF (hm _ _)
  · show mul P a (mul P b 0) = 0
    rw [mul_zero' hF hb, mul_zero' hF ha]
  · intro x y hx hy; exact mul_add' hF hx hy (hm _ _)
  · intro x y hx hy
    show mul P a (mul P b (x ^^^ y)) = _
    rw [mul_add' hF hx hy hb, mul_add' hF (hm _ _) (hm _ _) ha]
  · intro j hj; exact s1 j hj b hb
theorem sq_xor {m P n a b : Nat} (hF : Fld m P n) (ha : a < n) (hb : b < n) : ∀ k, sq P (a ^^^ b) k = sq P a k ^^^ sq P b k
  | 0 => rfl
  | k + 1 => by
    have h1 := sq_lt hF ha k
    have h2 := sq_lt hF hb k
    simp only [sq]
    rw [sq_xor hF ha hb k, add_mul' hF h1 h2 (hF.xor_lt h1 h2), mul_add' hF h1 h2 h1, mul_add' hF h1 h2 h2, mul_comm' hF h2 h1]
    rw [Nat.xor_assoc, ← Nat.xor_assoc (mul P (sq P a k) (sq P b k)), Nat.xor_self, Nat.zero_xor]
theorem sq_mul {m P n a b : Nat} (hF : Fld m P n) (ha : a < n) (hb : b < n) : ∀ k, sq P (mul P a b) k = mul P (sq P a k) (sq P b k)
  | 0 => rfl
  | k + 1 => by
    have h1 := sq_lt hF ha k
    have h2 := sq_lt hF hb k
    have h3 := hF.mul_lt
    simp only [sq]
    rw [sq_mul hF ha hb k, mul_assoc' hF h1 h2 (h3 _ _), mul_assoc' hF h1 h1 (h3 _ _), ← mul_assoc' hF h2 h1 h2, mul_comm' hF h2 h1, mul_assoc' hF h1 h2 h2]

/-- The value, of the first k of any coefficients. -/
def vf (P : Nat) (f : Nat → Nat) (y : Nat) : Nat → Nat
  | 0 => 0
  | k + 1 => vf P f y k ^^^ mul P (f k) (sq P y k)
theorem vf_lt {m P n : Nat} (hF : Fld m P n) (f : Nat → Nat) (y : Nat) : ∀ k, vf P f y k < n
  | 0 => by have := hF.n2; simp only [vf]; omega
  | k + 1 => hF.xor_lt (vf_lt hF f y k) (hF.mul_lt _ _)
theorem vlk_vf (P : Nat) (p : List Nat) (y : Nat) : ∀ k, vlk P p y k = vf P (nth p) y k
  | 0 => rfl
  | k + 1 => by simp only [vlk, vf]; rw [vlk_vf P p y k]
theorem vf_congr {P : Nat} {f g : Nat → Nat} (y : Nat) : ∀ {k : Nat}, (∀ j, j < k → f j = g j) → vf P f y k = vf P g y k
  | 0, _ => rfl
  | k + 1, h => by simp only [vf]; rw [vf_congr y (k := k) fun j hj => h j (by omega), h k (by omega)]
theorem vf_more {m P n : Nat} (hF : Fld m P n) {f : Nat → Nat} {y : Nat} (hy : y < n) {k : Nat} : ∀ K, k ≤ K → (∀ j, k ≤ j → f j = 0) → vf P f y K = vf P f y k
  | 0, h, _ => by obtain rfl : k = 0 := by omega
                  rfl
  | K + 1, h, h0 => by
    by_cases e : k = K + 1
    · rw [e]
    · simp only [vf]
      rw [vf_more hF hy K (by omega) h0, h0 K (by omega), zero_mul' hF (sq_lt hF hy K)]; simp
theorem vl_vf {m P n : Nat} (hF : Fld m P n) {p : List Nat} {y : Nat} (hy : y < n) {K : Nat} (h : p.length ≤ K) : vl P p y = vf P (nth p) y K := by
  rw [vl, vlk_vf, vf_more hF hy K h fun j hj => nth_ge hj]
theorem vf_put {m P n : Nat} (hF : Fld m P n) {f : Nat → Nat} (hf : ∀ j, f j < n) {y a i : Nat} (hy : y < n) (ha : a < n) : ∀ {K : Nat}, vf P (put f i (f i ^^^ a)) y K = vf P f y K ^^^ (if i < K then mul P a (sq P y i) else 0)
  | 0 => by simp [vf]
  | K + 1 => by
    simp only [vf]
    rw [vf_put hF hf hy ha (K := K)]
    by_cases e : K = i
    · subst e
      simp only [put, if_true]
      rw [if_neg (by omega), if_pos (by omega), add_mul' hF (hf _) ha (sq_lt hF hy _)]
      simp [Nat.xor_assoc]
    · simp only [put]
      rw [if_neg e]
      by_cases h : i < K
      · rw [if_pos h, if_pos (by omega), Nat.xor_assoc, Nat.xor_comm (mul P a _), ← Nat.xor_assoc]
      · rw [if_neg h, if_neg (by omega)]; simp
theorem vf_crow {m P n : Nat} (hF : Fld m P n) {p q : List Nat} (ep : ∀ j, nth p j < n) (eq : ∀ j, nth q j < n) (i : Nat) {g : Nat → Nat} (hg : ∀ k, g k < n) {y : Nat} (hy : y < n) {K : Nat} :
    ∀ J, i + J ≤ K → vf P (crow P p q i g J) y K = vf P g y K ^^^ mul P (nth p i) (sq P (vlk P q y J) i)
  | 0, _ => by simp only [crow, vlk]; rw [sq_zero hF, mul_zero' hF (ep i)]; simp
  | J + 1, h => by
    have h1 := sq_lt hF (vlk_lt hF q y J) i
    have h2 := sq_lt hF (eq J) i
    have h3 := hF.mul_lt
    simp only [crow]
    rw [vf_put hF (crow_lt hF p q i hg J) hy (h3 _ _), if_pos (by omega), vf_crow hF ep eq i hg hy J (by omega), Nat.xor_assoc]
    congr 1
    simp only [vlk]
    rw [sq_xor hF (vlk_lt hF q y J) (h3 _ _), mul_add' hF h1 (sq_lt hF (h3 _ _) _) (ep i), sq_mul hF (eq J) (sq_lt hF hy J), ← sq_add, Nat.add_comm J i, mul_assoc' hF (ep i) h2 (sq_lt hF hy _)]
theorem vf_call {m P n : Nat} (hF : Fld m P n) {p q : List Nat} (ep : ∀ j, nth p j < n) (eq : ∀ j, nth q j < n) {y : Nat} (hy : y < n) {K : Nat} :
    ∀ I, I + q.length ≤ K + 1 → vf P (call P p q I) y K = vlk P p (vl P q y) I
  | 0, _ => by
    simp only [call, vlk]
    have := vf_more hF hy (f := fun _ => 0) (k := 0) K (Nat.zero_le _) (fun _ _ => rfl)
    rw [this]; rfl
  | I + 1, h => by
    simp only [call, vlk]
    rw [vf_crow hF ep eq I (call_lt hF p q I) hy q.length (by omega), vf_call hF ep eq hy I (by omega)]
    rfl
/-- The value of what is composed is the value of the value. -/
theorem vl_cmp {m P n : Nat} (hF : Fld m P n) {p q : List Nat} (ep : ∀ j, nth p j < n) (eq : ∀ j, nth q j < n) {y : Nat} (hy : y < n) : vl P (cmp P p q) y = vl P p (vl P q y) := by
  unfold cmp
  by_cases h : p.length = 0 ∨ q.length = 0
  · rw [if_pos h]
    rcases h with h | h
    · show 0 = vl P p _
      rw [vl, h]; rfl
    · have e : vl P q y = 0 := by rw [vl, h]; rfl
      rw [e]
      have hz : ∀ k, vlk P p 0 k = 0 := by
        intro k
        induction k with
        | zero => rfl
        | succ k ih => simp only [vlk]; rw [ih, sq_zero hF, mul_zero' hF (ep k)]; rfl
      exact (hz _).symm
  · rw [if_neg h, vl_vf hF hy (K := p.length + q.length - 1) (by rw [lst_length]; omega), vf_congr (g := cmpF P p q) y fun j hj => lst_nth _ hj]
    exact vf_call hF ep eq hy p.length (by omega)
end Go.Proofs.Ytdpaoabgigdlgaa
