/- Linear polynomials as lists of numbers. Pure, of no program. · The arithmetic of the fields: sums, products, squares. Pure, of no program. · Linear polynomials that are right, annihilators, interpolation: as numbers. Pure, of no program. · Interpolation as a truth value. Pure, of no program. · Division of linear polynomials, on either side: as numbers. Pure, of no program. -/
import Derived.Test.YtlchelaohiojiaaFld
import Derived.Test.YtlchelaohiojiaaColPure
namespace Go.Proofs.Ytlchelaohiojiaa
set_option linter.unusedVariables false

/-- Whether all numbers are elements of a field with n of them. -/
def allIn (n : Nat) (zs : List Int) : Bool := zs.all fun z => decide (0 ≤ z ∧ z < (n : Int))
theorem allIn_get {n : Nat} {zs : List Int} (h : allIn n zs = true) (j : Nat) (hj : j < zs.length) : 0 ≤ zs[j]?.getD 0 ∧ zs[j]?.getD 0 < n := by
  have h1 := List.all_eq_true.1 h zs[j] (List.getElem_mem hj)
  rw [List.getElem?_eq_getElem hj]
  simpa using h1
theorem allIn_no {n : Nat} {zs : List Int} (j : Nat) (hj : j < zs.length) (h : zs[j]?.getD 0 < 0 ∨ (n : Int) ≤ zs[j]?.getD 0) : allIn n zs = false := by
  cases hb : allIn n zs with
  | false => rfl
  | true => have := allIn_get hb j hj; omega
theorem allIn_yes {n : Nat} {zs : List Int} (h : ∀ j, j < zs.length → 0 ≤ zs[j]?.getD 0 ∧ zs[j]?.getD 0 < n) : allIn n zs = true := by
  refine List.all_eq_true.2 fun z hz => ?_
  obtain ⟨j, hj, rfl⟩ := List.mem_iff_getElem.1 hz
  have := h j hj
  rw [List.getElem?_eq_getElem hj] at this
  simpa using this
/-- Numbers as natural numbers. -/
def nats (zs : List Int) : List Nat := zs.map Int.toNat
theorem nats_length (zs : List Int) : (nats zs).length = zs.length := by simp [nats]
theorem nats_nth {n : Nat} {zs : List Int} (h : allIn n zs = true) (j : Nat) : zs[j]?.getD 0 = ((nth (nats zs) j : Nat) : Int) := by
  by_cases hj : j < zs.length
  · have h1 := allIn_get h j hj
    rw [nth, List.getD_eq_getElem?_getD, nats, List.getElem?_map, List.getElem?_eq_getElem hj] at *
    simp at h1 ⊢
    omega
  · rw [nth, List.getD_eq_getElem?_getD, nats, List.getElem?_map, List.getElem?_eq_none (by omega)]
    rfl
theorem nats_lt {n : Nat} {zs : List Int} (h : allIn n zs = true) (hn : 0 < n) (j : Nat) : nth (nats zs) j < n := by
  by_cases hj : j < zs.length
  · have h1 := allIn_get h j hj
    rw [nats_nth h j] at h1
    omega
  · rw [nth, List.getD_eq_getElem?_getD, List.getElem?_eq_none (by rw [nats_length]; omega)]
    exact hn
theorem ints_nats {n : Nat} {zs : List Int} (h : allIn n zs = true) : ints (nats zs) = zs := by
  apply List.ext_getElem?
  intro j
  rw [ints, nats, List.map_map, List.getElem?_map]
  by_cases hj : j < zs.length
  · have h1 := allIn_get h j hj
    rw [List.getElem?_eq_getElem hj] at *
    simp at h1 ⊢
    omega
  · rw [List.getElem?_eq_none (by omega)]; rfl
theorem allIn_ints {n : Nat} {p : List Nat} (h : ∀ j, j < p.length → nth p j < n) : allIn n (ints p) = true := by
  refine allIn_yes fun j hj => ?_
  rw [ints_get]
  have := h j (by rw [ints_length] at hj; exact hj)
  omega
theorem nats_ints (p : List Nat) : nats (ints p) = p := by
  rw [nats, ints, List.map_map]
  conv => rhs; rw [← List.map_id p]
  rfl
theorem nth_ge {p : List Nat} {j : Nat} (h : p.length ≤ j) : nth p j = 0 := by
  rw [nth, List.getD_eq_getElem?_getD, List.getElem?_eq_none h]; rfl
theorem nth_eq {p : List Nat} {j : Nat} (h : j < p.length) : nth p j = p[j] := by
  rw [nth, List.getD_eq_getElem?_getD, List.getElem?_eq_getElem h]; rfl
theorem nth_ext {p q : List Nat} (hl : p.length = q.length) (h : ∀ j, j < p.length → nth p j = nth q j) : p = q := by
  refine List.ext_getElem hl fun j h1 h2 => ?_
  have := h j h1
  rwa [nth_eq h1, nth_eq h2] at this
theorem nth_all_lt {p : List Nat} {n : Nat} (h : ∀ j, j < p.length → nth p j < n) : ∀ a ∈ p, a < n := by
  intro a ha
  obtain ⟨j, hj, rfl⟩ := List.mem_iff_getElem.1 ha
  have := h j hj
  rwa [nth_eq hj] at this

/-- The first k values of a function. -/
def lst (f : Nat → Nat) (k : Nat) : List Nat := (List.range k).map f
theorem lst_length (f : Nat → Nat) (k : Nat) : (lst f k).length = k := by simp [lst]
theorem lst_nth (f : Nat → Nat) {k j : Nat} (h : j < k) : nth (lst f k) j = f j := by
  rw [nth_eq (by rw [lst_length]; exact h)]; simp [lst]
theorem lst_of {p : List Nat} {k : Nat} (h : p.length = k) : p = lst (nth p) k :=
  nth_ext (by rw [lst_length]; exact h) fun j hj => (lst_nth _ (by omega)).symm
theorem lst_congr {f g : Nat → Nat} {k : Nat} (h : ∀ j, j < k → f j = g j) : lst f k = lst g k :=
  nth_ext (by simp [lst_length]) fun j hj => by rw [lst_length] at hj; rw [lst_nth _ hj, lst_nth _ hj, h j hj]
theorem lst_nth0 {f : Nat → Nat} {k j : Nat} (h : k ≤ j → f j = 0) : nth (lst f k) j = f j := by
  by_cases e : j < k
  · exact lst_nth f e
  · rw [nth_ge (by rw [lst_length]; omega), h (by omega)]

/-- How many values are left when the zeros at the end are left out. -/
def tl (f : Nat → Nat) : Nat → Nat
  | 0 => 0
  | k + 1 => if f k = 0 then tl f k else k + 1
theorem tl_le (f : Nat → Nat) : ∀ k, tl f k ≤ k
  | 0 => Nat.le_refl _
  | k + 1 => by simp only [tl]; have := tl_le f k; split <;> omega
theorem tl_zero {f : Nat → Nat} : ∀ {k j : Nat}, tl f k ≤ j → j < k → f j = 0
  | 0, j, _, h => by omega
  | k + 1, j, h1, h2 => by
    simp only [tl] at h1
    split at h1
    · by_cases e : j = k
      · rw [e]; assumption
      · exact tl_zero h1 (by omega)
    · omega
theorem tl_last {f : Nat → Nat} : ∀ {k : Nat}, 0 < tl f k → f (tl f k - 1) ≠ 0
  | 0, h => by simp [tl] at h
  | k + 1, h => by
    simp only [tl] at h ⊢
    split
    · rename_i hz; rw [if_pos hz] at h; exact tl_last h
    · simpa using by assumption
theorem tl_congr {f g : Nat → Nat} : ∀ {k : Nat}, (∀ j, j < k → f j = g j) → tl f k = tl g k
  | 0, _ => rfl
  | k + 1, h => by simp only [tl]; rw [h k (by omega), tl_congr (k := k) fun j hj => h j (by omega)]
theorem tl_full {f : Nat → Nat} {k : Nat} (h : k = 0 ∨ f (k - 1) ≠ 0) : tl f k = k := by
  cases k with
  | zero => rfl
  | succ k => simp only [tl]; rw [if_neg (by rcases h with h | h; omega; simpa using h)]
theorem tl_eq {f : Nat → Nat} {k m : Nat} (hm : m ≤ k) (h0 : ∀ j, m ≤ j → j < k → f j = 0) (hl : m = 0 ∨ f (m - 1) ≠ 0) : tl f k = m := by
  have h1 := tl_le f k
  rcases Nat.lt_trichotomy (tl f k) m with h | h | h
  · have := tl_zero (f := f) (k := k) (j := m - 1) (by omega) (by omega)
    rcases hl with hl | hl
    · omega
    · exact absurd this hl
  · exact h
  · have := tl_last (f := f) (k := k) (by omega)
    exact absurd (h0 _ (by omega) (by omega)) this

/-- The coefficients without zeros at the end. -/
def trim (p : List Nat) : List Nat := lst (nth p) (tl (nth p) p.length)
/-- No zero at the end. -/
def Trm (p : List Nat) : Prop := p.length = 0 ∨ nth p (p.length - 1) ≠ 0
theorem trim_length_le (p : List Nat) : (trim p).length ≤ p.length := by rw [trim, lst_length]; exact tl_le _ _
theorem trim_nth (p : List Nat) (j : Nat) : nth (trim p) j = nth p j := by
  rw [trim]
  refine lst_nth0 fun h => ?_
  by_cases e : j < p.length
  · exact tl_zero h e
  · exact nth_ge (by omega)
theorem trim_id {p : List Nat} (h : Trm p) : trim p = p := by rw [trim, tl_full h]; exact (lst_of rfl).symm
theorem trim_trm (p : List Nat) : Trm (trim p) := by
  unfold Trm
  rw [trim_nth, trim, lst_length]
  by_cases h : tl (nth p) p.length = 0
  · exact .inl h
  · exact .inr (tl_last (by omega))
/-- Two lists without zeros at the end, and the same coefficients. -/
theorem trm_ext {p q : List Nat} (hp : Trm p) (hq : Trm q) (h : ∀ j, nth p j = nth q j) : p = q := by
  refine nth_ext ?_ fun j _ => h j
  rcases Nat.lt_trichotomy p.length q.length with hl | hl | hl
  · exfalso
    have h1 : nth p (q.length - 1) = 0 := nth_ge (by omega)
    rw [h] at h1
    rcases hq with hq | hq
    · omega
    · exact hq h1
  · exact hl
  · exfalso
    have h1 : nth q (p.length - 1) = 0 := nth_ge (by omega)
    rw [← h] at h1
    rcases hp with hp | hp
    · omega
    · exact hp h1

/-- The sum. -/
def sumF (p q : List Nat) (j : Nat) : Nat := nth p j ^^^ nth q j
def sumL (p q : List Nat) : List Nat := trim (lst (sumF p q) (max p.length q.length))
theorem sumL_nth (p q : List Nat) (j : Nat) : nth (sumL p q) j = nth p j ^^^ nth q j := by
  rw [sumL, trim_nth]
  refine lst_nth0 fun h => ?_
  rw [sumF, nth_ge (by omega), nth_ge (by omega)]; rfl
theorem sumL_trm (p q : List Nat) : Trm (sumL p q) := trim_trm _

/-- The value, of the first k coefficients. -/
def vlk (P : Nat) (p : List Nat) (x : Nat) : Nat → Nat
  | 0 => 0
  | k + 1 => vlk P p x k ^^^ mul P (nth p k) (sq P x k)
def vl (P : Nat) (p : List Nat) (x : Nat) : Nat := vlk P p x p.length
theorem xor_lt {m a b : Nat} (ha : a < 2 ^ m) (hb : b < 2 ^ m) : a ^^^ b < 2 ^ m := Nat.xor_lt_two_pow ha hb
theorem Fld.xor_lt {m P n a b : Nat} (hF : Fld m P n) (ha : a < n) (hb : b < n) : a ^^^ b < n := by
  rw [← hF.n] at *; exact Nat.xor_lt_two_pow ha hb
theorem vlk_lt {m P n : Nat} (hF : Fld m P n) (p : List Nat) (x : Nat) : ∀ k, vlk P p x k < n
  | 0 => by have := hF.n2; simp only [vlk]; omega
  | k + 1 => hF.xor_lt (vlk_lt hF p x k) (hF.mul_lt _ _)
theorem vl_lt {m P n : Nat} (hF : Fld m P n) (p : List Nat) (x : Nat) : vl P p x < n := vlk_lt hF p x _

/-- Composed: the coefficients behind the inner rounds j of the outer round i. -/
def put (f : Nat → Nat) (i v : Nat) : Nat → Nat := fun j => if j = i then v else f j
def crow (P : Nat) (p q : List Nat) (i : Nat) (g : Nat → Nat) : Nat → (Nat → Nat)
  | 0 => g
  | j + 1 => put (crow P p q i g j) (i + j) (crow P p q i g j (i + j) ^^^ mul P (nth p i) (sq P (nth q j) i))
def call (P : Nat) (p q : List Nat) : Nat → (Nat → Nat)
  | 0 => fun _ => 0
  | i + 1 => crow P p q i (call P p q i) q.length
theorem crow_lt {m P n : Nat} (hF : Fld m P n) (p q : List Nat) (i : Nat) {g : Nat → Nat} (hg : ∀ k, g k < n) : ∀ j k, crow P p q i g j k < n
  | 0, k => hg k
  | j + 1, k => by
    simp only [crow, put]
    split
    · exact hF.xor_lt (crow_lt hF p q i hg j _) (hF.mul_lt _ _)
    · exact crow_lt hF p q i hg j k
theorem call_lt {m P n : Nat} (hF : Fld m P n) (p q : List Nat) : ∀ i k, call P p q i k < n
  | 0, k => by have := hF.n2; simp only [call]; omega
  | i + 1, k => crow_lt hF p q i (call_lt hF p q i) _ k
theorem crow_at (P : Nat) (p q : List Nat) (i : Nat) (g : Nat → Nat) : ∀ J k, crow P p q i g J k = g k ^^^ (if i ≤ k ∧ k < i + J then mul P (nth p i) (sq P (nth q (k - i)) i) else 0)
  | 0, k => by rw [if_neg (by omega)]; simp [crow]
  | J + 1, k => by
    simp only [crow, put]
    by_cases e : k = i + J
    · subst e
      rw [if_pos rfl, crow_at P p q i g J, if_neg (by omega), if_pos (by omega)]
      simp
    · rw [if_neg e, crow_at P p q i g J]
      by_cases h : i ≤ k ∧ k < i + J
      · rw [if_pos h, if_pos (by omega)]
      · rw [if_neg h, if_neg (by omega)]
/-- The coefficient k of the composition with the first I coefficients outside. -/
def cs (P : Nat) (p q : List Nat) (k : Nat) : Nat → Nat
  | 0 => 0
  | i + 1 => cs P p q k i ^^^ (if i ≤ k ∧ k < i + q.length then mul P (nth p i) (sq P (nth q (k - i)) i) else 0)
theorem call_cs (P : Nat) (p q : List Nat) (k : Nat) : ∀ i, call P p q i k = cs P p q k i
  | 0 => rfl
  | i + 1 => by simp only [call, cs]; rw [crow_at, call_cs P p q k i]
def cmpF (P : Nat) (p q : List Nat) : Nat → Nat := call P p q p.length
/-- Composed: p of q. -/
def cmp (P : Nat) (p q : List Nat) : List Nat := if p.length = 0 ∨ q.length = 0 then [] else lst (cmpF P p q) (p.length + q.length - 1)

theorem nodiv_all : ∀ P : Fin 64, irr P.val = true → ∀ a : Fin 32, 0 < a.val → a.val < 2 ^ (nb P.val - 1) → ∀ b : Fin 32, 0 < b.val → b.val < 2 ^ (nb P.val - 1) → mul P.val a.val b.val ≠ 0 := by decide +kernel
theorem fin_of {m P n : Nat} (hF : Fld m P n) {a : Nat} (ha : a < n) : a < 32 ∧ a < 2 ^ (nb P - 1) := by
  have h2 := hF.n32
  exact ⟨by omega, by rw [fld_nb hF.f]; simp; rw [hF.n]; exact ha⟩
theorem mul_ne {m P n a b : Nat} (hF : Fld m P n) (ha : a < n) (hb : b < n) (h1 : a ≠ 0) (h2 : b ≠ 0) : mul P a b ≠ 0 :=
  nodiv_all ⟨P, hF.P64⟩ (fld_irr hF.f) ⟨a, (fin_of hF ha).1⟩ (by show 0 < a; omega) (fin_of hF ha).2 ⟨b, (fin_of hF hb).1⟩ (by show 0 < b; omega) (fin_of hF hb).2
theorem zero_all : ∀ P : Fin 64, irr P.val = true → ∀ a : Fin 32, a.val < 2 ^ (nb P.val - 1) → mul P.val a.val 0 = 0 ∧ mul P.val 0 a.val = 0 ∧ mul P.val 1 a.val = a.val ∧ mul P.val a.val 1 = a.val := by decide +kernel
theorem mul_zero' {m P n a : Nat} (hF : Fld m P n) (ha : a < n) : mul P a 0 = 0 := (zero_all ⟨P, hF.P64⟩ (fld_irr hF.f) ⟨a, (fin_of hF ha).1⟩ (fin_of hF ha).2).1
theorem zero_mul' {m P n a : Nat} (hF : Fld m P n) (ha : a < n) : mul P 0 a = 0 := (zero_all ⟨P, hF.P64⟩ (fld_irr hF.f) ⟨a, (fin_of hF ha).1⟩ (fin_of hF ha).2).2.1
theorem one_mul' {m P n a : Nat} (hF : Fld m P n) (ha : a < n) : mul P 1 a = a := (zero_all ⟨P, hF.P64⟩ (fld_irr hF.f) ⟨a, (fin_of hF ha).1⟩ (fin_of hF ha).2).2.2.1
theorem mul_one' {m P n a : Nat} (hF : Fld m P n) (ha : a < n) : mul P a 1 = a := (zero_all ⟨P, hF.P64⟩ (fld_irr hF.f) ⟨a, (fin_of hF ha).1⟩ (fin_of hF ha).2).2.2.2
theorem sq_ne {m P n a : Nat} (hF : Fld m P n) (ha : a < n) (h : a ≠ 0) : ∀ k, sq P a k ≠ 0
  | 0 => h
  | k + 1 => mul_ne hF (sq_lt hF ha k) (sq_lt hF ha k) (sq_ne hF ha h k) (sq_ne hF ha h k)
theorem sq_zero {m P n : Nat} (hF : Fld m P n) : ∀ k, sq P 0 k = 0
  | 0 => rfl
  | k + 1 => by simp only [sq]; rw [sq_zero hF k]; exact mul_zero' hF (by have := hF.n2; omega)
theorem cs_top (P : Nat) (p q : List Nat) (k : Nat) : ∀ i, i + q.length ≤ k + 1 → cs P p q k i = 0
  | 0, _ => rfl
  | i + 1, h => by simp only [cs]; rw [cs_top P p q k i (by omega), if_neg (by omega)]; rfl
theorem cmp_trm {m P n : Nat} (hF : Fld m P n) {p q : List Nat} (hp : Trm p) (hq : Trm q) (ep : ∀ j, nth p j < n) (eq : ∀ j, nth q j < n) : Trm (cmp P p q) := by
  unfold cmp
  split
  · exact .inl rfl
  · rename_i h
    refine .inr ?_
    rw [lst_length, lst_nth _ (by omega), cmpF, call_cs]
    obtain ⟨a, ha⟩ : ∃ a, p.length = a + 1 := ⟨p.length - 1, by omega⟩
    rw [ha]
    simp only [cs]
    rw [cs_top _ _ _ _ _ (by omega), if_pos (by omega)]
    simp only [Nat.zero_xor]
    refine mul_ne hF (ep _) (sq_lt hF (eq _) _) ?_ (sq_ne hF (eq _) ?_ _)
    · rcases hp with hp | hp
      · omega
      · rwa [ha] at hp
    · rcases hq with hq | hq
      · omega
      · rwa [show a + 1 + q.length - 1 - 1 - a = q.length - 1 by omega]
end Go.Proofs.Ytlchelaohiojiaa
namespace Go.Proofs.Ytlchelaohiojiaa
set_option linter.unusedVariables false

theorem comm_all : ∀ P : Fin 64, irr P.val = true → ∀ a : Fin 32, a.val < 2 ^ (nb P.val - 1) → ∀ b : Fin 32, b.val < a.val → mul P.val a.val b.val = mul P.val b.val a.val := by decide +kernel
theorem mul_comm' {m P n a b : Nat} (hF : Fld m P n) (ha : a < n) (hb : b < n) : mul P a b = mul P b a := by
  rcases Nat.lt_trichotomy a b with h | h | h
  · exact (comm_all ⟨P, hF.P64⟩ (fld_irr hF.f) ⟨b, (fin_of hF hb).1⟩ (fin_of hF hb).2 ⟨a, (fin_of hF ha).1⟩ h).symm
  · rw [h]
  · exact comm_all ⟨P, hF.P64⟩ (fld_irr hF.f) ⟨a, (fin_of hF ha).1⟩ (fin_of hF ha).2 ⟨b, (fin_of hF hb).1⟩ h

/-- The value for the bits of a number, a value for each. -/
def lin (f : Nat → Nat) (x : Nat) : Nat → Nat
  | 0 => 0
  | k + 1 => lin f x k ^^^ (if x.testBit k then f (2 ^ k) else 0)
theorem ite_xor (a b : Bool) (v : Nat) : (if (a ^^ b) = true then v else 0) = (if a = true then v else 0) ^^^ (if b = true then v else 0) := by
  cases a <;> cases b <;> simp
theorem xor4 (a b c d : Nat) : (a ^^^ b) ^^^ (c ^^^ d) = (a ^^^ c) ^^^ (b ^^^ d) := by
  rw [Nat.xor_assoc, Nat.xor_assoc, ← Nat.xor_assoc b c d, Nat.xor_comm b c, Nat.xor_assoc c b d]
theorem lin_xor (f : Nat → Nat) (x y : Nat) : ∀ k, lin f (x ^^^ y) k = lin f x k ^^^ lin f y k
  | 0 => by simp [lin]
  | k + 1 => by
    simp only [lin]
    rw [lin_xor f x y k, Nat.testBit_xor, ite_xor, xor4]
theorem lin_congr {f g : Nat → Nat} (x : Nat) : ∀ {k : Nat}, (∀ i, i < k → f (2 ^ i) = g (2 ^ i)) → lin f x k = lin g x k
  | 0, _ => rfl
  | k + 1, h => by simp only [lin]; rw [lin_congr x (k := k) fun i hi => h i (by omega), h k (by omega)]
/-- What is additive below 2 to the power m is told by its values for the powers of two. -/
theorem lin_of {f : Nat → Nat} {m : Nat} (h0 : f 0 = 0) (h : ∀ x y, x < 2 ^ m → y < 2 ^ m → f (x ^^^ y) = f x ^^^ f y) : ∀ k, k ≤ m → ∀ x, x < 2 ^ k → f x = lin f x k
  | 0, _, x, hx => by obtain rfl : x = 0 := by simpa using hx
                      rw [h0]; rfl
  | k + 1, hk, x, hx => by
    have hle : 2 ^ k ≤ 2 ^ m := Nat.pow_le_pow_right (by omega) (by omega)
    have hlt : 2 ^ k < 2 ^ m := Nat.pow_lt_pow_right (by omega) (by omega)
    have hlow : ∀ j, j < k → ∀ y, lin f (y ^^^ 2 ^ k) (j + 1) = lin f y (j + 1) := by
      intro j
      induction j with
      | zero => intro hj y; simp only [lin]; rw [Nat.testBit_xor, Nat.testBit_two_pow_of_ne (by omega)]; simp
      | succ j ih => intro hj y; have := ih (by omega) y; unfold lin; rw [this, Nat.testBit_xor, Nat.testBit_two_pow_of_ne (by omega)]; simp
    have hlow' : ∀ y, lin f (y ^^^ 2 ^ k) k = lin f y k := by
      intro y
      cases k with
      | zero => rfl
      | succ k => exact hlow k (by omega) y
    by_cases e : x < 2 ^ k
    · simp only [lin]
      rw [Nat.testBit_lt_two_pow e, lin_of h0 h k (by omega) x e]; simp
    · have e2 : x.testBit k = true := by
        rw [Nat.testBit_eq_decide_div_mod_eq]
        have : x / 2 ^ k = 1 := by
          rw [Nat.pow_succ] at hx
          exact Nat.div_eq_of_lt_le (by omega) (by omega)
        rw [this]; rfl
      have e3 : x ^^^ 2 ^ k < 2 ^ k := by
        refine Nat.lt_pow_two_of_testBit _ fun i hi => ?_
        rw [Nat.testBit_xor]
        by_cases ei : i = k
        · rw [ei, e2, Nat.testBit_two_pow_self]; rfl
        · rw [Nat.testBit_lt_two_pow (Nat.lt_of_lt_of_le hx (Nat.pow_le_pow_right (by omega) (by omega))), Nat.testBit_two_pow_of_ne (by omega)]; rfl
      have e4 : x = (x ^^^ 2 ^ k) ^^^ 2 ^ k := by rw [Nat.xor_assoc, Nat.xor_self, Nat.xor_zero]
      have e5 : f x = f (x ^^^ 2 ^ k) ^^^ f (2 ^ k) := by
        conv => lhs; rw [e4]
        exact h _ _ (by omega) hlt
      simp only [lin]
      rw [e2, e5, lin_of h0 h k (by omega) _ e3, hlow']; simp

/-- A product, bit by bit. -/
theorem bits_all : ∀ P : Fin 64, irr P.val = true → ∀ b : Fin 32, b.val < 2 ^ (nb P.val - 1) → ∀ a : Fin 32, a.val < 2 ^ (nb P.val - 1) → mul P.val a.val b.val = lin (fun x => mul P.val x b.val) a.val 5 := by decide +kernel
theorem add_mul' {m P n a b c : Nat} (hF : Fld m P n) (ha : a < n) (hb : b < n) (hc : c < n) : mul P (a ^^^ b) c = mul P a c ^^^ mul P b c := by
  have hx := hF.xor_lt ha hb
  have h : ∀ y, y < n → mul P y c = lin (fun x => mul P x c) y 5 := fun y hy =>
    bits_all ⟨P, hF.P64⟩ (fld_irr hF.f) ⟨c, (fin_of hF hc).1⟩ (fin_of hF hc).2 ⟨y, (fin_of hF hy).1⟩ (fin_of hF hy).2
  rw [h _ hx, h _ ha, h _ hb, lin_xor]
theorem mul_add' {m P n a b c : Nat} (hF : Fld m P n) (ha : a < n) (hb : b < n) (hc : c < n) : mul P c (a ^^^ b) = mul P c a ^^^ mul P c b := by
  rw [mul_comm' hF hc (hF.xor_lt ha hb), add_mul' hF ha hb hc, mul_comm' hF ha hc, mul_comm' hF hb hc]
theorem assoc_all : ∀ P : Fin 64, irr P.val = true → ∀ i : Fin 5, i.val < nb P.val - 1 → ∀ j : Fin 5, j.val < nb P.val - 1 → ∀ a : Fin 32, a.val < 2 ^ (nb P.val - 1) → mul P.val (mul P.val a.val (2 ^ i.val)) (2 ^ j.val) = mul P.val a.val (mul P.val (2 ^ i.val) (2 ^ j.val)) := by decide +kernel
theorem pow_lt_n {m P n i : Nat} (hF : Fld m P n) (hi : i < m) : 2 ^ i < n := by rw [← hF.n]; exact Nat.pow_lt_pow_right (by omega) hi
theorem ext_lin {m P n : Nat} (hF : Fld m P n) {f g : Nat → Nat} (f0 : f 0 = 0) (g0 : g 0 = 0) (hf : ∀ x y, x < n → y < n → f (x ^^^ y) = f x ^^^ f y) (hg : ∀ x y, x < n → y < n → g (x ^^^ y) = g x ^^^ g y) (h : ∀ i, i < m → f (2 ^ i) = g (2 ^ i)) {x : Nat} (hx : x < n) : f x = g x := by
  have hn := hF.n
  rw [lin_of (m := m) f0 (by rw [hn]; exact hf) m (Nat.le_refl _) x (by omega), lin_of (m := m) g0 (by rw [hn]; exact hg) m (Nat.le_refl _) x (by omega)]
  exact lin_congr x h
theorem mul_assoc' {m P n a b c : Nat} (hF : Fld m P n) (ha : a < n) (hb : b < n) (hc : c < n) : mul P (mul P a b) c = mul P a (mul P b c) := by
  have hm := hF.mul_lt
  have hn2 := hF.n2
  have h0 : (0 : Nat) < n := by omega
  have hm5 := hF.m5
  have s1 : ∀ j, j < m → ∀ b, b < n → mul P (mul P a b) (2 ^ j) = mul P a (mul P b (2 ^ j)) := by
    intro j hj b hb
    have hj' := pow_lt_n hF hj
    refine ext_lin hF (f := fun b => mul P (mul P a b) (2 ^ j)) (g := fun b => mul P a (mul P b (2 ^ j))) ?_ ?_ ?_ ?_ ?_ hb
    · show mul P (mul P a 0) _ = 0
      rw [mul_zero' hF ha, zero_mul' hF hj']
    · show mul P a (mul P 0 _) = 0
      rw [zero_mul' hF hj', mul_zero' hF ha]
    · intro x y hx hy
      show mul P (mul P a (x ^^^ y)) _ = _
      rw [mul_add' hF hx hy ha, add_mul' hF (hm _ _) (hm _ _) hj']
    · intro x y hx hy
      show mul P a (mul P (x ^^^ y) _) = _
      rw [add_mul' hF hx hy hj', mul_add' hF (hm _ _) (hm _ _) ha]
    · intro i hi
      have hP := fld_nb hF.f
      exact assoc_all ⟨P, hF.P64⟩ (fld_irr hF.f) ⟨i, by omega⟩ (by show i < nb P - 1; omega) ⟨j, by omega⟩ (by show j < nb P - 1; omega) ⟨a, (fin_of hF ha).1⟩ (fin_of hF ha).2
  refine ext_lin hF (f := fun c => mul P (mul P a b) c) (g := fun c => mul P a (mul P b c)) ?_ ?_ ?_ ?_ ?_ hc
  · exact mul_zero' hF (hm _ _)
  · show mul P a (mul P b 0) = 0
    rw [mul_zero' hF hb, mul_zero' hF ha]
  · intro x y hx hy; exact mul_add' hF hx hy (hm _ _)
  · intro x y hx hy
    show mul P a (mul P b (x ^^^ y)) = _
    rw [mul_add' hF hx hy hb, mul_add' hF (hm _ _) (hm _ _) ha]
  · intro j hj; exact s1 j hj b hb
theorem sq_xor {m P n a b : Nat} (hF : Fld m P n) (ha : a < n) (hb : b < n) : ∀ k, sq P (a ^^^ b) k = sq P a k ^^^ sq P b k
  | 0 => rfl
  | k + 1 => by
    have h1 := sq_lt hF ha k
    have h2 := sq_lt hF hb k
    simp only [sq]
    rw [sq_xor hF ha hb k, add_mul' hF h1 h2 (hF.xor_lt h1 h2), mul_add' hF h1 h2 h1, mul_add' hF h1 h2 h2, mul_comm' hF h2 h1]
    rw [Nat.xor_assoc, ← Nat.xor_assoc (mul P (sq P a k) (sq P b k)), Nat.xor_self, Nat.zero_xor]
theorem sq_mul {m P n a b : Nat} (hF : Fld m P n) (ha : a < n) (hb : b < n) : ∀ k, sq P (mul P a b) k = mul P (sq P a k) (sq P b k)
  | 0 => rfl
  | k + 1 => by
    have h1 := sq_lt hF ha k
    have h2 := sq_lt hF hb k
    have h3 := hF.mul_lt
    simp only [sq]
    rw [sq_mul hF ha hb k, mul_assoc' hF h1 h2 (h3 _ _), mul_assoc' hF h1 h1 (h3 _ _), ← mul_assoc' hF h2 h1 h2, mul_comm' hF h2 h1, mul_assoc' hF h1 h2 h2]

/-- The value, of the first k of any coefficients. -/
def vf (P : Nat) (f : Nat → Nat) (y : Nat) : Nat → Nat
  | 0 => 0
  | k + 1 => vf P f y k ^^^ mul P (f k) (sq P y k)
theorem vf_lt {m P n : Nat} (hF : Fld m P n) (f : Nat → Nat) (y : Nat) : ∀ k, vf P f y k < n
  | 0 => by have := hF.n2; simp only [vf]; omega
  | k + 1 => hF.xor_lt (vf_lt hF f y k) (hF.mul_lt _ _)
theorem vlk_vf (P : Nat) (p : List Nat) (y : Nat) : ∀ k, vlk P p y k = vf P (nth p) y k
  | 0 => rfl
  | k + 1 => by simp only [vlk, vf]; rw [vlk_vf P p y k]
theorem vf_congr {P : Nat} {f g : Nat → Nat} (y : Nat) : ∀ {k : Nat}, (∀ j, j < k → f j = g j) → vf P f y k = vf P g y k
  | 0, _ => rfl
  | k + 1, h => by simp only [vf]; rw [vf_congr y (k := k) fun j hj => h j (by omega), h k (by omega)]
theorem vf_more {m P n : Nat} (hF : Fld m P n) {f : Nat → Nat} {y : Nat} (hy : y < n) {k : Nat} : ∀ K, k ≤ K → (∀ j, k ≤ j → f j = 0) → vf P f y K = vf P f y k
  | 0, h, _ => by obtain rfl : k = 0 := by omega
                  rfl
  | K + 1, h, h0 => by
    by_cases e : k = K + 1
    · rw [e]
    · simp only [vf]
      rw [vf_more hF hy K (by omega) h0, h0 K (by omega), zero_mul' hF (sq_lt hF hy K)]; simp
theorem vl_vf {m P n : Nat} (hF : Fld m P n) {p : List Nat} {y : Nat} (hy : y < n) {K : Nat} (h : p.length ≤ K) : vl P p y = vf P (nth p) y K := by
  rw [vl, vlk_vf, vf_more hF hy K h fun j hj => nth_ge hj]
theorem vf_put {m P n : Nat} (hF : Fld m P n) {f : Nat → Nat} (hf : ∀ j, f j < n) {y a i : Nat} (hy : y < n) (ha : a < n) : ∀ {K : Nat}, vf P (put f i (f i ^^^ a)) y K = vf P f y K ^^^ (if i < K then mul P a (sq P y i) else 0)
  | 0 => by simp [vf]
  | K + 1 => by
    simp only [vf]
    rw [vf_put hF hf hy ha (K := K)]
    by_cases e : K = i
    · subst e
      simp only [put, if_true]
      rw [if_neg (by omega), if_pos (by omega), add_mul' hF (hf _) ha (sq_lt hF hy _)]
      simp [Nat.xor_assoc]
    · simp only [put]
      rw [if_neg e]
      by_cases h : i < K
      · rw [if_pos h, if_pos (by omega), Nat.xor_assoc, Nat.xor_comm (mul P a _), ← Nat.xor_assoc]
      · rw [if_neg h, if_neg (by omega)]; simp
theorem vf_crow {m P n : Nat} (hF : Fld m P n) {p q : List Nat} (ep : ∀ j, nth p j < n) (eq : ∀ j, nth q j < n) (i : Nat) {g : Nat → Nat} (hg : ∀ k, g k < n) {y : Nat} (hy : y < n) {K : Nat} :
    ∀ J, i + J ≤ K → vf P (crow P p q i g J) y K = vf P g y K ^^^ mul P (nth p i) (sq P (vlk P q y J) i)
  | 0, _ => by simp only [crow, vlk]; rw [sq_zero hF, mul_zero' hF (ep i)]; simp
  | J + 1, h => by
    have h1 := sq_lt hF (vlk_lt hF q y J) i
    have h2 := sq_lt hF (eq J) i
    have h3 := hF.mul_lt
    simp only [crow]
    rw [vf_put hF (crow_lt hF p q i hg J) hy (h3 _ _), if_pos (by omega), vf_crow hF ep eq i hg hy J (by omega), Nat.xor_assoc]
    congr 1
    simp only [vlk]
    rw [sq_xor hF (vlk_lt hF q y J) (h3 _ _), mul_add' hF h1 (sq_lt hF (h3 _ _) _) (ep i), sq_mul hF (eq J) (sq_lt hF hy J), ← sq_add, Nat.add_comm J i, mul_assoc' hF (ep i) h2 (sq_lt hF hy _)]
theorem vf_call {m P n : Nat} (hF : Fld m P n) {p q : List Nat} (ep : ∀ j, nth p j < n) (eq : ∀ j, nth q j < n) {y : Nat} (hy : y < n) {K : Nat} :
    ∀ I, I + q.length ≤ K + 1 → vf P (call P p q I) y K = vlk P p (vl P q y) I
  | 0, _ => by
    simp only [call, vlk]
    have := vf_more hF hy (f := fun _ => 0) (k := 0) K (Nat.zero_le _) (fun _ _ => rfl)
    rw [this]; rfl
  | I + 1, h => by
    simp only [call, vlk]
    rw [vf_crow hF ep eq I (call_lt hF p q I) hy q.length (by omega), vf_call hF ep eq hy I (by omega)]
    rfl
/-- The value of what is composed is the value of the value. -/
theorem vl_cmp {m P n : Nat} (hF : Fld m P n) {p q : List Nat} (ep : ∀ j, nth p j < n) (eq : ∀ j, nth q j < n) {y : Nat} (hy : y < n) : vl P (cmp P p q) y = vl P p (vl P q y) := by
  unfold cmp
  by_cases h : p.length = 0 ∨ q.length = 0
  · rw [if_pos h]
    rcases h with h | h
    · show 0 = vl P p _
      rw [vl, h]; rfl
    · have e : vl P q y = 0 := by rw [vl, h]; rfl
      rw [e]
      have hz : ∀ k, vlk P p 0 k = 0 := by
        intro k
        induction k with
        | zero => rfl
        | succ k ih => simp only [vlk]; rw [ih, sq_zero hF, mul_zero' hF (ep k)]; rfl
      exact (hz _).symm
  · rw [if_neg h, vl_vf hF hy (K := p.length + q.length - 1) (by rw [lst_length]; omega), vf_congr (g := cmpF P p q) y fun j hj => lst_nth _ hj]
    exact vf_call hF ep eq hy p.length (by omega)
end Go.Proofs.Ytlchelaohiojiaa
namespace Go.Proofs.Ytlchelaohiojiaa
set_option linter.unusedVariables false

/-- No zero at the end, as a truth value. -/
def trmB (p : List Nat) : Bool := decide (p.length = 0) || decide (nth p (p.length - 1) ≠ 0)
theorem trmB_trm {p : List Nat} (h : trmB p = true) : Trm p := by
  simp [trmB] at h
  unfold Trm
  rcases h with h | h
  · exact .inl (by rw [h]; rfl)
  · exact .inr h
theorem trmB_tl (p : List Nat) : trmB p = decide (tl (nth p) p.length = p.length) := by
  rw [Bool.eq_iff_iff]
  constructor
  · intro h
    exact decide_eq_true (tl_full (trmB_trm h))
  · intro h
    have h1 := of_decide_eq_true h
    simp only [trmB, Bool.or_eq_true, decide_eq_true_eq]
    by_cases h0 : p.length = 0
    · exact .inl h0
    · exact .inr (by have := tl_last (f := nth p) (k := p.length) (by omega); rwa [h1] at this)
/-- A list of numbers that is a linear polynomial over a field with n elements. -/
def okL (n : Nat) (zs : List Int) : Bool := decide (zs.length ≤ 12) && (allIn n zs && trmB (nats zs))
theorem okL_len {n : Nat} {zs : List Int} (h : okL n zs = true) : zs.length ≤ 12 := by simp [okL] at h; exact h.1
theorem okL_in {n : Nat} {zs : List Int} (h : okL n zs = true) : allIn n zs = true := by simp [okL] at h; exact h.2.1
theorem okL_trm {n : Nat} {zs : List Int} (h : okL n zs = true) : Trm (nats zs) := by simp [okL] at h; exact trmB_trm h.2.2

/-- The inverse. -/
def inv (P n a : Nat) : Nat := pw P a (n - 2)
theorem inv_lt {m P n : Nat} (hF : Fld m P n) (a : Nat) : inv P n a < n := pw_lt hF a _
theorem mul_inv {m P n a : Nat} (hF : Fld m P n) (h0 : a ≠ 0) (ha : a < n) : mul P a (inv P n a) = 1 := inv_is hF (by omega) ha
theorem inv_ne {m P n a : Nat} (hF : Fld m P n) (h0 : a ≠ 0) (ha : a < n) : inv P n a ≠ 0 := by
  intro h
  have := mul_inv hF h0 ha
  rw [h, mul_zero' hF ha] at this
  cases this
/-- The quotient: the only element whose product with b is a. -/
def quo (P n a b : Nat) : Nat := mul P a (inv P n b)
theorem quo_lt {m P n : Nat} (hF : Fld m P n) (a b : Nat) : quo P n a b < n := hF.mul_lt _ _
theorem quo_mul {m P n a b : Nat} (hF : Fld m P n) (ha : a < n) (h0 : b ≠ 0) (hb : b < n) : mul P (quo P n a b) b = a := by
  have hi := inv_lt hF b
  rw [quo, mul_assoc' hF ha hi hb, mul_comm' hF hi hb, mul_inv hF h0 hb, mul_one' hF ha]
theorem quo_one {m P n a b q : Nat} (hF : Fld m P n) (hq : q < n) (h0 : b ≠ 0) (hb : b < n) (h : mul P q b = a) : q = quo P n a b := by
  have hi := inv_lt hF b
  rw [quo, ← h, mul_assoc' hF hq hb hi, mul_inv hF h0 hb, mul_one' hF hq]
theorem quo_ne {m P n a b : Nat} (hF : Fld m P n) (ha : a < n) (h0 : b ≠ 0) (hb : b < n) (h : a ≠ 0) : quo P n a b ≠ 0 :=
  mul_ne hF ha (inv_lt hF b) h (inv_ne hF h0 hb)

/-- A multiple. -/
def scl (P c : Nat) (p : List Nat) : List Nat := lst (fun j => mul P c (nth p j)) p.length
theorem scl_length (P c : Nat) (p : List Nat) : (scl P c p).length = p.length := lst_length _ _
theorem scl_nth {m P n c : Nat} (hF : Fld m P n) (hc : c < n) (p : List Nat) (j : Nat) : nth (scl P c p) j = mul P c (nth p j) := by
  rw [scl]
  refine lst_nth0 fun h => ?_
  rw [nth_ge h, mul_zero' hF hc]
theorem scl_lt {m P n c : Nat} (hF : Fld m P n) (hc : c < n) (p : List Nat) (j : Nat) : nth (scl P c p) j < n := by rw [scl_nth hF hc]; exact hF.mul_lt _ _
theorem cmp_one {m P n c : Nat} (hF : Fld m P n) (hc : c < n) {p : List Nat} (ep : ∀ j, nth p j < n) : cmp P [c] p = scl P c p := by
  unfold cmp
  by_cases h : p.length = 0
  · rw [if_pos (.inr h), scl, h]; rfl
  · rw [if_neg (by simp; intro h1; simp [h1] at h)]
    refine nth_ext (by rw [lst_length, scl_length]; simp) fun j hj => ?_
    rw [lst_length] at hj
    rw [lst_nth _ hj, scl_nth hF hc, cmpF, call_cs]
    show cs P [c] p j 1 = _
    simp only [cs]
    by_cases e : j < p.length
    · rw [if_pos (by omega)]
      show 0 ^^^ mul P c (sq P (nth p (j - 0)) 0) = _
      simp [sq]
    · rw [if_neg (by omega), nth_ge (by omega), mul_zero' hF hc]; rfl
theorem scl_zero {m P n : Nat} (hF : Fld m P n) {p : List Nat} (ep : ∀ j, nth p j < n) (j : Nat) : nth (scl P 0 p) j = 0 := by
  rw [scl_nth hF (by have := hF.n2; omega), zero_mul' hF (ep j)]
theorem sum_zero {p q : List Nat} (hp : Trm p) (hq : ∀ j, nth q j = 0) : sumL p q = p :=
  trm_ext (sumL_trm _ _) hp fun j => by rw [sumL_nth, hq, Nat.xor_zero]
theorem sumL_length_le (p q : List Nat) : (sumL p q).length ≤ max p.length q.length := by
  have := trim_length_le (lst (sumF p q) (max p.length q.length))
  rwa [lst_length] at this
theorem sumL_lt {m P n : Nat} (hF : Fld m P n) {p q : List Nat} (ep : ∀ j, nth p j < n) (eq : ∀ j, nth q j < n) (j : Nat) : nth (sumL p q) j < n := by
  rw [sumL_nth]; exact hF.xor_lt (ep j) (eq j)
theorem cmp_lt {m P n : Nat} (hF : Fld m P n) (p q : List Nat) (j : Nat) : nth (cmp P p q) j < n := by
  have h0 : (0 : Nat) < n := by have := hF.n2; omega
  unfold cmp
  split
  · exact h0
  · by_cases e : j < p.length + q.length - 1
    · rw [lst_nth _ e]; exact call_lt hF p q _ _
    · rw [nth_ge (by rw [lst_length]; omega)]; exact h0
theorem cmp_length {P : Nat} {p q : List Nat} (hp : p.length ≠ 0) (hq : q.length ≠ 0) : (cmp P p q).length = p.length + q.length - 1 := by
  unfold cmp; rw [if_neg (by omega), lst_length]
theorem two_lt {m P n v : Nat} (hF : Fld m P n) (hv : v < n) (j : Nat) : nth [v, 1] j < n := by
  have := hF.n2
  match j with
  | 0 => exact hv
  | 1 => show 1 < n; omega
  | j + 2 => show 0 < n; omega
theorem one_lt {m P n c : Nat} (hF : Fld m P n) (hc : c < n) (j : Nat) : nth [c] j < n := by
  have := hF.n2
  match j with
  | 0 => exact hc
  | j + 1 => show 0 < n; omega
theorem two_trm (v : Nat) : Trm [v, 1] := .inr (by show (1 : Nat) ≠ 0; omega)
theorem vl_two {m P n v z : Nat} (hF : Fld m P n) (hv : v < n) (hz : z < n) : vl P [v, 1] z = mul P v z ^^^ mul P z z := by
  show vlk P [v, 1] z 2 = _
  simp only [vlk]
  show (0 ^^^ mul P v (sq P z 0)) ^^^ mul P 1 (sq P z 1) = _
  rw [one_mul' hF (sq_lt hF hz 1)]
  simp [sq]

/-- The number of roots. -/
def rc (P n : Nat) (p : List Nat) : Nat := ((List.range n).filter fun y => vl P p y == 0).length
theorem rc_le (P n : Nat) (p : List Nat) : rc P n p ≤ n := by
  have := List.length_filter_le (fun y => vl P p y == 0) (List.range n)
  rw [List.length_range] at this
  exact this
theorem filter_le {a b : Nat → Bool} : ∀ {l : List Nat}, (∀ y ∈ l, a y = true → b y = true) → (l.filter a).length ≤ (l.filter b).length
  | [], _ => Nat.le_refl _
  | y :: l, h => by
    have ih := filter_le (a := a) (b := b) (l := l) fun z hz => h z (by simp [hz])
    have hy := h y (by simp)
    cases ha : a y with
    | true => rw [List.filter_cons_of_pos ha, List.filter_cons_of_pos (hy ha)]; simpa using ih
    | false =>
      rw [List.filter_cons_of_neg (by simp [ha])]
      cases hb : b y with
      | true => rw [List.filter_cons_of_pos hb]; simp; omega
      | false => rw [List.filter_cons_of_neg (by simp [hb])]; exact ih
theorem filter_lt {a b : Nat → Bool} {x : Nat} : ∀ {l : List Nat}, (∀ y ∈ l, a y = true → b y = true) → x ∈ l → a x = false → b x = true → (l.filter a).length < (l.filter b).length
  | [], _, hx, _, _ => by cases hx
  | y :: l, h, hx, ha', hb' => by
    have hl := filter_le (a := a) (b := b) (l := l) fun z hz => h z (by simp [hz])
    have hy := h y (by simp)
    by_cases e : y = x
    · subst e
      rw [List.filter_cons_of_neg (by simp [ha']), List.filter_cons_of_pos hb']; simp; omega
    · have ih := filter_lt (a := a) (b := b) (x := x) (l := l) (fun z hz => h z (by simp [hz])) (by
        rcases List.mem_cons.1 hx with h1 | h1
        · exact absurd h1.symm e
        · exact h1) ha' hb'
      cases ha : a y with
      | true => rw [List.filter_cons_of_pos ha, List.filter_cons_of_pos (hy ha)]; simpa using ih
      | false =>
        rw [List.filter_cons_of_neg (by simp [ha])]
        cases hb : b y with
        | true => rw [List.filter_cons_of_pos hb]; simp; omega
        | false => rw [List.filter_cons_of_neg (by simp [hb])]; exact ih
theorem rc_more {m P n x : Nat} (hF : Fld m P n) {p : List Nat} (ep : ∀ j, nth p j < n) (hx : x < n) (h : vl P p x ≠ 0) : rc P n p < rc P n (cmp P [vl P p x, 1] p) := by
  have hv := vl_lt hF p x
  have h0 : (0 : Nat) < n := by have := hF.n2; omega
  refine filter_lt (x := x) (fun y hy hr => ?_) (by simpa using hx) (by simpa using h) ?_
  · have hyn : y < n := by simpa using hy
    have hr0 : vl P p y = 0 := by simpa using hr
    rw [vl_cmp hF (two_lt hF hv) ep hyn, hr0, vl_two hF hv h0, mul_zero' hF hv, mul_zero' hF h0]
    rfl
  · rw [vl_cmp hF (two_lt hF hv) ep hx, vl_two hF hv hv, Nat.xor_self]
    rfl

/-- The annihilator of the first elements of a list. -/
def ann (P : Nat) (xs : Nat → Nat) : Nat → List Nat
  | 0 => [1]
  | i + 1 => if vl P (ann P xs i) (xs i) = 0 then ann P xs i else cmp P [vl P (ann P xs i) (xs i), 1] (ann P xs i)
theorem ann_lt {m P n : Nat} (hF : Fld m P n) (xs : Nat → Nat) : ∀ i j, nth (ann P xs i) j < n
  | 0, j => one_lt hF (by have := hF.n2; omega) j
  | i + 1, j => by
    simp only [ann]
    split
    · exact ann_lt hF xs i j
    · exact cmp_lt hF _ _ j
theorem ann_ne (P : Nat) (xs : Nat → Nat) : ∀ i, (ann P xs i).length ≠ 0
  | 0 => by show (1 : Nat) ≠ 0; omega
  | i + 1 => by
    simp only [ann]
    split
    · exact ann_ne P xs i
    · have := ann_ne P xs i
      rw [cmp_length (by simp) this]; simp
theorem ann_trm {m P n : Nat} (hF : Fld m P n) (xs : Nat → Nat) : ∀ i, Trm (ann P xs i)
  | 0 => .inr (by show (1 : Nat) ≠ 0; omega)
  | i + 1 => by
    simp only [ann]
    split
    · exact ann_trm hF xs i
    · exact cmp_trm hF (two_trm _) (ann_trm hF xs i) (two_lt hF (vl_lt hF _ _)) (ann_lt hF xs i)
theorem ann_rc {m P n : Nat} (hF : Fld m P n) {xs : Nat → Nat} (hx : ∀ i, xs i < n) : ∀ i, (ann P xs i).length ≤ rc P n (ann P xs i) + 1
  | 0 => by simp [ann]
  | i + 1 => by
    have ih := ann_rc hF hx i
    simp only [ann]
    split
    · exact ih
    · rename_i h
      have := rc_more hF (ann_lt hF xs i) (hx i) h
      have h0 := ann_ne P xs i
      rw [cmp_length (by simp) h0]
      simp
      omega
theorem ann_small {m P n : Nat} (hF : Fld m P n) {xs : Nat → Nat} (hx : ∀ i, xs i < n) (i : Nat) : (ann P xs i).length ≤ 33 := by
  have h1 := ann_rc hF hx i
  have h2 := rc_le P n (ann P xs i)
  have h3 := hF.n32
  omega

/-- Interpolation: what is zero for the first i elements, and what has the first i values. -/
def ip (P n : Nat) (xs ys : Nat → Nat) : Nat → List Nat × List Nat
  | 0 => ([1], [])
  | i + 1 => (cmp P [vl P (ip P n xs ys i).1 (xs i), 1] (ip P n xs ys i).1, sumL (ip P n xs ys i).2 (scl P (quo P n (vl P (ip P n xs ys i).2 (xs i) ^^^ ys i) (vl P (ip P n xs ys i).1 (xs i))) (ip P n xs ys i).1))
theorem ip_lt {m P n : Nat} (hF : Fld m P n) (xs ys : Nat → Nat) : ∀ i, (∀ j, nth (ip P n xs ys i).1 j < n) ∧ ∀ j, nth (ip P n xs ys i).2 j < n
  | 0 => ⟨one_lt hF (by have := hF.n2; omega), fun j => by show 0 < n; have := hF.n2; omega⟩
  | i + 1 => ⟨cmp_lt hF _ _, sumL_lt hF (ip_lt hF xs ys i).2 (scl_lt hF (quo_lt hF _ _) _)⟩
theorem ip_ne (P n : Nat) (xs ys : Nat → Nat) : ∀ i, (ip P n xs ys i).1.length ≠ 0
  | 0 => by simp [ip]
  | i + 1 => by
    have := ip_ne P n xs ys i
    simp only [ip]
    rw [cmp_length (by simp) this]; simp
theorem ip_trm {m P n : Nat} (hF : Fld m P n) (xs ys : Nat → Nat) : ∀ i, Trm (ip P n xs ys i).1 ∧ Trm (ip P n xs ys i).2
  | 0 => ⟨.inr (by show (1 : Nat) ≠ 0; omega), .inl rfl⟩
  | i + 1 => ⟨cmp_trm hF (two_trm _) (ip_trm hF xs ys i).1 (two_lt hF (vl_lt hF _ _)) (ip_lt hF xs ys i).1, sumL_trm _ _⟩
theorem ip_le (P n : Nat) (xs ys : Nat → Nat) : ∀ i, (ip P n xs ys i).1.length = i + 1 ∧ (ip P n xs ys i).2.length ≤ i + 1
  | 0 => ⟨rfl, by simp [ip]⟩
  | i + 1 => by
    have ih := ip_le P n xs ys i
    have h0 := ip_ne P n xs ys i
    simp only [ip]
    rw [cmp_length (by simp) h0]
    refine ⟨by simp; omega, ?_⟩
    have := sumL_length_le (ip P n xs ys i).2 (scl P (quo P n (vl P (ip P n xs ys i).2 (xs i) ^^^ ys i) (vl P (ip P n xs ys i).1 (xs i))) (ip P n xs ys i).1)
    rw [scl_length] at this
    omega
/-- All elements before were independent: then there are few. -/
def ipOk (P n : Nat) (xs ys : Nat → Nat) (i : Nat) : Prop := ∀ k, k < i → vl P (ip P n xs ys k).1 (xs k) ≠ 0
theorem ip_rc {m P n : Nat} (hF : Fld m P n) {xs ys : Nat → Nat} (hx : ∀ i, xs i < n) : ∀ i, ipOk P n xs ys i → i ≤ rc P n (ip P n xs ys i).1
  | 0, _ => Nat.zero_le _
  | i + 1, h => by
    have ih := ip_rc hF (ys := ys) hx i fun k hk => h k (by omega)
    have := rc_more hF (ip_lt hF xs ys i).1 (hx i) (h i (by omega))
    simp only [ip]
    omega
theorem ip_small {m P n : Nat} (hF : Fld m P n) {xs ys : Nat → Nat} (hx : ∀ i, xs i < n) {i : Nat} (h : ipOk P n xs ys i) : i ≤ 32 := by
  have h1 := ip_rc hF (ys := ys) hx i h
  have h2 := rc_le P n (ip P n xs ys i).1
  have h3 := hF.n32
  omega
theorem ip_step {m P n : Nat} (hF : Fld m P n) (xs ys : Nat → Nat) (i : Nat) (c : Nat) (hc : c = quo P n (vl P (ip P n xs ys i).2 (xs i) ^^^ ys i) (vl P (ip P n xs ys i).1 (xs i))) :
    (ip P n xs ys (i + 1)).2 = if c = 0 then (ip P n xs ys i).2 else sumL (ip P n xs ys i).2 (cmp P [c] (ip P n xs ys i).1) := by
  have hcn : c < n := by rw [hc]; exact quo_lt hF _ _
  simp only [ip]
  rw [← hc]
  split
  · rename_i h
    rw [h]
    exact sum_zero (ip_trm hF xs ys i).2 (scl_zero hF (ip_lt hF xs ys i).1)
  · rw [cmp_one hF hcn (ip_lt hF xs ys i).1]
end Go.Proofs.Ytlchelaohiojiaa
namespace Go.Proofs.Ytlchelaohiojiaa
set_option linter.unusedVariables false

/-- Whether the first elements are independent. -/
def ipB (P n : Nat) (xs ys : Nat → Nat) : Nat → Bool
  | 0 => true
  | i + 1 => ipB P n xs ys i && decide (vl P (ip P n xs ys i).1 (xs i) ≠ 0)
theorem ipB_ok {P n : Nat} {xs ys : Nat → Nat} : ∀ {i : Nat}, ipB P n xs ys i = true → ipOk P n xs ys i
  | 0, _ => fun k hk => by omega
  | i + 1, h => by
    simp only [ipB, Bool.and_eq_true, decide_eq_true_eq] at h
    intro k hk
    by_cases e : k = i
    · subst e; exact h.2
    · exact ipB_ok h.1 k (by omega)
theorem ok_ipB {P n : Nat} {xs ys : Nat → Nat} : ∀ {i : Nat}, ipOk P n xs ys i → ipB P n xs ys i = true
  | 0, _ => rfl
  | i + 1, h => by
    simp only [ipB, Bool.and_eq_true, decide_eq_true_eq]
    exact ⟨ok_ipB fun k hk => h k (by omega), h i (by omega)⟩
theorem ipB_no {P n : Nat} {xs ys : Nat → Nat} {k l : Nat} (hk : k < l) (h : vl P (ip P n xs ys k).1 (xs k) = 0) : ipB P n xs ys l = false := by
  cases hb : ipB P n xs ys l with
  | false => rfl
  | true => exact absurd h (ipB_ok hb k hk)
theorem ipOk_next {P n : Nat} {xs ys : Nat → Nat} {i : Nat} (h : ipOk P n xs ys i) (h1 : vl P (ip P n xs ys i).1 (xs i) ≠ 0) : ipOk P n xs ys (i + 1) := by
  intro k hk
  by_cases e : k = i
  · subst e; exact h1
  · exact h k (by omega)
theorem ip_next1 (P n : Nat) (xs ys : Nat → Nat) (i : Nat) : (ip P n xs ys (i + 1)).1 = cmp P [vl P (ip P n xs ys i).1 (xs i), 1] (ip P n xs ys i).1 := by simp only [ip]
theorem ip_next2 (P n : Nat) (xs ys : Nat → Nat) (i : Nat) : (ip P n xs ys (i + 1)).2 = sumL (ip P n xs ys i).2 (scl P (quo P n (vl P (ip P n xs ys i).2 (xs i) ^^^ ys i) (vl P (ip P n xs ys i).1 (xs i))) (ip P n xs ys i).1) := by simp only [ip]
end Go.Proofs.Ytlchelaohiojiaa
namespace Go.Proofs.Ytlchelaohiojiaa
set_option linter.unusedVariables false

/-- One round of the division: behind the first J coefficients of the divisor. -/
def drow (t : Nat → Nat) (i : Nat) (g : Nat → Nat) : Nat → (Nat → Nat)
  | 0 => g
  | j + 1 => put (drow t i g j) (i + j) (drow t i g j (i + j) ^^^ t j)
theorem drow_at (t : Nat → Nat) (i : Nat) (g : Nat → Nat) : ∀ J k, drow t i g J k = g k ^^^ (if i ≤ k ∧ k < i + J then t (k - i) else 0)
  | 0, k => by rw [if_neg (by omega)]; simp [drow]
  | J + 1, k => by
    simp only [drow, put]
    by_cases e : k = i + J
    · subst e
      rw [if_pos rfl, drow_at t i g J, if_neg (by omega), if_pos (by omega)]
      simp
    · rw [if_neg e, drow_at t i g J]
      by_cases h : i ≤ k ∧ k < i + J
      · rw [if_pos h, if_pos (by omega)]
      · rw [if_neg h, if_neg (by omega)]
theorem drow_lt {m P n : Nat} (hF : Fld m P n) {t : Nat → Nat} (ht : ∀ j, t j < n) (i : Nat) {g : Nat → Nat} (hg : ∀ k, g k < n) (J k : Nat) : drow t i g J k < n := by
  rw [drow_at]
  refine hF.xor_lt (hg k) ?_
  split
  · exact ht _
  · have := hF.n2; omega

/-- A side: what the coefficient of the quotient is, and what it gives with one of the divisor. -/
structure Side where
  over : Nat → Nat → Nat → Nat → Nat
  times : Nat → Nat → Nat → Nat → Nat
/-- The divisor inside. -/
def inside (P n : Nat) : Side := ⟨fun p b i _ => quo P n p (sq P b i), fun a b i _ => mul P a (sq P b i)⟩
/-- The divisor outside, in a field of degree m. -/
def outside (m P n : Nat) : Side := ⟨fun p b _ j => sq P (quo P n p b) (m - j % m), fun a b _ j => mul P b (sq P a j)⟩
/-- What a side must do. -/
structure Side.Ok (n : Nat) (s : Side) : Prop where
  over_lt : ∀ p b i j, p < n → b < n → s.over p b i j < n
  times_lt : ∀ a b i j, a < n → b < n → s.times a b i j < n
  back : ∀ p b i j, p < n → b < n → b ≠ 0 → s.times (s.over p b i j) b i j = p
  ne : ∀ p b i j, p < n → b < n → p ≠ 0 → b ≠ 0 → s.over p b i j ≠ 0
  zero : ∀ a i j, a < n → s.times a 0 i j = 0
theorem inside_ok {m P n : Nat} (hF : Fld m P n) : (inside P n).Ok n where
  over_lt := fun p b i j _ _ => quo_lt hF _ _
  times_lt := fun a b i j _ _ => hF.mul_lt _ _
  back := fun p b i j hp hb h0 => quo_mul hF hp (sq_ne hF hb h0 i) (sq_lt hF hb i)
  ne := fun p b i j hp hb h h0 => quo_ne hF hp (sq_ne hF hb h0 i) (sq_lt hF hb i) h
  zero := fun a i j ha => by show mul P a (sq P 0 i) = 0; rw [sq_zero hF, mul_zero' hF ha]
/-- Squared back. -/
theorem root_sq {m P n a : Nat} (hF : Fld m P n) (ha : a < n) (j : Nat) : sq P (sq P a (m - j % m)) j = a := by
  have hm := hF.m1
  have h1 : j % m < m := Nat.mod_lt _ (by omega)
  rw [← sq_mod hF (sq_lt hF ha _) j, ← sq_add, show m - j % m + j % m = m by omega, sq_deg hF ha]
theorem outside_ok {m P n : Nat} (hF : Fld m P n) : (outside m P n).Ok n where
  over_lt := fun p b i j _ _ => sq_lt hF (quo_lt hF _ _) _
  times_lt := fun a b i j _ _ => hF.mul_lt _ _
  back := fun p b i j hp hb h0 => by
    show mul P b (sq P (sq P (quo P n p b) (m - j % m)) j) = p
    rw [root_sq hF (quo_lt hF _ _), mul_comm' hF hb (quo_lt hF _ _), quo_mul hF hp h0 hb]
  ne := fun p b i j hp hb h h0 => sq_ne hF (quo_lt hF _ _) (quo_ne hF hp h0 hb h) _
  zero := fun a i j ha => zero_mul' hF (sq_lt hF ha j)

/-- The next coefficient of the quotient, and the next rest. -/
def dco (s : Side) (q r : List Nat) : Nat := s.over (nth r (r.length - 1)) (nth q (q.length - 1)) (r.length - q.length) (q.length - 1)
def dtm (s : Side) (q r : List Nat) (j : Nat) : Nat := s.times (dco s q r) (nth q j) (r.length - q.length) j
def dst (s : Side) (q r : List Nat) : List Nat := trim (lst (drow (dtm s q r) (r.length - q.length) (nth r) q.length) r.length)
/-- The division: the quotient's coefficients and the rest, by fuel. -/
def dv (s : Side) (q : List Nat) : Nat → (Nat → Nat) → List Nat → (Nat → Nat) × List Nat
  | 0, f, r => (f, r)
  | k + 1, f, r => if r.length < q.length then (f, r) else dv s q k (put f (r.length - q.length) (dco s q r)) (dst s q r)
theorem nth_lt_n {m P n : Nat} (hF : Fld m P n) {p : List Nat} (h : ∀ j, nth p j < n) (j : Nat) : nth p j < n := h j
theorem dco_lt {m P n : Nat} (hF : Fld m P n) {s : Side} (hs : s.Ok n) {q r : List Nat} (eq : ∀ j, nth q j < n) (er : ∀ j, nth r j < n) : dco s q r < n := hs.over_lt _ _ _ _ (er _) (eq _)
theorem dst_at {m P n : Nat} (hF : Fld m P n) {s : Side} (hs : s.Ok n) {q r : List Nat} (eq : ∀ j, nth q j < n) (er : ∀ j, nth r j < n) (hle : q.length ≤ r.length) (k : Nat) :
    nth (dst s q r) k = nth r k ^^^ (if r.length - q.length ≤ k ∧ k < r.length then dtm s q r (k - (r.length - q.length)) else 0) := by
  rw [dst, trim_nth]
  by_cases e : k < r.length
  · rw [lst_nth _ e, drow_at]
    congr 1
    by_cases h : r.length - q.length ≤ k
    · rw [if_pos (by omega), if_pos (by omega)]
    · rw [if_neg (by omega), if_neg (by omega)]
  · rw [nth_ge (by rw [lst_length]; omega), nth_ge (by omega), if_neg (by omega)]; rfl
theorem dst_lt {m P n : Nat} (hF : Fld m P n) {s : Side} (hs : s.Ok n) {q r : List Nat} (eq : ∀ j, nth q j < n) (er : ∀ j, nth r j < n) (hle : q.length ≤ r.length) (k : Nat) : nth (dst s q r) k < n := by
  rw [dst_at hF hs eq er hle]
  refine hF.xor_lt (er k) ?_
  split
  · exact hs.times_lt _ _ _ _ (dco_lt hF hs eq er) (eq _)
  · have := hF.n2; omega
theorem dst_trm (s : Side) (q r : List Nat) : Trm (dst s q r) := trim_trm _
/-- Each rest is shorter. -/
theorem dst_short {m P n : Nat} (hF : Fld m P n) {s : Side} (hs : s.Ok n) {q r : List Nat} (eq : ∀ j, nth q j < n) (er : ∀ j, nth r j < n) (hq : Trm q) (h0 : q.length ≠ 0) (hle : q.length ≤ r.length) : (dst s q r).length < r.length := by
  have hl : (dst s q r).length ≤ r.length := by
    have := trim_length_le (lst (drow (dtm s q r) (r.length - q.length) (nth r) q.length) r.length)
    rw [lst_length] at this
    exact this
  rcases Nat.lt_or_ge (dst s q r).length r.length with h | h
  · exact h
  · exfalso
    have hlen : (dst s q r).length = r.length := by omega
    rcases dst_trm s q r with ht | ht
    · omega
    · apply ht
      rw [dst_at hF hs eq er hle, hlen, if_pos (by omega)]
      have hqn : nth q (q.length - 1) ≠ 0 := by
        rcases hq with hq | hq
        · exact absurd hq h0
        · exact hq
      have : dtm s q r (r.length - 1 - (r.length - q.length)) = nth r (r.length - 1) := by
        rw [show r.length - 1 - (r.length - q.length) = q.length - 1 by omega]
        exact hs.back _ _ _ _ (er _) (eq _) hqn
      rw [this, Nat.xor_self]
theorem dv_fuel {m P n : Nat} (hF : Fld m P n) {s : Side} (hs : s.Ok n) {q : List Nat} (eq : ∀ j, nth q j < n) (hq : Trm q) (h0 : q.length ≠ 0) : ∀ (k l : Nat) (f : Nat → Nat) (r : List Nat), (∀ j, nth r j < n) → r.length ≤ k → r.length ≤ l → dv s q k f r = dv s q l f r
  | 0, l, f, r, er, hk, hl => by
    cases l with
    | zero => rfl
    | succ l => simp only [dv]; rw [if_pos (by omega)]
  | k + 1, l, f, r, er, hk, hl => by
    cases l with
    | zero => simp only [dv]; rw [if_pos (by omega)]
    | succ l =>
      simp only [dv]
      by_cases h : r.length < q.length
      · rw [if_pos h, if_pos h]
      · rw [if_neg h, if_neg h]
        have := dst_short hF hs eq er hq h0 (by omega)
        exact dv_fuel hF hs eq hq h0 k l _ _ (dst_lt hF hs eq er (by omega)) (by omega) (by omega)
/-- The quotient and the rest. -/
def dvq (s : Side) (p q : List Nat) : List Nat := lst (dv s q p.length (fun _ => 0) p).1 (p.length - (q.length - 1))
def dvr (s : Side) (p q : List Nat) : List Nat := (dv s q p.length (fun _ => 0) p).2
theorem dv_done {s : Side} {q : List Nat} {k : Nat} {f : Nat → Nat} {r : List Nat} (h : r.length < q.length) : dv s q k f r = (f, r) := by
  cases k with
  | zero => rfl
  | succ k => simp only [dv]; rw [if_pos h]
theorem dv_step {m P n : Nat} (hF : Fld m P n) {s : Side} (hs : s.Ok n) {q : List Nat} (eq : ∀ j, nth q j < n) (hq : Trm q) (h0 : q.length ≠ 0) {k : Nat} {f : Nat → Nat} {r : List Nat} (er : ∀ j, nth r j < n) (hle : q.length ≤ r.length) (hk : r.length ≤ k) :
    dv s q k f r = dv s q k (put f (r.length - q.length) (dco s q r)) (dst s q r) := by
  obtain ⟨l, rfl⟩ : ∃ l, k = l + 1 := ⟨k - 1, by omega⟩
  have hsh := dst_short hF hs eq er hq h0 hle
  conv => lhs; simp only [dv]
  rw [if_neg (by omega)]
  exact dv_fuel hF hs eq hq h0 l (l + 1) _ _ (dst_lt hF hs eq er hle) (by omega) (by omega)
theorem put_at (f : Nat → Nat) (i v j : Nat) : put f i v j = if j = i then v else f j := rfl

/-- The model's way: one term after another is added to the quotient, and taken from the rest. -/
def tm (c i : Nat) : List Nat := lst (put (fun _ => 0) i c) (i + 1)
theorem tm_length (c i : Nat) : (tm c i).length = i + 1 := lst_length _ _
theorem tm_nth (c i j : Nat) : nth (tm c i) j = if j = i then c else 0 := by
  rw [tm]
  by_cases e : j < i + 1
  · rw [lst_nth _ e]; rfl
  · rw [nth_ge (by rw [lst_length]; omega), if_neg (by omega)]
theorem tm_trm {c i : Nat} (h : c ≠ 0) : Trm (tm c i) := .inr (by rw [tm_length, tm_nth, if_pos (by omega)]; exact h)
theorem tm_lt {m P n c : Nat} (hF : Fld m P n) (hc : c < n) (i j : Nat) : nth (tm c i) j < n := by
  rw [tm_nth]; split
  · exact hc
  · have := hF.n2; omega
theorem cs_tm {m P n c i : Nat} (hF : Fld m P n) (hc : c < n) {q : List Nat} (eq : ∀ j, nth q j < n) (k : Nat) : ∀ I, cs P (tm c i) q k I = if i < I ∧ i ≤ k ∧ k < i + q.length then mul P c (sq P (nth q (k - i)) i) else 0
  | 0 => by rw [if_neg (by omega)]; rfl
  | I + 1 => by
    simp only [cs]
    rw [cs_tm hF hc eq k I, tm_nth]
    by_cases e : I = i
    · subst e
      rw [if_neg (by omega), if_pos rfl, Nat.zero_xor]
      by_cases h : I ≤ k ∧ k < I + q.length
      · rw [if_pos h, if_pos (by omega)]
      · rw [if_neg h, if_neg (by omega)]
    · rw [if_neg e]
      have hz : (if I ≤ k ∧ k < I + q.length then mul P 0 (sq P (nth q (k - I)) I) else 0) = 0 := by
        split
        · exact zero_mul' hF (sq_lt hF (eq _) _)
        · rfl
      rw [hz, Nat.xor_zero]
      by_cases h : i < I ∧ i ≤ k ∧ k < i + q.length
      · rw [if_pos h, if_pos (by omega)]
      · rw [if_neg h, if_neg (by omega)]
theorem cmp_tm_in {m P n c i : Nat} (hF : Fld m P n) (hc : c < n) {q : List Nat} (eq : ∀ j, nth q j < n) (h0 : q.length ≠ 0) (k : Nat) : nth (cmp P (tm c i) q) k = if i ≤ k ∧ k < i + q.length then mul P c (sq P (nth q (k - i)) i) else 0 := by
  unfold cmp
  rw [if_neg (by rw [tm_length]; omega), tm_length]
  by_cases e : k < i + 1 + q.length - 1
  · rw [lst_nth _ e, cmpF, call_cs, cs_tm hF hc eq, tm_length]
    by_cases h : i ≤ k ∧ k < i + q.length
    · rw [if_pos h, if_pos (by omega)]
    · rw [if_neg h, if_neg (by omega)]
  · rw [nth_ge (by rw [lst_length]; omega), if_neg (by omega)]
theorem cs_tm_out {m P n c i : Nat} (hF : Fld m P n) {q : List Nat} (eq : ∀ j, nth q j < n) (k : Nat) : ∀ I, cs P q (tm c i) k I = if i ≤ k ∧ k - i < I then mul P (nth q (k - i)) (sq P c (k - i)) else 0
  | 0 => by rw [if_neg (by omega)]; rfl
  | I + 1 => by
    simp only [cs]
    rw [cs_tm_out hF eq k I, tm_length, tm_nth]
    by_cases e : i ≤ k ∧ k - i = I
    · rw [if_neg (by omega), if_pos (by omega), if_pos (by omega), if_pos (by omega), Nat.zero_xor, e.2]
    · have hz : (if I ≤ k ∧ k < I + (i + 1) then mul P (nth q I) (sq P (if k - I = i then c else 0) I) else 0) = 0 := by
        split
        · rw [if_neg (by omega), sq_zero hF, mul_zero' hF (eq _)]
        · rfl
      rw [hz, Nat.xor_zero]
      by_cases h : i ≤ k ∧ k - i < I
      · rw [if_pos h, if_pos (by omega)]
      · rw [if_neg h, if_neg (by omega)]
theorem cmp_tm_out {m P n c i : Nat} (hF : Fld m P n) {q : List Nat} (eq : ∀ j, nth q j < n) (h0 : q.length ≠ 0) (k : Nat) : nth (cmp P q (tm c i)) k = if i ≤ k ∧ k < i + q.length then mul P (nth q (k - i)) (sq P c (k - i)) else 0 := by
  unfold cmp
  rw [if_neg (by rw [tm_length]; omega), tm_length]
  by_cases e : k < q.length + (i + 1) - 1
  · rw [lst_nth _ e, cmpF, call_cs, cs_tm_out hF eq]
    by_cases h : i ≤ k ∧ k < i + q.length
    · rw [if_pos h, if_pos (by omega)]
    · rw [if_neg h, if_neg (by omega)]
  · rw [nth_ge (by rw [lst_length]; omega), if_neg (by omega)]
/-- The rest by sums: what the model reckons. -/
theorem dst_in {m P n : Nat} (hF : Fld m P n) {q r : List Nat} (eq : ∀ j, nth q j < n) (er : ∀ j, nth r j < n) (h0 : q.length ≠ 0) (hle : q.length ≤ r.length) :
    sumL r (cmp P (tm (dco (inside P n) q r) (r.length - q.length)) q) = dst (inside P n) q r := by
  refine trm_ext (sumL_trm _ _) (dst_trm _ _ _) fun k => ?_
  rw [sumL_nth, dst_at hF (inside_ok hF) eq er hle, cmp_tm_in hF (dco_lt hF (inside_ok hF) eq er) eq h0]
  congr 1
  by_cases h : r.length - q.length ≤ k ∧ k < r.length
  · rw [if_pos (by omega), if_pos h]; rfl
  · rw [if_neg (by omega), if_neg h]
theorem dst_out {m P n : Nat} (hF : Fld m P n) {q r : List Nat} (eq : ∀ j, nth q j < n) (er : ∀ j, nth r j < n) (h0 : q.length ≠ 0) (hle : q.length ≤ r.length) :
    sumL r (cmp P q (tm (dco (outside m P n) q r) (r.length - q.length))) = dst (outside m P n) q r := by
  refine trm_ext (sumL_trm _ _) (dst_trm _ _ _) fun k => ?_
  rw [sumL_nth, dst_at hF (outside_ok hF) eq er hle, cmp_tm_out hF eq h0]
  congr 1
  by_cases h : r.length - q.length ≤ k ∧ k < r.length
  · rw [if_pos (by omega), if_pos h]; rfl
  · rw [if_neg (by omega), if_neg h]
end Go.Proofs.Ytlchelaohiojiaa
