/- Linear polynomials as lists of numbers. Pure, of no program. -/
import Derived.Test.YtdpaoabgigdlgaaFld
import Derived.Test.YtdpaoabgigdlgaaMatPure
namespace Go.Proofs.Ytdpaoabgigdlgaa
set_option linter.unusedVariables false

/-- Whether all numbers are elements of a field with n of them. -/
def allIn (n : Nat) (zs : List Int) : Bool := zs.all fun z => decide (0 ≤ z ∧ z < (n : Int))
theorem allIn_get {n : Nat} {zs : List Int} (h : allIn n zs = true) (j : Nat) (hj : j < zs.length) : 0 ≤ zs[j]?.getD 0 ∧ zs[j]?.getD 0 < n := by
  have h1 := List.all_eq_true.1 h zs[j] (List.getElem_mem hj)
  rw [List.getElem?_eq_getElem hj]
  simpa using h1
theorem allIn_no {n : Nat} {zs : List Int} (j : Nat) (hj : j < zs.length) (h : zs[j]?.getD 0 < 0 ∨ (n : Int) ≤ zs[j]?.getD 0) : allIn n zs = false := by
  cases hb : allIn n zs with
  | false => rfl
  | true => have := allIn_get hb j hj; omega
theorem allIn_yes {n : Nat} {zs : List Int} (h : ∀ j, j < zs.length → 0 ≤ zs[j]?.getD 0 ∧ zs[j]?.getD 0 < n) : allIn n zs = true := by
  refine List.all_eq_true.2 fun z hz => ?_
  obtain ⟨j, hj, rfl⟩ := List.mem_iff_getElem.1 hz
  have := h j hj
  rw [List.getElem?_eq_getElem hj] at this
  simpa using this
/-- Numbers as natural numbers. -/
def nats (zs : List Int) : List Nat := zs.map Int.toNat
theorem nats_length (zs : List Int) : (nats zs).length = zs.length := by simp [nats]
theorem nats_nth {n : Nat} {zs : List Int} (h : allIn n zs = true) (j : Nat) : zs[j]?.getD 0 = ((nth (nats zs) j : Nat) : Int) := by
  by_cases hj : j < zs.length
  · have h1 := allIn_get h j hj
    rw [nth, List.getD_eq_getElem?_getD, nats, List.getElem?_map, List.getElem?_eq_getElem hj] at *
    simp at h1 ⊢
    omega
  · rw [nth, List.getD_eq_getElem?_getD, nats, List.getElem?_map, List.getElem?_eq_none (by omega)]
    rfl
theorem nats_lt {n : Nat} {zs : List Int} (h : allIn n zs = true) (hn : 0 < n) (j : Nat) : nth (nats zs) j < n := by
  by_cases hj : j < zs.length
  · have h1 := allIn_get h j hj
    rw [nats_nth h j] at h1
    omega
  · rw [nth, List.getD_eq_getElem?_getD, List.getElem?_eq_none (by rw [nats_length]; omega)]
    exact hn
theorem ints_nats {n : Nat} {zs : List Int} (h : allIn n zs = true) : ints (nats zs) = zs := by
  apply List.ext_getElem?
  intro j
  rw [ints, nats, List.map_map, List.getElem?_map]
  by_cases hj : j < zs.length
  · have h1 := allIn_get h j hj
    rw [List.getElem?_eq_getElem hj] at *
    simp at h1 ⊢
    omega
  · rw [List.getElem?_eq_none (by omega)]; rfl
theorem allIn_ints {n : Nat} {p : List Nat} (h : ∀ j, j < p.length → nth p j < n) : allIn n (ints p) = true := by
  refine allIn_yes fun j hj => ?_
  rw [ints_get]
  have := h j (by rw [ints_length] at hj; exact hj)
  omega
theorem nats_ints (p : List Nat) : nats (ints p) = p := by
  rw [nats, ints, List.map_map]
  conv => rhs; rw [← List.map_id p]
  rfl
theorem nth_ge {p : List Nat} {j : Nat} (h : p.length ≤ j) : nth p j = 0 := by
  rw [nth, List.getD_eq_getElem?_getD, List.getElem?_eq_none h]; rfl
theorem nth_eq {p : List Nat} {j : Nat} (h : j < p.length) : nth p j = p[j] := by
  rw [nth, List.getD_eq_getElem?_getD, List.getElem?_eq_getElem h]; rfl
theorem nth_ext {p q : List Nat} (hl : p.length = q.length) (h : ∀ j, j < p.length → nth p j = nth q j) : p = q := by
  refine List.ext_getElem hl fun j h1 h2 => ?_
  have := h j h1
  rwa [nth_eq h1, nth_eq h2] at this
theorem nth_all_lt {p : List Nat} {n : Nat} (h : ∀ j, j < p.length → nth p j < n) : ∀ a ∈ p, a < n := by
  intro a ha
  obtain ⟨j, hj, rfl⟩ := List.mem_iff_getElem.1 ha
  have := h j hj
  rwa [nth_eq hj] at this

/-- The first k values of a function. -/
def lst (f : Nat → Nat) (k : Nat) : List Nat := (List.range k).map f
theorem lst_length (f : Nat → Nat) (k : Nat) : (lst f k).length = k := by simp [lst]
theorem lst_nth (f : Nat → Nat) {k j : Nat} (h : j < k) : nth (lst f k) j = f j := by
  rw [nth_eq (by rw [lst_length]; exact h)]; simp [lst]
theorem lst_of {p : List Nat} {k : Nat} (h : p.length = k) : p = lst (nth p) k :=
  nth_ext (by rw [lst_length]; exact h) fun j hj => (lst_nth _ (by omega)).symm
theorem lst_congr {f g : Nat → Nat} {k : Nat} (h : ∀ j, j < k → f j = g j) : lst f k = lst g k :=
  nth_ext (by simp [lst_length]) fun j hj => by rw [lst_length] at hj; rw [lst_nth _ hj, lst_nth _ hj, h j hj]
theorem lst_nth0 {f : Nat → Nat} {k j : Nat} (h : k ≤ j → f j = 0) : nth (lst f k) j = f j := by
  by_cases e : j < k
  · exact lst_nth f e
  · rw [nth_ge (by rw [lst_length]; omega), h (by omega)]

/-- How many values are left when the zeros at the end are left out. -/
def tl (f : Nat → Nat) : Nat → Nat
  | 0 => 0
  | k + 1 => if f k = 0 then tl f k else k + 1
theorem tl_le (f : Nat → Nat) : ∀ k, tl f k ≤ k
  | 0 => Nat.le_refl _
  | k + 1 => by simp only [tl]; have := tl_le f k; split <;> omega
theorem tl_zero {f : Nat → Nat} : ∀ {k j : Nat}, tl f k ≤ j → j < k → f j = 0
  | 0, j, _, h => by omega
  | k + 1, j, h1, h2 => by
    simp only [tl] at h1
    split at h1
    · by_cases e : j = k
      · rw [e]; assumption
      · exact tl_zero h1 (by omega)
    · omega
theorem tl_last {f : Nat → Nat} : ∀ {k : Nat}, 0 < tl f k → f (tl f k - 1) ≠ 0
  | 0, h => by simp [tl] at h
  | k + 1, h => by
    simp only [tl] at h ⊢
    split
    · rename_i hz; rw [if_pos hz] at h; exact tl_last h
    · simpa using by assumption
theorem tl_congr {f g : Nat → Nat} : ∀ {k : Nat}, (∀ j, j < k → f j = g j) → tl f k = tl g k
  | 0, _ => rfl
  | k + 1, h => by simp only [tl]; rw [h k (by omega), tl_congr (k := k) fun j hj => h j (by omega)]
theorem tl_full {f : Nat → Nat} {k : Nat} (h : k = 0 ∨ f (k - 1) ≠ 0) : tl f k = k := by
  cases k with
  | zero => rfl
  | succ k => simp only [tl]; rw [if_neg (by rcases h with h | h; omega; simpa using h)]
theorem tl_eq {f : Nat → Nat} {k m : Nat} (hm : m ≤ k) (h0 : ∀ j, m ≤ j → j < k → f j = 0) (hl : m = 0 ∨ f (m - 1) ≠ 0) : tl f k = m := by
  have h1 := tl_le f k
  rcases Nat.lt_trichotomy (tl f k) m with h | h | h
  · have := tl_zero (f := f) (k := k) (j := m - 1) (by omega) (by omega)
    rcases hl with hl | hl
    · omega
    · exact absurd this hl
  · exact h
  · have := tl_last (f := f) (k := k) (by omega)
    exact absurd (h0 _ (by omega) (by omega)) this

/-- The coefficients without zeros at the end. -/
def trim (p : List Nat) : List Nat := lst (nth p) (tl (nth p) p.length)
/-- No zero at the end. -/
def Trm (p : List Nat) : Prop := p.length = 0 ∨ nth p (p.length - 1) ≠ 0
theorem trim_length_le (p : List Nat) : (trim p).length ≤ p.length := by rw [trim, lst_length]; exact tl_le _ _
theorem trim_nth (p : List Nat) (j : Nat) : nth (trim p) j = nth p j := by
  rw [trim]
  refine lst_nth0 fun h => ?_
  by_cases e : j < p.length
  · exact tl_zero h e
  · exact nth_ge (by omega)
theorem trim_id {p : List Nat} (h : Trm p) : trim p = p := by rw [trim, tl_full h]; exact (lst_of rfl).symm
theorem trim_trm (p : List Nat) : Trm (trim p) := by
  unfold Trm
  rw [trim_nth, trim, lst_length]
  by_cases h : tl (nth p) p.length = 0
  · exact .inl h
  · exact .inr (tl_last (by omega))
/-- Two lists without zeros at the end, and the same coefficients. -/
theorem trm_ext {p q : List Nat} (hp : Trm p) (hq : Trm q) (h : ∀ j, nth p j = nth q j) : p = q := by
  refine nth_ext ?_ fun j _ => h j
  rcases Nat.lt_trichotomy p.length q.length with hl | hl | hl
  · exfalso
    have h1 : nth p (q.length - 1) = 0 := nth_ge (by omega)
    rw [h] at h1
    rcases hq with hq | hq
    · omega
    · exact hq h1
  · exact hl
  · exfalso
    have h1 : nth q (p.length - 1) = 0 := nth_ge (by omega)
    rw [← h] at h1
    rcases hp with hp | hp
    · omega
    · exact hp h1

/-- The sum. -/
def sumF (p q : List Nat) (j : Nat) : Nat := nth p j ^^^ nth q j
def sumL (p q : List Nat) : List Nat := trim (lst (sumF p q) (max p.length q.length))
theorem sumL_nth (p q : List Nat) (j : Nat) : nth (sumL p q) j = nth p j ^^^ nth q j := by
  rw [sumL, trim_nth]
  refine lst_nth0 fun h => ?_
  rw [sumF, nth_ge (by omega), nth_ge (by omega)]; rfl
theorem sumL_trm (p q : List Nat) : Trm (sumL p q) := trim_trm _

/-- The value, of the first k coefficients. -/
def vlk (P : Nat) (p : List Nat) (x : Nat) : Nat → Nat
  | 0 => 0
  | k + 1 => vlk P p x k ^^^ mul P (nth p k) (sq P x k)
def vl (P : Nat) (p : List Nat) (x : Nat) : Nat := vlk P p x p.length
theorem xor_lt {m a b : Nat} (ha : a < 2 ^ m) (hb : b < 2 ^ m) : a ^^^ b < 2 ^ m := Nat.xor_lt_two_pow ha hb
theorem Fld.xor_lt {m P n a b : Nat} (hF : Fld m P n) (ha : a < n) (hb : b < n) : a ^^^ b < n := by
  rw [← hF.n] at *; exact Nat.xor_lt_two_pow ha hb
theorem vlk_lt {m P n : Nat} (hF : Fld m P n) (p : List Nat) (x : Nat) : ∀ k, vlk P p x k < n
  | 0 => by have := hF.n2; simp only [vlk]; omega
  | k + 1 => hF.xor_lt (vlk_lt hF p x k) (hF.mul_lt _ _)
theorem vl_lt {m P n : Nat} (hF : Fld m P n) (p : List Nat) (x : Nat) : vl P p x < n := vlk_lt hF p x _

/-- Composed: the coefficients behind the inner rounds j of the outer round i. -/
def put (f : Nat → Nat) (i v : Nat) : Nat → Nat := fun j => if j = i then v else f j
def crow (P : Nat) (p q : List Nat) (i : Nat) (g : Nat → Nat) : Nat → (Nat → Nat)
  | 0 => g
  | j + 1 => put (crow P p q i g j) (i + j) (crow P p q i g j (i + j) ^^^ mul P (nth p i) (sq P (nth q j) i))
def call (P : Nat) (p q : List Nat) : Nat → (Nat → Nat)
  | 0 => fun _ => 0
  | i + 1 => crow P p q i (call P p q i) q.length
theorem crow_lt {m P n : Nat} (hF : Fld m P n) (p q : List Nat) (i : Nat) {g : Nat → Nat} (hg : ∀ k, g k < n) : ∀ j k, crow P p q i g j k < n
  | 0, k => hg k
  | j + 1, k => by
    simp only [crow, put]
    split
    · exact hF.xor_lt (crow_lt hF p q i hg j _) (hF.mul_lt _ _)
    · exact crow_lt hF p q i hg j k
theorem call_lt {m P n : Nat} (hF : Fld m P n) (p q : List Nat) : ∀ i k, call P p q i k < n
  | 0, k => by have := hF.n2; simp only [call]; omega
  | i + 1, k => crow_lt hF p q i (call_lt hF p q i) _ k
theorem crow_at (P : Nat) (p q : List Nat) (i : Nat) (g : Nat → Nat) : ∀ J k, crow P p q i g J k = g k ^^^ (if i ≤ k ∧ k < i + J then mul P (nth p i) (sq P (nth q (k - i)) i) else 0)
  | 0, k => by rw [if_neg (by omega)]; simp [crow]
  | J + 1, k => by
    simp only [crow, put]
    by_cases e : k = i + J
    · subst e
      rw [if_pos rfl, crow_at P p q i g J, if_neg (by omega), if_pos (by omega)]
      simp
    · rw [if_neg e, crow_at P p q i g J]
      by_cases h : i ≤ k ∧ k < i + J
      · rw [if_pos h, if_pos (by omega)]
      · rw [if_neg h, if_neg (by omega)]
/-- The coefficient k of the composition with the first I coefficients outside. -/
def cs (P : Nat) (p q : List Nat) (k : Nat) : Nat → Nat
  | 0 => 0
  | i + 1 => cs P p q k i ^^^ (if i ≤ k ∧ k < i + q.length then mul P (nth p i) (sq P (nth q (k - i)) i) else 0)
theorem call_cs (P : Nat) (p q : List Nat) (k : Nat) : ∀ i, call P p q i k = cs P p q k i
  | 0 => rfl
  | i + 1 => by simp only [call, cs]; rw [crow_at, call_cs P p q k i]
def cmpF (P : Nat) (p q : List Nat) : Nat → Nat := call P p q p.length
/-- Composed: p of q. -/
def cmp (P : Nat) (p q : List Nat) : List Nat := if p.length = 0 ∨ q.length = 0 then [] else lst (cmpF P p q) (p.length + q.length - 1)

theorem nodiv_all : ∀ P : Fin 64, irr P.val = true → ∀ a : Fin 32, 0 < a.val → a.val < 2 ^ (nb P.val - 1) → ∀ b : Fin 32, 0 < b.val → b.val < 2 ^ (nb P.val - 1) → mul P.val a.val b.val ≠ 0 := by decide +kernel
theorem fin_of {m P n : Nat} (hF : Fld m P n) {a : Nat} (ha : a < n) : a < 32 ∧ a < 2 ^ (nb P - 1) := by
  have h2 := hF.n32
  exact ⟨by omega, by rw [fld_nb hF.f]; simp; rw [hF.n]; exact ha⟩
theorem mul_ne {m P n a b : Nat} (hF : Fld m P n) (ha : a < n) (hb : b < n) (h1 : a ≠ 0) (h2 : b ≠ 0) : mul P a b ≠ 0 :=
  nodiv_all ⟨P, hF.P64⟩ (fld_irr hF.f) ⟨a, (fin_of hF ha).1⟩ (by show 0 < a; omega) (fin_of hF ha).2 ⟨b, (fin_of hF hb).1⟩ (by show 0 < b; omega) (fin_of hF hb).2
theorem zero_all : ∀ P : Fin 64, irr P.val = true → ∀ a : Fin 32, a.val < 2 ^ (nb P.val - 1) → mul P.val a.val 0 = 0 ∧ mul P.val 0 a.val = 0 ∧ mul P.val 1 a.val = a.val ∧ mul P.val a.val 1 = a.val := by decide +kernel
theorem mul_zero' {m P n a : Nat} (hF : Fld m P n) (ha : a < n) : mul P a 0 = 0 := (zero_all ⟨P, hF.P64⟩ (fld_irr hF.f) ⟨a, (fin_of hF ha).1⟩ (fin_of hF ha).2).1
theorem zero_mul' {m P n a : Nat} (hF : Fld m P n) (ha : a < n) : mul P 0 a = 0 := (zero_all ⟨P, hF.P64⟩ (fld_irr hF.f) ⟨a, (fin_of hF ha).1⟩ (fin_of hF ha).2).2.1
theorem one_mul' {m P n a : Nat} (hF : Fld m P n) (ha : a < n) : mul P 1 a = a := (zero_all ⟨P, hF.P64⟩ (fld_irr hF.f) ⟨a, (fin_of hF ha).1⟩ (fin_of hF ha).2).2.2.1
theorem mul_one' {m P n a : Nat} (hF : Fld m P n) (ha : a < n) : mul P a 1 = a := (zero_all ⟨P, hF.P64⟩ (fld_irr hF.f) ⟨a, (fin_of hF ha).1⟩ (fin_of hF ha).2).2.2.2
theorem sq_ne {m P n a : Nat} (hF : Fld m P n) (ha : a < n) (h : a ≠ 0) : ∀ k, sq P a k ≠ 0
  | 0 => h
  | k + 1 => mul_ne hF (sq_lt hF ha k) (sq_lt hF ha k) (sq_ne hF ha h k) (sq_ne hF ha h k)
theorem sq_zero {m P n : Nat} (hF : Fld m P n) : ∀ k, sq P 0 k = 0
  | 0 => rfl
  | k + 1 => by simp only [sq]; rw [sq_zero hF k]; exact mul_zero' hF (by have := hF.n2; omega)
theorem cs_top (P : Nat) (p q : List Nat) (k : Nat) : ∀ i, i + q.length ≤ k + 1 → cs P p q k i = 0
  | 0, _ => rfl
  | i + 1, h => by simp only [cs]; rw [cs_top P p q k i (by omega), if_neg (by omega)]; rfl
theorem cmp_trm {m P n : Nat} (hF : Fld m P n) {p q : List Nat} (hp : Trm p) (hq : Trm q) (ep : ∀ j, nth p j < n) (eq : ∀ j, nth q j < n) : Trm (cmp P p q) := by
  unfold cmp
  split
  · exact .inl rfl
  · rename_i h
    refine .inr ?_
    rw [lst_length, lst_nth _ (by omega), cmpF, call_cs]
    obtain ⟨a, ha⟩ : ∃ a, p.length = a + 1 := ⟨p.length - 1, by omega⟩
    rw [ha]
    simp only [cs]
    rw [cs_top _ _ _ _ _ (by omega), if_pos (by omega)]
    simp only [Nat.zero_xor]
    refine mul_ne hF (ep _) (sq_lt hF (eq _) _) ?_ (sq_ne hF (eq _) ?_ _)
    · rcases hp with hp | hp
      · omega
      · rwa [ha] at hp
    · rcases hq with hq | hq
      · omega
      · rwa [show a + 1 + q.length - 1 - 1 - a = q.length - 1 by omega]
end Go.Proofs.Ytdpaoabgigdlgaa
