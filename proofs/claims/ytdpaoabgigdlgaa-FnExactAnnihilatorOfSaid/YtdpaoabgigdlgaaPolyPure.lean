/- Linear polynomials that are right, annihilators, interpolation: as numbers. Pure, of no program. -/
import Derived.Test.YtdpaoabgigdlgaaFldMath
namespace Go.Proofs.Ytdpaoabgigdlgaa
set_option linter.unusedVariables false

/-- No zero at the end, as a truth value. -/
def trmB (p : List Nat) : Bool := decide (p.length = 0) || decide (nth p (p.length - 1) ≠ 0)
theorem trmB_trm {p : List Nat} (h : trmB p = true) : Trm p := by
  simp [trmB] at h
  unfold Trm
  rcases h with h | h
  · exact .inl (by rw [h]; rfl)
  · exact .inr h
theorem trmB_tl (p : List Nat) : trmB p = decide (tl (nth p) p.length = p.length) := by
  rw [Bool.eq_iff_iff]
  constructor
  · intro h
    exact decide_eq_true (tl_full (trmB_trm h))
  · intro h
    have h1 := of_decide_eq_true h
    simp only [trmB, Bool.or_eq_true, decide_eq_true_eq]
    by_cases h0 : p.length = 0
    · exact .inl h0
    · exact .inr (by have := tl_last (f := nth p) (k := p.length) (by omega); rwa [h1] at this)
/-- A list of numbers that is a linear polynomial over a field with n elements. -/
def okL (n : Nat) (zs : List Int) : Bool := decide (zs.length ≤ 12) && (allIn n zs && trmB (nats zs))
theorem okL_len {n : Nat} {zs : List Int} (h : okL n zs = true) : zs.length ≤ 12 := by simp [okL] at h; exact h.1
theorem okL_in {n : Nat} {zs : List Int} (h : okL n zs = true) : allIn n zs = true := by simp [okL] at h; exact h.2.1
theorem okL_trm {n : Nat} {zs : List Int} (h : okL n zs = true) : Trm (nats zs) := by simp [okL] at h; exact trmB_trm h.2.2

/-- The inverse. -/
def inv (P n a : Nat) : Nat := pw P a (n - 2)
theorem inv_lt {m P n : Nat} (hF : Fld m P n) (a : Nat) : inv P n a < n := pw_lt hF a _
theorem mul_inv {m P n a : Nat} (hF : Fld m P n) (h0 : a ≠ 0) (ha : a < n) : mul P a (inv P n a) = 1 := inv_is hF (by omega) ha
theorem inv_ne {m P n a : Nat} (hF : Fld m P n) (h0 : a ≠ 0) (ha : a < n) : inv P n a ≠ 0 := by
  intro h
  have := mul_inv hF h0 ha
  rw [h, mul_zero' hF ha] at this
  cases this
/-- The quotient: the only element whose product with b is a. -/
def quo (P n a b : Nat) : Nat := mul P a (inv P n b)
theorem quo_lt {m P n : Nat} (hF : Fld m P n) (a b : Nat) : quo P n a b < n := hF.mul_lt _ _
theorem quo_mul {m P n a b : Nat} (hF : Fld m P n) (ha : a < n) (h0 : b ≠ 0) (hb : b < n) : mul P (quo P n a b) b = a := by
  have hi := inv_lt hF b
  rw [quo, mul_assoc' hF ha hi hb, mul_comm' hF hi hb, mul_inv hF h0 hb, mul_one' hF ha]
theorem quo_one {m P n a b q : Nat} (hF : Fld m P n) (hq : q < n) (h0 : b ≠ 0) (hb : b < n) (h : mul P q b = a) : q = quo P n a b := by
  have hi := inv_lt hF b
  rw [quo, ← h, mul_assoc' hF hq hb hi, mul_inv hF h0 hb, mul_one' hF hq]
theorem quo_ne {m P n a b : Nat} (hF : Fld m P n) (ha : a < n) (h0 : b ≠ 0) (hb : b < n) (h : a ≠ 0) : quo P n a b ≠ 0 :=
  mul_ne hF ha (inv_lt hF b) h (inv_ne hF h0 hb)

/-- A multiple. -/
def scl (P c : Nat) (p : List Nat) : List Nat := lst (fun j => mul P c (nth p j)) p.length
theorem scl_length (P c : Nat) (p : List Nat) : (scl P c p).length = p.length := lst_length _ _
theorem scl_nth {m P n c : Nat} (hF : Fld m P n) (hc : c < n) (p : List Nat) (j : Nat) : nth (scl P c p) j = mul P c (nth p j) := by
  rw [scl]
  refine lst_nth0 fun h => ?_
  rw [nth_ge h, mul_zero' hF hc]
theorem scl_lt {m P n c : Nat} (hF : Fld m P n) (hc : c < n) (p : List Nat) (j : Nat) : nth (scl P c p) j < n := by rw [scl_nth hF hc]; exact hF.mul_lt _ _
theorem cmp_one {m P n c : Nat} (hF : Fld m P n) (hc : c < n) {p : List Nat} (ep : ∀ j, nth p j < n) : cmp P [c] p = scl P c p := by
  unfold cmp
  by_cases h : p.length = 0
  · rw [if_pos (.inr h), scl, h]; rfl
  · rw [if_neg (by simp; intro h1; simp [h1] at h)]
    refine nth_ext (by rw [lst_length, scl_length]; simp) fun j hj => ?_
    rw [lst_length] at hj
    rw [lst_nth _ hj, scl_nth hF hc, cmpF, call_cs]
    show cs P [c] p j 1 = _
    simp only [cs]
    by_cases e : j < p.length
    · rw [if_pos (by omega)]
      show 0 ^^^ mul P c (sq P (nth p (j - 0)) 0) = _
      simp [sq]
    · rw [if_neg (by omega), nth_ge (by omega), mul_zero' hF hc]; rfl
theorem scl_zero {m P n : Nat} (hF : Fld m P n) {p : List Nat} (ep : ∀ j, nth p j < n) (j : Nat) : nth (scl P 0 p) j = 0 := by
  rw [scl_nth hF (by have := hF.n2; omega), zero_mul' hF (ep j)]
theorem sum_zero {p q : List Nat} (hp : Trm p) (hq : ∀ j, nth q j = 0) : sumL p q = p :=
  trm_ext (sumL_trm _ _) hp fun j => by rw [sumL_nth, hq, Nat.xor_zero]
theorem sumL_length_le (p q : List Nat) : (sumL p q).length ≤ max p.length q.length := by
  have := trim_length_le (lst (sumF p q) (max p.length q.length))
  rwa [lst_length] at this
theorem sumL_lt {m P n : Nat} (hF : Fld m P n) {p q : List Nat} (ep : ∀ j, nth p j < n) (eq : ∀ j, nth q j < n) (j : Nat) : nth (sumL p q) j < n := by
  rw [sumL_nth]; exact hF.xor_lt (ep j) (eq j)
theorem cmp_lt {m P n : Nat} (hF : Fld m P n) (p q : List Nat) (j : Nat) : nth (cmp P p q) j < n := by
  have h0 : (0 : Nat) < n := by have := hF.n2; omega
  unfold cmp
  split
  · exact h0
  · by_cases e : j < p.length + q.length - 1
    · rw [lst_nth _ e]; exact call_lt hF p q _ _
    · rw [nth_ge (by rw [lst_length]; omega)]; exact h0
theorem cmp_length {P : Nat} {p q : List Nat} (hp : p.length ≠ 0) (hq : q.length ≠ 0) : (cmp P p q).length = p.length + q.length - 1 := by
  unfold cmp; rw [if_neg (by omega), lst_length]
theorem two_lt {m P n v : Nat} (hF : Fld m P n) (hv : v < n) (j : Nat) : nth [v, 1] j < n := by
  have := hF.n2
  match j with
  | 0 => exact hv
  | 1 => show 1 < n; omega
  | j + 2 => show 0 < n; omega
theorem one_lt {m P n c : Nat} (hF : Fld m P n) (hc : c < n) (j : Nat) : nth [c] j < n := by
  have := hF.n2
  match j with
  | 0 => exact hc
  | j + 1 => show 0 < n; omega
theorem two_trm (v : Nat) : Trm [v, 1] := .inr (by show (1 : Nat) ≠ 0; omega)
theorem vl_two {m P n v z : Nat} (hF : Fld m P n) (hv : v < n) (hz : z < n) : vl P [v, 1] z = mul P v z ^^^ mul P z z := by
  show vlk P [v, 1] z 2 = _
  simp only [vlk]
  show (0 ^^^ mul P v (sq P z 0)) ^^^ mul P 1 (sq P z 1) = _
  rw [one_mul' hF (sq_lt hF hz 1)]
  simp [sq]

/-- The number of roots. -/
def rc (P n : Nat) (p : List Nat) : Nat := ((List.range n).filter fun y => vl P p y == 0).length
theorem rc_le (P n : Nat) (p : List Nat) : rc P n p ≤ n := by
  have := List.length_filter_le (fun y => vl P p y == 0) (List.range n)
  rw [List.length_range] at this
  exact this
theorem filter_le {a b : Nat → Bool} : ∀ {l : List Nat}, (∀ y ∈ l, a y = true → b y = true) → (l.filter a).length ≤ (l.filter b).length
  | [], _ => Nat.le_refl _
  | y :: l, h => by
    have ih := filter_le (a := a) (b := b) (l := l) fun z hz => h z (by simp [hz])
    have hy := h y (by simp)
    cases ha : a y with
    | true => rw [List.filter_cons_of_pos ha, List.filter_cons_of_pos (hy ha)]; simpa using ih
    | false =>
      rw [List.filter_cons_of_neg (by simp [ha])]
      cases hb : b y with
      | true => rw [List.filter_cons_of_pos hb]; simp; omega
      | false => rw [List.filter_cons_of_neg (by simp [hb])]; exact ih
theorem filter_lt {a b : Nat → Bool} {x : Nat} : ∀ {l : List Nat}, (∀ y ∈ l, a y = true → b y = true) → x ∈ l → a x = false → b x = true → (l.filter a).length < (l.filter b).length
  | [], _, hx, _, _ => by cases hx
  | y :: l, h, hx, ha', hb' => by
    have hl := filter_le (a := a) (b := b) (l := l) fun z hz => h z (by simp [hz])
    have hy := h y (by simp)
    by_cases e : y = x
    · subst e
      rw [List.filter_cons_of_neg (by simp [ha']), List.filter_cons_of_pos hb']; simp; omega
    · have ih := filter_lt (a := a) (b := b) (x := x) (l := l) (fun z hz => h z (by simp [hz])) (by
        rcases List.mem_cons.1 hx with h1 | h1
        · exact absurd h1.symm e
        · exact h1) ha' hb'
      cases ha : a y with
      | true => rw [List.filter_cons_of_pos ha, List.filter_cons_of_pos (hy ha)]; simpa using ih
      | false =>
        rw [List.filter_cons_of_neg (by simp [ha])]
        cases hb : b y with
        | true => rw [List.filter_cons_of_pos hb]; simp; omega
        | false => rw [List.filter_cons_of_neg (by simp [hb])]; exact ih
theorem rc_more {m P n x : Nat} (hF : Fld m P n) {p : List Nat} (ep : ∀ j, nth p j < n) (hx : x < n) (h : vl P p x ≠ 0) : rc P n p < rc P n (cmp P [vl P p x, 1] p) := by
  have hv := vl_lt hF p x
  have h0 : (0 : Nat) < n := by have := hF.n2; omega
  refine filter_lt (x := x) (fun y hy hr => ?_) (by simpa using hx) (by simpa using h) ?_
  · have hyn : y < n := by simpa using hy
    have hr0 : vl P p y = 0 := by simpa using hr
    rw [vl_cmp hF (two_lt hF hv) ep hyn, hr0, vl_two hF hv h0, mul_zero' hF hv, mul_zero' hF h0]
    rfl
  · rw [vl_cmp hF (two_lt hF hv) ep hx, vl_two hF hv hv, Nat.xor_self]
    rfl

/-- The annihilator of the first elements of a list. -/
def ann (P : Nat) (xs : Nat → Nat) : Nat → List Nat
  | 0 => [1]
  | i + 1 => if vl P (ann P xs i) (xs i) = 0 then ann P xs i else cmp P [vl P (ann P xs i) (xs i), 1] (ann P xs i)
theorem ann_lt {m P n : Nat} (hF : Fld m P n) (xs : Nat → Nat) : ∀ i j, nth (ann P xs i) j < n
  | 0, j => one_lt hF (by have := hF.n2; omega) j
  | i + 1, j => by
    simp only [ann]
    split
    · exact ann_lt hF xs i j
    · exact cmp_lt hF _ _ j
theorem ann_ne (P : Nat) (xs : Nat → Nat) : ∀ i, (ann P xs i).length ≠ 0
  | 0 => by show (1 : Nat) ≠ 0; omega
  | i + 1 => by
    simp only [ann]
    split
    · exact ann_ne P xs i
    · have := ann_ne P xs i
      rw [cmp_length (by simp) this]; simp
theorem ann_trm {m P n : Nat} (hF : Fld m P n) (xs : Nat → Nat) : ∀ i, Trm (ann P xs i)
  | 0 => .inr (by show (1 : Nat) ≠ 0; omega)
  | i + 1 => by
    simp only [ann]
    split
    · exact ann_trm hF xs i
    · exact cmp_trm hF (two_trm _) (ann_trm hF xs i) (two_lt hF (vl_lt hF _ _)) (ann_lt hF xs i)
theorem ann_rc {m P n : Nat} (hF : Fld m P n) {xs : Nat → Nat} (hx : ∀ i, xs i < n) : ∀ i, (ann P xs i).length ≤ rc P n (ann P xs i) + 1
  | 0 => by simp [ann]
  | i + 1 => by
    have ih := ann_rc hF hx i
    simp only [ann]
    split
    · exact ih
    · rename_i h
      have := rc_more hF (ann_lt hF xs i) (hx i) h
      have h0 := ann_ne P xs i
      rw [cmp_length (by simp) h0]
      simp
      omega
theorem ann_small {m P n : Nat} (hF : Fld m P n) {xs : Nat → Nat} (hx : ∀ i, xs i < n) (i : Nat) : (ann P xs i).length ≤ 33 := by
  have h1 := ann_rc hF hx i
  have h2 := rc_le P n (ann P xs i)
  have h3 := hF.n32
  omega

/-- Interpolation: what is zero for the first i elements, and what has the first i values. -/
def ip (P n : Nat) (xs ys : Nat → Nat) : Nat → List Nat × List Nat
  | 0 => ([1], [])
  | i + 1 => (cmp P [vl P (ip P n xs ys i).1 (xs i), 1] (ip P n xs ys i).1, sumL (ip P n xs ys i).2 (scl P (quo P n (vl P (ip P n xs ys i).2 (xs i) ^^^ ys i) (vl P (ip P n xs ys i).1 (xs i))) (ip P n xs ys i).1))
theorem ip_lt {m P n : Nat} (hF : Fld m P n) (xs ys : Nat → Nat) : ∀ i, (∀ j, nth (ip P n xs ys i).1 j < n) ∧ ∀ j, nth (ip P n xs ys i).2 j < n
  | 0 => ⟨one_lt hF (by have := hF.n2; omega), fun j => by show 0 < n; have := hF.n2; omega⟩
  | i + 1 => ⟨cmp_lt hF _ _, sumL_lt hF (ip_lt hF xs ys i).2 (scl_lt hF (quo_lt hF _ _) _)⟩
theorem ip_ne (P n : Nat) (xs ys : Nat → Nat) : ∀ i, (ip P n xs ys i).1.length ≠ 0
  | 0 => by simp [ip]
  | i + 1 => by
    have := ip_ne P n xs ys i
    simp only [ip]
    rw [cmp_length (by simp) this]; simp
theorem ip_trm {m P n : Nat} (hF : Fld m P n) (xs ys : Nat → Nat) : ∀ i, Trm (ip P n xs ys i).1 ∧ Trm (ip P n xs ys i).2
  | 0 => ⟨.inr (by show (1 : Nat) ≠ 0; omega), .inl rfl⟩
  | i + 1 => ⟨cmp_trm hF (two_trm _) (ip_trm hF xs ys i).1 (two_lt hF (vl_lt hF _ _)) (ip_lt hF xs ys i).1, sumL_trm _ _⟩
theorem ip_le (P n : Nat) (xs ys : Nat → Nat) : ∀ i, (ip P n xs ys i).1.length = i + 1 ∧ (ip P n xs ys i).2.length ≤ i + 1
  | 0 => ⟨rfl, by simp [ip]⟩
  | i + 1 => by
    have ih := ip_le P n xs ys i
    have h0 := ip_ne P n xs ys i
    simp only [ip]
    rw [cmp_length (by simp) h0]
    refine ⟨by simp; omega, ?_⟩
    have := sumL_length_le (ip P n xs ys i).2 (scl P (quo P n (vl P (ip P n xs ys i).2 (xs i) ^^^ ys i) (vl P (ip P n xs ys i).1 (xs i))) (ip P n xs ys i).1)
    rw [scl_length] at this
    omega
/-- All elements before were independent: then there are few. -/
def ipOk (P n : Nat) (xs ys : Nat → Nat) (i : Nat) : Prop := ∀ k, k < i → vl P (ip P n xs ys k).1 (xs k) ≠ 0
theorem ip_rc {m P n : Nat} (hF : Fld m P n) {xs ys : Nat → Nat} (hx : ∀ i, xs i < n) : ∀ i, ipOk P n xs ys i → i ≤ rc P n (ip P n xs ys i).1
  | 0, _ => Nat.zero_le _
  | i + 1, h => by
    have ih := ip_rc hF (ys := ys) hx i fun k hk => h k (by omega)
    have := rc_more hF (ip_lt hF xs ys i).1 (hx i) (h i (by omega))
    simp only [ip]
    omega
theorem ip_small {m P n : Nat} (hF : Fld m P n) {xs ys : Nat → Nat} (hx : ∀ i, xs i < n) {i : Nat} (h : ipOk P n xs ys i) : i ≤ 32 := by
  have h1 := ip_rc hF (ys := ys) hx i h
  have h2 := rc_le P n (ip P n xs ys i).1
  have h3 := hF.n32
  omega
theorem ip_step {m P n : Nat} (hF : Fld m P n) (xs ys : Nat → Nat) (i : Nat) (c : Nat) (hc : c = quo P n (vl P (ip P n xs ys i).2 (xs i) ^^^ ys i) (vl P (ip P n xs ys i).1 (xs i))) :
    (ip P n xs ys (i + 1)).2 = if c = 0 then (ip P n xs ys i).2 else sumL (ip P n xs ys i).2 (cmp P [c] (ip P n xs ys i).1) := by
  have hcn : c < n := by rw [hc]; exact quo_lt hF _ _
  simp only [ip]
  rw [← hc]
  split
  · rename_i h
    rw [h]
    exact sum_zero (ip_trm hF xs ys i).2 (scl_zero hF (ip_lt hF xs ys i).1)
  · rw [cmp_one hF hcn (ip_lt hF xs ys i).1]
end Go.Proofs.Ytdpaoabgigdlgaa
