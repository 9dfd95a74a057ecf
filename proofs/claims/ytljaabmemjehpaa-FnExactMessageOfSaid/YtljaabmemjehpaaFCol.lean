/- Rows over a field: their sums with factors, reduced echelon form and that it is the only one. Pure, of no program. · Rows over a field: a row that is added to rows in reduced echelon form, as the program does it. Pure, of no program. · Rows over a field: reduced echelon form column after column, as the model does it, is that of the program. Pure, of no program. -/
import Derived.Test.YtljaabmemjehpaaDivPure
namespace Go.Proofs.Ytljaabmemjehpaa
set_option linter.unusedVariables false

/-- Rows are functions here: the sum of two, a multiple, and zeros. -/
def va (f g : Nat → Nat) : Nat → Nat := fun j => f j ^^^ g j
def vs (P c : Nat) (f : Nat → Nat) : Nat → Nat := fun j => mul P c (f j)
def vz : Nat → Nat := fun _ => 0
def InV (n : Nat) (f : Nat → Nat) : Prop := ∀ j, f j < n
theorem va_z (f : Nat → Nat) : va f vz = f := funext fun j => Nat.xor_zero _
theorem z_va (f : Nat → Nat) : va vz f = f := funext fun j => Nat.zero_xor _
theorem va_comm (f g : Nat → Nat) : va f g = va g f := funext fun j => Nat.xor_comm _ _
theorem va_assoc (f g h : Nat → Nat) : va (va f g) h = va f (va g h) := funext fun j => Nat.xor_assoc _ _ _
theorem va_self (f : Nat → Nat) : va f f = vz := funext fun j => Nat.xor_self _
theorem va_left (f g h : Nat → Nat) : va f (va g h) = va g (va f h) := by rw [← va_assoc, va_comm f g, va_assoc]
theorem va_back (f g : Nat → Nat) : va f (va f g) = g := by rw [← va_assoc, va_self, z_va]
theorem va_zero {f g : Nat → Nat} (h : va f g = vz) : f = g := by
  have := va_back f g
  rw [h, va_z] at this; exact this

/-- The first place below len where a row is not 0; len, if there is none. -/
def ldv (f : Nat → Nat) (len : Nat) : Nat := ((List.range len).find? fun j => f j != 0).getD len
theorem ldv_eq {f : Nat → Nat} {len l : Nat} (hl : l < len) (h : f l ≠ 0) (h0 : ∀ j, j < l → f j = 0) : ldv f len = l := by
  have : (List.range len).find? (fun j => f j != 0) = some l := by
    rw [List.find?_range_eq_some]
    exact ⟨by simpa using h, List.mem_range.2 hl, fun j hj => by simpa using h0 j hj⟩
  rw [ldv, this]; rfl
theorem ldv_none {f : Nat → Nat} {len : Nat} (h : ∀ j, j < len → f j = 0) : ldv f len = len := by
  have : (List.range len).find? (fun j => f j != 0) = none := by
    rw [List.find?_eq_none]
    intro j hj
    simpa using h j (List.mem_range.1 hj)
  rw [ldv, this]; rfl
theorem ldv_le (f : Nat → Nat) (len : Nat) : ldv f len ≤ len := by
  rw [ldv]
  cases h : (List.range len).find? (fun j => f j != 0) with
  | none => exact Nat.le_refl _
  | some l =>
    rw [List.find?_range_eq_some] at h
    exact Nat.le_of_lt (List.mem_range.1 h.2.1)
theorem ldv_low {f : Nat → Nat} {len j : Nat} (hj : j < ldv f len) : f j = 0 := by
  rw [ldv] at hj
  cases h : (List.range len).find? (fun j => f j != 0) with
  | none =>
    rw [h] at hj
    rw [List.find?_eq_none] at h
    simpa using h j (List.mem_range.2 hj)
  | some l =>
    rw [h] at hj
    rw [List.find?_range_eq_some] at h
    simpa using h.2.2 j hj
theorem ldv_ne {f : Nat → Nat} {len : Nat} (h : ldv f len < len) : f (ldv f len) ≠ 0 := by
  rw [ldv] at h ⊢
  cases e : (List.range len).find? (fun j => f j != 0) with
  | none => rw [e] at h; exact absurd h (Nat.lt_irrefl _)
  | some l =>
    rw [List.find?_range_eq_some] at e
    simpa using e.1
theorem ldv_lt {f : Nat → Nat} {len j : Nat} (hj : j < len) (h : f j ≠ 0) : ldv f len < len := by
  rcases Nat.lt_or_ge (ldv f len) len with e | e
  · exact e
  · exact absurd (ldv_low (f := f) (len := len) (by omega)) h
theorem ldv_least {f : Nat → Nat} {len j : Nat} (h : f j ≠ 0) : ldv f len ≤ j := by
  rcases Nat.lt_or_ge j (ldv f len) with e | e
  · exact absurd (ldv_low e) h
  · exact e

section
variable {m P n : Nat} (hF : Fld m P n)
theorem InV.add {f g : Nat → Nat} (hF : Fld m P n) (hf : InV n f) (hg : InV n g) : InV n (va f g) := fun j => hF.xor_lt (hf j) (hg j)
theorem InV.mul (hF : Fld m P n) (c : Nat) (f : Nat → Nat) : InV n (vs P c f) := fun j => hF.mul_lt _ _
theorem InV.zero (hF : Fld m P n) : InV n vz := fun j => by have := hF.n2; show 0 < n; omega
include hF
theorem vs_add {c : Nat} {f g : Nat → Nat} (hc : c < n) (hf : InV n f) (hg : InV n g) : vs P c (va f g) = va (vs P c f) (vs P c g) := funext fun j => mul_add' hF (hf j) (hg j) hc
theorem add_vs {c d : Nat} {f : Nat → Nat} (hc : c < n) (hd : d < n) (hf : InV n f) : vs P (c ^^^ d) f = va (vs P c f) (vs P d f) := funext fun j => add_mul' hF hc hd (hf j)
theorem vs_vs {c d : Nat} {f : Nat → Nat} (hc : c < n) (hd : d < n) (hf : InV n f) : vs P c (vs P d f) = vs P (Go.Proofs.Ytljaabmemjehpaa.mul P c d) f := funext fun j => (mul_assoc' hF hc hd (hf j)).symm
theorem one_vs {f : Nat → Nat} (hf : InV n f) : vs P 1 f = f := funext fun j => one_mul' hF (hf j)
theorem zero_vs {f : Nat → Nat} (hf : InV n f) : vs P 0 f = vz := funext fun j => zero_mul' hF (hf j)
theorem vs_z {c : Nat} (hc : c < n) : vs P c vz = vz := funext fun j => mul_zero' hF hc
end

/-- The sums of multiples of some rows. -/
inductive SpV (P n : Nat) : List (Nat → Nat) → (Nat → Nat) → Prop
  | nil : SpV P n [] vz
  | cons {L x} (r : Nat → Nat) (c : Nat) (hc : c < n) : SpV P n L x → SpV P n (r :: L) (va (vs P c r) x)

section
variable {m P n : Nat} (hF : Fld m P n)
include hF
theorem SpV.vec {L : List (Nat → Nat)} {x : Nat → Nat} (h : SpV P n L x) : InV n x := by
  induction h with
  | nil => exact InV.zero hF
  | cons r c hc h ih => exact (InV.mul hF c r).add hF ih
theorem SpV.skip {L : List (Nat → Nat)} {x r : Nat → Nat} (hr : InV n r) (h : SpV P n L x) : SpV P n (r :: L) x := by
  have := SpV.cons r 0 (by have := hF.n2; omega) h
  rwa [zero_vs hF hr, z_va] at this
theorem SpV.zero : ∀ {L : List (Nat → Nat)}, (∀ r ∈ L, InV n r) → SpV P n L vz
  | [], _ => .nil
  | r :: L, h => SpV.skip hF (h r (by simp)) (SpV.zero (fun s hs => h s (List.mem_cons_of_mem _ hs)))
theorem SpV.add {L : List (Nat → Nat)} {x y : Nat → Nat} (hL : ∀ r ∈ L, InV n r) (h : SpV P n L x) (k : SpV P n L y) : SpV P n L (va x y) := by
  induction h generalizing y with
  | nil => rw [z_va]; exact k
  | @cons L x r c hc h ih =>
    cases k with
    | @cons _ y' _ d hd k =>
      have e : va (va (vs P c r) x) (va (vs P d r) y') = va (vs P (c ^^^ d) r) (va x y') := by
        rw [add_vs hF hc hd (hL r (by simp)), va_assoc, va_assoc, va_left x]
      rw [e]
      exact .cons r _ (hF.xor_lt hc hd) (ih (fun s hs => hL s (List.mem_cons_of_mem _ hs)) k)
theorem SpV.mul {L : List (Nat → Nat)} {x : Nat → Nat} (hL : ∀ r ∈ L, InV n r) {c : Nat} (hc : c < n) (h : SpV P n L x) : SpV P n L (vs P c x) := by
  induction h with
  | nil => rw [vs_z hF hc]; exact .nil
  | @cons L x r d hd h ih =>
    rw [vs_add hF hc (InV.mul hF d r) (SpV.vec hF h), vs_vs hF hc hd (hL r (by simp))]
    exact .cons r _ (hF.mul_lt _ _) (ih (fun s hs => hL s (List.mem_cons_of_mem _ hs)))
theorem SpV.mem {L : List (Nat → Nat)} (hL : ∀ r ∈ L, InV n r) {r : Nat → Nat} (h : r ∈ L) : SpV P n L r := by
  induction L with
  | nil => simp at h
  | cons s L ih =>
    have hT : ∀ r ∈ L, InV n r := fun t ht => hL t (List.mem_cons_of_mem _ ht)
    rcases List.mem_cons.1 h with rfl | h
    · have := SpV.cons (P := P) r 1 (by have := hF.n2; omega) (SpV.zero hF hT)
      rwa [one_vs hF (hL r (by simp)), va_z] at this
    · exact SpV.skip hF (hL s (by simp)) (ih hT h)
omit hF in
theorem SpV.least {L : List (Nat → Nat)} {S : (Nat → Nat) → Prop} (h0 : S vz) (ha : ∀ x y, S x → S y → S (va x y)) (hm : ∀ c x, c < n → S x → S (vs P c x)) (hL : ∀ r ∈ L, S r) : ∀ {x}, SpV P n L x → S x := by
  intro x h
  induction h with
  | nil => exact h0
  | cons r c hc h ih => exact ha _ _ (hm _ _ hc (hL r (by simp))) (ih (fun s hs => hL s (List.mem_cons_of_mem _ hs)))
theorem SpV.sub {L M : List (Nat → Nat)} (hM : ∀ r ∈ M, InV n r) (h : ∀ r ∈ L, SpV P n M r) {x : Nat → Nat} (k : SpV P n L x) : SpV P n M x :=
  SpV.least (SpV.zero hF hM) (fun _ _ a b => a.add hF hM b) (fun _ _ hc a => a.mul hF hM hc) h k
/-- Where all rows are 0, sums are. -/
theorem SpV.at {L : List (Nat → Nat)} {l : Nat} (h : ∀ r ∈ L, r l = 0) {x : Nat → Nat} (k : SpV P n L x) : x l = 0 :=
  SpV.least (S := fun x => x l = 0) rfl (fun x y a b => by show x l ^^^ y l = 0; rw [a, b]; rfl) (fun c x hc a => by show Go.Proofs.Ytljaabmemjehpaa.mul P c (x l) = 0; rw [a]; exact mul_zero' hF hc) h k
end

/-- Reduced echelon form. -/
structure EchV (n len : Nat) (L : List (Nat → Nat)) : Prop where
  vec : ∀ s ∈ L, InV n s
  ld : ∀ s ∈ L, ldv s len < len ∧ s (ldv s len) = 1
  out : ∀ s ∈ L, ∀ j, len ≤ j → s j = 0
  pw : L.Pairwise fun s t => ldv s len < ldv t len ∧ s (ldv t len) = 0

theorem EchV.nil (n len : Nat) : EchV n len [] := ⟨by simp, by simp, by simp, .nil⟩
theorem EchV.tail {n len : Nat} {r : Nat → Nat} {L : List (Nat → Nat)} (h : EchV n len (r :: L)) : EchV n len L :=
  ⟨fun s hs => h.vec s (List.mem_cons_of_mem _ hs), fun s hs => h.ld s (List.mem_cons_of_mem _ hs), fun s hs => h.out s (List.mem_cons_of_mem _ hs), (List.pairwise_cons.1 h.pw).2⟩
theorem EchV.head {n len : Nat} {r : Nat → Nat} {L : List (Nat → Nat)} (h : EchV n len (r :: L)) : ∀ t ∈ L, ldv r len < ldv t len ∧ r (ldv t len) = 0 := (List.pairwise_cons.1 h.pw).1
section
variable {m P n len : Nat} (hF : Fld m P n)
include hF
theorem EchV.col {r : Nat → Nat} {L : List (Nat → Nat)} (h : EchV n len (r :: L)) {x : Nat → Nat} (k : SpV P n L x) : ∀ j, j ≤ ldv r len → x j = 0 := fun j hj =>
  SpV.at hF (fun t ht => ldv_low (Nat.lt_of_le_of_lt hj (h.head t ht).1)) k
theorem EchV.coef {r : Nat → Nat} {L : List (Nat → Nat)} (h : EchV n len (r :: L)) {x : Nat → Nat} (k : SpV P n (r :: L) x) : ∃ y, SpV P n L y ∧ x = va (vs P (x (ldv r len)) r) y := by
  cases k with
  | @cons _ y _ c hc k =>
    refine ⟨y, k, ?_⟩
    have e : va (vs P c r) y (ldv r len) = c := by
      show mul P c (r (ldv r len)) ^^^ y (ldv r len) = c
      rw [(h.ld r (by simp)).2, h.col hF k _ (Nat.le_refl _), mul_one' hF hc, Nat.xor_zero]
    rw [e]
theorem EchV.drop {r : Nat → Nat} {L : List (Nat → Nat)} (h : EchV n len (r :: L)) {x : Nat → Nat} (k : SpV P n (r :: L) x) (hb : x (ldv r len) = 0) : SpV P n L x := by
  obtain ⟨y, hy, e⟩ := h.coef hF k
  rw [hb, zero_vs hF (h.vec r (by simp)), z_va] at e
  rw [e]; exact hy
theorem EchV.zero {L : List (Nat → Nat)} (h : EchV n len L) {x : Nat → Nat} (k : SpV P n L x) (hb : ∀ s ∈ L, x (ldv s len) = 0) : x = vz := by
  induction L with
  | nil => cases k; rfl
  | cons r L ih => exact ih h.tail (h.drop hF k (hb r (by simp))) (fun s hs => hb s (List.mem_cons_of_mem _ hs))
theorem EchV.lowest {r : Nat → Nat} {L : List (Nat → Nat)} (h : EchV n len (r :: L)) {x : Nat → Nat} (k : SpV P n (r :: L) x) (hx : ldv x len < len) : ldv r len ≤ ldv x len := by
  rcases Nat.lt_or_ge (ldv x len) (ldv r len) with e | e
  · exfalso
    obtain ⟨y, hy, e2⟩ := h.coef hF k
    refine ldv_ne hx ?_
    have hz : x (ldv r len) < n := SpV.vec hF k _
    rw [e2]
    show mul P (x (ldv r len)) (r _) ^^^ y _ = 0
    rw [← e2, ldv_low e, h.col hF hy _ (Nat.le_of_lt e), mul_zero' hF hz]; rfl
  · exact e
/-- Rows in reduced echelon form are told by their sums. -/
theorem EchV.unique : ∀ {L M : List (Nat → Nat)}, EchV n len L → EchV n len M → (∀ x, SpV P n L x ↔ SpV P n M x) → L = M
  | [], [], _, _, _ => rfl
  | [], s :: M, _, hM, h => by
    have := (h s).2 (SpV.mem hF hM.vec (by simp))
    have h1 := (hM.ld s (by simp)).2
    cases this
    exact absurd h1 (by show ¬ (0 = 1); omega)
  | r :: L, [], hL, _, h => by
    have := (h r).1 (SpV.mem hF hL.vec (by simp))
    have h1 := (hL.ld r (by simp)).2
    cases this
    exact absurd h1 (by show ¬ (0 = 1); omega)
  | r :: L, s :: M, hL, hM, h => by
    have hr := hL.ld r (by simp)
    have hs := hM.ld s (by simp)
    have e : ldv r len = ldv s len := Nat.le_antisymm (hL.lowest hF ((h s).2 (SpV.mem hF hM.vec (by simp))) hs.1) (hM.lowest hF ((h r).1 (SpV.mem hF hL.vec (by simp))) hr.1)
    have hT : ∀ x, SpV P n L x ↔ SpV P n M x := fun x =>
      ⟨fun k => hM.drop hF ((h x).1 (SpV.skip hF (hL.vec r (by simp)) k)) (hL.col hF k _ (by omega)), fun k => hL.drop hF ((h x).2 (SpV.skip hF (hM.vec s (by simp)) k)) (hM.col hF k _ (by omega))⟩
    have eT := EchV.unique hL.tail hM.tail hT
    subst eT
    have hx : SpV P n (r :: L) (va r s) := SpV.add hF hL.vec (SpV.mem hF hL.vec (by simp)) ((h s).2 (SpV.mem hF hM.vec (by simp)))
    have hd : SpV P n L (va r s) := hL.drop hF hx (by show r _ ^^^ s _ = 0; rw [hr.2, e, hs.2]; rfl)
    have h0 := hL.tail.zero hF hd (fun t ht => by show r _ ^^^ s _ = 0; rw [(hL.head t ht).2, (hM.head t ht).2]; rfl)
    rw [va_zero h0]
end
end Go.Proofs.Ytljaabmemjehpaa
namespace Go.Proofs.Ytljaabmemjehpaa
set_option linter.unusedVariables false

/-- What rows leave of a row. -/
def restV (P len : Nat) (L : List (Nat → Nat)) (w : Nat → Nat) : Nat → Nat := L.foldl (fun w s => va w (vs P (w (ldv s len)) s)) w
/-- A row that is changed when the row q comes in. -/
def chgV (P len : Nat) (q s : Nat → Nat) : Nat → Nat := va s (vs P (s (ldv q len)) q)
/-- How many rows stand before q. -/
def placeV (len : Nat) (L : List (Nat → Nat)) (q : Nat → Nat) : Nat := L.countP (fun s => decide (ldv s len < ldv q len))
def insV (P len : Nat) (L : List (Nat → Nat)) (q : Nat → Nat) : List (Nat → Nat) := (L.map (chgV P len q)).take (placeV len L q) ++ q :: (L.map (chgV P len q)).drop (placeV len L q)
/-- A row with its first element, which is not 0, made 1. -/
def normV (P n len : Nat) (w : Nat → Nat) : Nat → Nat := vs P (quo P n 1 (w (ldv w len))) w
def addV (P n len : Nat) (L : List (Nat → Nat)) (w : Nat → Nat) : List (Nat → Nat) := if ldv (restV P len L w) len = len then L else insV P len L (normV P n len (restV P len L w))
def joinV (P n len : Nat) (L M : List (Nat → Nat)) : List (Nat → Nat) := M.foldl (addV P n len) L

def OutV (len : Nat) (f : Nat → Nat) : Prop := ∀ j, len ≤ j → f j = 0
theorem va_ne {f g : Nat → Nat} {j : Nat} (h : f j = 0) : va f g j = g j := by show f j ^^^ g j = g j; rw [h, Nat.zero_xor]
section
variable {m P n len : Nat} (hF : Fld m P n)
include hF
omit hF in
theorem OutV.add {f g : Nat → Nat} (hf : OutV len f) (hg : OutV len g) : OutV len (va f g) := fun j hj => by show f j ^^^ g j = 0; rw [hf j hj, hg j hj]; rfl
theorem OutV.mul {c : Nat} {f : Nat → Nat} (hc : c < n) (hf : OutV len f) : OutV len (vs P c f) := fun j hj => by show Go.Proofs.Ytljaabmemjehpaa.mul P c (f j) = 0; rw [hf j hj]; exact mul_zero' hF hc
theorem vs_at {c j : Nat} {f : Nat → Nat} (hc : c < n) (h : f j = 0) : vs P c f j = 0 := by show Go.Proofs.Ytljaabmemjehpaa.mul P c (f j) = 0; rw [h]; exact mul_zero' hF hc
theorem vs_one {c j : Nat} {f : Nat → Nat} (hc : c < n) (h : f j = 1) : vs P c f j = c := by show Go.Proofs.Ytljaabmemjehpaa.mul P c (f j) = c; rw [h]; exact mul_one' hF hc
theorem restV_spec : ∀ {L : List (Nat → Nat)}, EchV n len L → ∀ {w : Nat → Nat}, InV n w → OutV len w → InV n (restV P len L w) ∧ OutV len (restV P len L w) ∧ (∀ s ∈ L, restV P len L w (ldv s len) = 0) ∧ ∃ y, SpV P n L y ∧ restV P len L w = va w y ∧ ∀ l, (∀ s ∈ L, s l = 0) → restV P len L w l = w l
  | [], _, w, hw, ho => ⟨hw, ho, by simp, vz, .nil, (va_z w).symm, fun _ _ => rfl⟩
  | s :: L, h, w, hw, ho => by
    have hs := h.ld s (by simp)
    have hsv := h.vec s (by simp)
    have hc : w (ldv s len) < n := hw _
    have hw2 : InV n (va w (vs P (w (ldv s len)) s)) := hw.add hF (InV.mul hF _ _)
    have ho2 : OutV len (va w (vs P (w (ldv s len)) s)) := ho.add (OutV.mul hF hc (h.out s (by simp)))
    obtain ⟨h1, h2, h3, y, h4, h5, h6⟩ := restV_spec h.tail hw2 ho2
    have e : restV P len (s :: L) w = restV P len L (va w (vs P (w (ldv s len)) s)) := rfl
    rw [e]
    refine ⟨h1, h2, fun t ht => ?_, va (vs P (w (ldv s len)) s) y, .cons s _ hc h4, by rw [h5, va_assoc], fun l hl => ?_⟩
    · rcases List.mem_cons.1 ht with rfl | ht
      · rw [h6 _ (fun t' ht' => ldv_low (h.head t' ht').1)]
        show w _ ^^^ vs P _ _ _ = 0
        rw [vs_one hF hc hs.2, Nat.xor_self]
      · exact h3 t ht
    · rw [h6 l (fun t ht => hl t (List.mem_cons_of_mem _ ht))]
      show w l ^^^ vs P _ _ l = w l
      rw [vs_at hF hc (hl s (by simp)), Nat.xor_zero]

theorem chgV_spec {q s : Nat → Nat} (hs : ldv s len < len ∧ s (ldv s len) = 1) (hsv : InV n s) (hqv : InV n q) (hq : ldv q len < len ∧ q (ldv q len) = 1) (h : q (ldv s len) = 0) : ldv (chgV P len q s) len = ldv s len ∧ chgV P len q s (ldv s len) = 1 ∧ chgV P len q s (ldv q len) = 0 := by
  have hc : s (ldv q len) < n := hsv _
  have e1 : chgV P len q s (ldv s len) = 1 := by
    show s _ ^^^ vs P _ q _ = 1
    rw [vs_at hF hc h, hs.2]; rfl
  refine ⟨ldv_eq hs.1 (by rw [e1]; omega) (fun j hj => ?_), e1, ?_⟩
  · show s j ^^^ vs P _ q j = 0
    rw [ldv_low hj, Nat.zero_xor]
    rcases Nat.lt_trichotomy (ldv s len) (ldv q len) with e | e | e
    · exact vs_at hF hc (ldv_low (Nat.lt_trans hj e))
    · rw [e, hq.2] at h; omega
    · have : s (ldv q len) = 0 := ldv_low e
      rw [this]
      exact zero_mul' hF (hqv j)
  · show s _ ^^^ vs P _ q _ = 0
    rw [vs_one hF hc hq.2, Nat.xor_self]
theorem chgV_in {q s : Nat → Nat} (hs : InV n s) : InV n (chgV P len q s) := hs.add hF (InV.mul hF _ _)
theorem chgV_out {q s : Nat → Nat} (hsv : InV n s) (hs : OutV len s) (hq : OutV len q) : OutV len (chgV P len q s) := hs.add (OutV.mul hF (hsv _) hq)
omit hF in
theorem placeV_split : ∀ {L : List (Nat → Nat)} (_ : EchV n len L) (q : Nat → Nat), (∀ s ∈ L.take (placeV len L q), ldv s len < ldv q len) ∧ (∀ s ∈ L.drop (placeV len L q), ldv q len ≤ ldv s len)
  | [], _, q => ⟨by simp, by simp⟩
  | s :: L, h, q => by
    obtain ⟨h1, h2⟩ := placeV_split h.tail q
    by_cases hb : ldv s len < ldv q len
    · have : placeV len (s :: L) q = placeV len L q + 1 := by simp [placeV, hb]
      rw [this]
      refine ⟨fun t ht => ?_, fun t ht => h2 t (by simpa using ht)⟩
      simp only [List.take_succ_cons, List.mem_cons] at ht
      rcases ht with rfl | ht
      · exact hb
      · exact h1 t ht
    · have hz : placeV len (s :: L) q = 0 := by
        unfold placeV
        rw [List.countP_eq_zero]
        intro t ht
        rcases List.mem_cons.1 ht with rfl | ht
        · simpa using hb
        · have := (h.head t ht).1; simp; omega
      rw [hz]
      refine ⟨by simp, fun t ht => ?_⟩
      simp only [List.drop_zero, List.mem_cons] at ht
      rcases ht with rfl | ht
      · omega
      · have := (h.head t ht).1; omega
omit hF in
theorem mem_insV {L : List (Nat → Nat)} {q r : Nat → Nat} : r ∈ insV P len L q ↔ r = q ∨ ∃ s ∈ L, r = chgV P len q s := by
  simp only [insV, List.mem_append, List.mem_cons]
  constructor
  · rintro (h | h | h)
    · obtain ⟨s, hs, rfl⟩ := List.mem_map.1 (List.mem_of_mem_take h); exact .inr ⟨s, hs, rfl⟩
    · exact .inl h
    · obtain ⟨s, hs, rfl⟩ := List.mem_map.1 (List.mem_of_mem_drop h); exact .inr ⟨s, hs, rfl⟩
  · rintro (h | ⟨s, hs, rfl⟩)
    · exact .inr (.inl h)
    · have : chgV P len q s ∈ (L.map (chgV P len q)).take (placeV len L q) ++ (L.map (chgV P len q)).drop (placeV len L q) := by
        rw [List.take_append_drop]; exact List.mem_map.2 ⟨s, hs, rfl⟩
      rcases List.mem_append.1 this with h | h
      · exact .inl h
      · exact .inr (.inr h)
theorem insV_ech {L : List (Nat → Nat)} (h : EchV n len L) {q : Nat → Nat} (hqv : InV n q) (hqo : OutV len q) (hq : ldv q len < len ∧ q (ldv q len) = 1) (hr : ∀ s ∈ L, q (ldv s len) = 0) : EchV n len (insV P len L q) := by
  have hc : ∀ s ∈ L, _ := fun s hs => chgV_spec hF (h.ld s hs) (h.vec s hs) hqv hq (hr s hs)
  obtain ⟨p1, p2⟩ := placeV_split h q
  have hP : (L.map (chgV P len q)).Pairwise fun s t => ldv s len < ldv t len ∧ s (ldv t len) = 0 := by
    rw [List.pairwise_map]
    refine List.Pairwise.imp_of_mem ?_ h.pw
    intro s t hs ht ⟨a, b⟩
    obtain ⟨e1, _, _⟩ := hc s hs
    obtain ⟨e2, _, _⟩ := hc t ht
    refine ⟨by omega, ?_⟩
    rw [e2]
    show s _ ^^^ vs P _ q _ = 0
    rw [b, vs_at hF (h.vec s hs _) (hr t ht)]; rfl
  refine ⟨fun s hs => ?_, fun s hs => ?_, fun s hs => ?_, ?_⟩
  · rcases mem_insV.1 hs with rfl | ⟨t, ht, rfl⟩
    · exact hqv
    · exact chgV_in hF (h.vec t ht)
  · rcases mem_insV.1 hs with rfl | ⟨t, ht, rfl⟩
    · exact hq
    · obtain ⟨e1, e2, _⟩ := hc t ht
      rw [e1]; exact ⟨(h.ld t ht).1, e2⟩
  · rcases mem_insV.1 hs with rfl | ⟨t, ht, rfl⟩
    · exact hqo
    · exact chgV_out hF (h.vec t ht) (h.out t ht) hqo
  · unfold insV
    rw [List.pairwise_append, List.pairwise_cons]
    have hmt : ∀ a ∈ (L.map (chgV P len q)).take (placeV len L q), ∃ t ∈ L, ldv t len < ldv q len ∧ a = chgV P len q t := by
      intro a ha
      rw [← List.map_take] at ha
      obtain ⟨t, ht, rfl⟩ := List.mem_map.1 ha
      exact ⟨t, List.mem_of_mem_take ht, p1 t ht, rfl⟩
    have hmd : ∀ a ∈ (L.map (chgV P len q)).drop (placeV len L q), ∃ t ∈ L, ldv q len ≤ ldv t len ∧ a = chgV P len q t := by
      intro a ha
      rw [← List.map_drop] at ha
      obtain ⟨t, ht, rfl⟩ := List.mem_map.1 ha
      exact ⟨t, List.mem_of_mem_drop ht, p2 t ht, rfl⟩
    have hlq : ∀ t ∈ L, ldv q len ≤ ldv t len → ldv q len < ldv t len := by
      intro t ht hle
      rcases Nat.lt_or_eq_of_le hle with e | e
      · exact e
      · have := hr t ht; rw [← e, hq.2] at this; omega
    have hA : ∀ a ∈ (L.map (chgV P len q)).take (placeV len L q), ∀ b ∈ (L.map (chgV P len q)).drop (placeV len L q), ldv a len < ldv b len ∧ a (ldv b len) = 0 := by
      have := hP
      rw [← List.take_append_drop (placeV len L q) (L.map (chgV P len q)), List.pairwise_append] at this
      exact this.2.2
    refine ⟨hP.sublist (List.take_sublist _ _), ⟨fun b hb => ?_, hP.sublist (List.drop_sublist _ _)⟩, fun a ha b hb => ?_⟩
    · obtain ⟨t, ht, hle, rfl⟩ := hmd b hb
      obtain ⟨e, _, _⟩ := hc t ht
      rw [e]
      exact ⟨hlq t ht hle, hr t ht⟩
    · rcases List.mem_cons.1 hb with rfl | hb
      · obtain ⟨t, ht, hlt, rfl⟩ := hmt a ha
        obtain ⟨e, _, e2⟩ := hc t ht
        exact ⟨by omega, e2⟩
      · exact hA a ha b hb
theorem insV_span {L : List (Nat → Nat)} (hL : ∀ r ∈ L, InV n r) {q : Nat → Nat} (hqv : InV n q) (x : Nat → Nat) : SpV P n (insV P len L q) x ↔ SpV P n (q :: L) x := by
  have hI : ∀ r ∈ insV P len L q, InV n r := fun r hr => by
    rcases mem_insV.1 hr with rfl | ⟨s, hs, rfl⟩
    · exact hqv
    · exact chgV_in hF (hL s hs)
  have hQ : ∀ r ∈ q :: L, InV n r := fun r hr => by
    rcases List.mem_cons.1 hr with rfl | hr
    · exact hqv
    · exact hL r hr
  have hq : SpV P n (insV P len L q) q := SpV.mem hF hI (mem_insV.2 (.inl rfl))
  constructor
  · refine SpV.sub hF hQ fun r hr => ?_
    rcases mem_insV.1 hr with rfl | ⟨s, hs, rfl⟩
    · exact SpV.mem hF hQ (by simp)
    · exact SpV.add hF hQ (SpV.mem hF hQ (by simp [hs])) (SpV.mul hF hQ (hL s hs _) (SpV.mem hF hQ (by simp)))
  · refine SpV.sub hF hI fun r hr => ?_
    rcases List.mem_cons.1 hr with rfl | hr
    · exact hq
    · have h1 : SpV P n (insV P len L q) (chgV P len q r) := SpV.mem hF hI (mem_insV.2 (.inr ⟨r, hr, rfl⟩))
      have h2 := SpV.add hF hI h1 (SpV.mul hF hI (hL r hr (ldv q len)) hq)
      have e : va (chgV P len q r) (vs P (r (ldv q len)) q) = r := by
        show va (va r _) _ = r
        rw [va_assoc, va_self, va_z]
      rwa [e] at h2
theorem norm_spec {w : Nat → Nat} (hw : InV n w) (ho : OutV len w) (hl : ldv w len < len) : InV n (normV P n len w) ∧ OutV len (normV P n len w) ∧ ldv (normV P n len w) len = ldv w len ∧ normV P n len w (ldv w len) = 1 ∧ ∃ c, c < n ∧ vs P c (normV P n len w) = w := by
  have hne := ldv_ne hl
  have hq := quo_mul hF (a := 1) (by have := hF.n2; omega) hne (hw _)
  have hql := quo_lt hF 1 (w (ldv w len))
  have e1 : normV P n len w (ldv w len) = 1 := hq
  refine ⟨InV.mul hF _ _, OutV.mul hF hql ho, ldv_eq hl (by rw [e1]; omega) (fun j hj => vs_at hF hql (ldv_low hj)), e1, w (ldv w len), hw _, ?_⟩
  rw [normV, vs_vs hF (hw _) hql hw, mul_comm' hF (hw _) hql, hq, one_vs hF hw]
theorem addV_spec {L : List (Nat → Nat)} (h : EchV n len L) {w : Nat → Nat} (hw : InV n w) (ho : OutV len w) : EchV n len (addV P n len L w) ∧ ∀ x, SpV P n (addV P n len L w) x ↔ SpV P n (w :: L) x := by
  obtain ⟨r1, r2, r3, y, r4, r5, _⟩ := restV_spec hF h hw ho
  have hW : ∀ r ∈ w :: L, InV n r := fun r hr => by
    rcases List.mem_cons.1 hr with rfl | hr
    · exact hw
    · exact h.vec r hr
  unfold addV
  by_cases e : ldv (restV P len L w) len = len
  · rw [if_pos e]
    refine ⟨h, fun x => ⟨fun k => SpV.skip hF hw k, fun k => SpV.sub hF h.vec (fun s hs => ?_) k⟩⟩
    rcases List.mem_cons.1 hs with rfl | hs
    · have hz : restV P len L s = vz := funext fun j => by
        rcases Nat.lt_or_ge j len with h1 | h1
        · exact ldv_low (len := len) (by omega)
        · exact r2 j h1
      rw [hz] at r5
      rw [va_zero r5.symm]; exact r4
    · exact SpV.mem hF h.vec hs
  · rw [if_neg e]
    have hl : ldv (restV P len L w) len < len := by have := ldv_le (restV P len L w) len; omega
    obtain ⟨n1, n2, n3, n4, c, n5, n6⟩ := norm_spec hF r1 r2 hl
    have hql := quo_lt hF 1 (restV P len L w (ldv (restV P len L w) len))
    have hQ : ∀ r ∈ normV P n len (restV P len L w) :: L, InV n r := fun r hr => by
      rcases List.mem_cons.1 hr with rfl | hr
      · exact n1
      · exact h.vec r hr
    refine ⟨insV_ech hF h n1 n2 (by rw [n3]; exact ⟨hl, n4⟩) (fun s hs => vs_at hF hql (r3 s hs)), fun x => (insV_span hF h.vec n1 x).trans ⟨SpV.sub hF hW fun s hs => ?_, SpV.sub hF hQ fun s hs => ?_⟩⟩
    · rcases List.mem_cons.1 hs with rfl | hs
      · have : SpV P n (w :: L) (restV P len L w) := by
          rw [r5]; exact SpV.add hF hW (SpV.mem hF hW (by simp)) (SpV.skip hF hw r4)
        exact SpV.mul hF hW hql this
      · exact SpV.mem hF hW (by simp [hs])
    · rcases List.mem_cons.1 hs with rfl | hs
      · have h1 : SpV P n (normV P n len (restV P len L s) :: L) (restV P len L s) := by
          have := SpV.mul hF hQ n5 (SpV.mem hF hQ (r := normV P n len (restV P len L s)) (by simp))
          rwa [n6] at this
        have h2 := SpV.add hF hQ h1 (SpV.skip hF n1 r4)
        have e2 : va (restV P len L s) y = s := by rw [r5, va_assoc, va_self, va_z]
        rwa [e2] at h2
      · exact SpV.mem hF hQ (by simp [hs])
theorem joinV_spec : ∀ (M : List (Nat → Nat)) {L : List (Nat → Nat)}, EchV n len L → (∀ r ∈ M, InV n r ∧ OutV len r) → EchV n len (joinV P n len L M) ∧ ∀ x, SpV P n (joinV P n len L M) x ↔ SpV P n (L ++ M) x
  | [], L, h, _ => ⟨h, fun x => by simp [joinV]⟩
  | r :: M, L, h, hM => by
    have hr := hM r (by simp)
    obtain ⟨h1, h2⟩ := addV_spec hF h hr.1 hr.2
    have hM' : ∀ s ∈ M, InV n s ∧ OutV len s := fun s hs => hM s (List.mem_cons_of_mem _ hs)
    obtain ⟨h3, h4⟩ := joinV_spec M h1 hM'
    have hA : ∀ s ∈ L ++ r :: M, InV n s := fun s hs => by
      rcases List.mem_append.1 hs with hs | hs
      · exact h.vec s hs
      · exact (hM s hs).1
    have hB : ∀ s ∈ addV P n len L r ++ M, InV n s := fun s hs => by
      rcases List.mem_append.1 hs with hs | hs
      · exact h1.vec s hs
      · exact (hM' s hs).1
    refine ⟨h3, fun x => (h4 x).trans ⟨SpV.sub hF hA fun s hs => ?_, SpV.sub hF hB fun s hs => ?_⟩⟩
    · rcases List.mem_append.1 hs with hs | hs
      · exact SpV.sub hF hA (fun t ht => SpV.mem hF hA (by simp at ht ⊢; rcases ht with rfl | ht <;> simp [*])) ((h2 s).1 (SpV.mem hF h1.vec hs))
      · exact SpV.mem hF hA (by simp [hs])
    · have up : ∀ t, SpV P n (addV P n len L r) t → SpV P n (addV P n len L r ++ M) t := fun t k => SpV.sub hF hB (fun u hu => SpV.mem hF hB (by simp [hu])) k
      rcases List.mem_append.1 hs with hs | hs
      · exact up s ((h2 s).2 (SpV.skip hF hr.1 (SpV.mem hF h.vec hs)))
      · rcases List.mem_cons.1 hs with rfl | hs
        · exact up s ((h2 s).2 (SpV.mem hF (fun t ht => by
            rcases List.mem_cons.1 ht with rfl | ht
            · exact hr.1
            · exact h.vec t ht) (by simp)))
        · exact SpV.mem hF hB (by simp [hs])
end
end Go.Proofs.Ytljaabmemjehpaa
namespace Go.Proofs.Ytljaabmemjehpaa
set_option linter.unusedVariables false

theorem quo_inv {m P n : Nat} (hF : Fld m P n) (a : Nat) : quo P n 1 a = inv P n a := by
  rw [quo]; exact one_mul' hF (inv_lt hF a)
def rowAt (B : List (Nat → Nat)) (k : Nat) : Nat → Nat := B.getD k vz
theorem rowAt_get {B : List (Nat → Nat)} {k : Nat} (h : k < B.length) : rowAt B k = B[k] := by simp [rowAt, h]
theorem rowAt_mem {B : List (Nat → Nat)} {k : Nat} (h : k < B.length) : rowAt B k ∈ B := by rw [rowAt_get h]; exact List.getElem_mem h
/-- The rows that are left, the row k having been taken out and the first one put there, behind a change by q. -/
def leftV (P len : Nat) (q : Nat → Nat) (B : List (Nat → Nat)) (k : Nat) : List (Nat → Nat) := ((B.set k (rowAt B 0)).drop 1).map (chgV P len q)
def stepV (P n len : Nat) (st : List (Nat → Nat) × List (Nat → Nat)) (k : Nat) : List (Nat → Nat) × List (Nat → Nat) :=
  let q := normV P n len (rowAt st.2 k)
  (st.1.map (chgV P len q) ++ [q], leftV P len q st.2 k)
def colV (P n len c : Nat) (st : List (Nat → Nat) × List (Nat → Nat)) : List (Nat → Nat) × List (Nat → Nat) :=
  match st.2.findIdx? (fun s => s c != 0) with
  | none => st
  | some k => stepV P n len st k
def colsV (P n len : Nat) (R : List (Nat → Nat)) : Nat → List (Nat → Nat) × List (Nat → Nat)
  | 0 => ([], R)
  | c + 1 => colV P n len c (colsV P n len R c)

theorem left_mem {B : List (Nat → Nat)} {k : Nat} (hk : k < B.length) {s : Nat → Nat} (h : s ∈ (B.set k (rowAt B 0)).drop 1) : s ∈ B := by
  rcases List.mem_or_eq_of_mem_set (List.mem_of_mem_drop h) with h | rfl
  · exact h
  · exact rowAt_mem (by omega)
theorem left_all {B : List (Nat → Nat)} {k : Nat} (hk : k < B.length) {s : Nat → Nat} (h : s ∈ B) : s = rowAt B k ∨ s ∈ (B.set k (rowAt B 0)).drop 1 := by
  obtain ⟨i, hi, rfl⟩ := List.getElem_of_mem h
  by_cases e : i = k
  · subst e; exact .inl (rowAt_get hi).symm
  · right
    have get : ∀ j, 1 ≤ j → (hj : j < B.length) → (B.set k (rowAt B 0))[j]'(by rw [List.length_set]; exact hj) ∈ (B.set k (rowAt B 0)).drop 1 := by
      intro j h1 hj
      rw [List.mem_iff_getElem]
      exact ⟨j - 1, by rw [List.length_drop, List.length_set]; omega, by rw [List.getElem_drop]; congr 1; omega⟩
    by_cases e0 : i = 0
    · subst e0
      have h1 := get k (by omega) hk
      rw [List.getElem_set_self] at h1
      rw [rowAt_get hi] at h1 ⊢
      exact h1
    · have h1 := get i (by omega) hi
      rwa [List.getElem_set_ne (by omega)] at h1

structure ColV (P n len : Nat) (R : List (Nat → Nat)) (c : Nat) (st : List (Nat → Nat) × List (Nat → Nat)) : Prop where
  ech : EchV n len st.1
  lt : ∀ s ∈ st.1, ldv s len < c
  vec : ∀ s ∈ st.2, InV n s ∧ OutV len s
  low : ∀ s ∈ st.2, ∀ j, j < c → s j = 0
  span : ∀ x, SpV P n (st.1 ++ st.2) x ↔ SpV P n R x

section
variable {m P n len : Nat} (hF : Fld m P n)
include hF
theorem ColV.step {R : List (Nat → Nat)} {c : Nat} (hc : c < len) {st : List (Nat → Nat) × List (Nat → Nat)} (h : ColV P n len R c st) {k : Nat} (hk : k < st.2.length) (hne : rowAt st.2 k c ≠ 0) : ColV P n len R (c + 1) (stepV P n len st k) := by
  obtain ⟨L, B⟩ := st
  have hm := rowAt_mem hk
  have hrv := h.vec _ hm
  have hld : ldv (rowAt B k) len = c := ldv_eq hc hne (h.low _ hm)
  have hlr : ldv (rowAt B k) len < len := by rw [hld]; exact hc
  obtain ⟨n1, n2, n3, n4, d, n5, n6⟩ := norm_spec hF hrv.1 hrv.2 hlr
  rw [hld] at n3 n4
  obtain ⟨q, hq⟩ : ∃ q, normV P n len (rowAt B k) = q := ⟨_, rfl⟩
  have hst : stepV P n len (L, B) k = (L.map (chgV P len q) ++ [q], leftV P len q B k) := by simp only [stepV, hq]
  rw [hq] at n1 n2 n3 n4 n6
  rw [hst]
  have hlow : ∀ j, j < c → q j = 0 := fun j hj => ldv_low (len := len) (by omega)
  have hins : insV P len L q = L.map (chgV P len q) ++ [q] := by
    have : placeV len L q = L.length := by
      unfold placeV
      rw [List.countP_eq_length]
      intro s hs
      have := h.lt s hs
      simp [n3]; exact this
    rw [insV, this, List.take_of_length_le (by simp), List.drop_eq_nil_of_le (by simp)]
  have hq0 : ∀ s ∈ L, q (ldv s len) = 0 := fun s hs => hlow _ (h.lt s hs)
  have hE := insV_ech hF h.ech n1 n2 (by rw [n3]; exact ⟨hc, n4⟩) hq0
  rw [hins] at hE
  have hcg : ∀ s, InV n s → chgV P len q s c = 0 := fun s hs => by
    show s c ^^^ vs P (s (ldv q len)) q c = 0
    rw [n3, vs_one hF (hs c) n4, Nat.xor_self]
  have hall : ∀ s ∈ L ++ B, InV n s := fun s hs => by
    rcases List.mem_append.1 hs with hs | hs
    · exact h.ech.vec s hs
    · exact (h.vec s hs).1
  have hall' : ∀ s ∈ (L.map (chgV P len q) ++ [q]) ++ leftV P len q B k, InV n s := fun s hs => by
    rcases List.mem_append.1 hs with hs | hs
    · exact hE.vec s hs
    · obtain ⟨t, ht, rfl⟩ := List.mem_map.1 hs
      exact chgV_in hF (h.vec t (left_mem hk ht)).1
  have hqS : SpV P n (L ++ B) q := by
    rw [← hq]
    exact SpV.mul hF hall (quo_lt hF _ _) (SpV.mem hF hall (by simp [hm]))
  have hqS' : SpV P n ((L.map (chgV P len q) ++ [q]) ++ leftV P len q B k) q := SpV.mem hF hall' (by simp)
  refine ⟨hE, fun s hs => ?_, fun s hs => ?_, fun s hs j hj => ?_, fun x => Iff.trans ⟨SpV.sub hF hall fun s hs => ?_, SpV.sub hF hall' fun s hs => ?_⟩ (h.span x)⟩
  · rcases List.mem_append.1 hs with hs | hs
    · obtain ⟨t, ht, rfl⟩ := List.mem_map.1 hs
      rw [(chgV_spec hF (h.ech.ld t ht) (h.ech.vec t ht) n1 (by rw [n3]; exact ⟨hc, n4⟩) (hq0 t ht)).1]
      have := h.lt t ht
      show ldv t len < c + 1
      have : ldv t len < c := this
      omega
    · obtain rfl : s = q := by simpa using hs
      omega
  · obtain ⟨t, ht, rfl⟩ := List.mem_map.1 hs
    have := h.vec t (left_mem hk ht)
    exact ⟨chgV_in hF this.1, chgV_out hF this.1 this.2 n2⟩
  · obtain ⟨t, ht, rfl⟩ := List.mem_map.1 hs
    have hv := h.vec t (left_mem hk ht)
    by_cases e : j = c
    · subst e; exact hcg t hv.1
    · have hj2 : j < c := by omega
      show t j ^^^ vs P _ q j = 0
      rw [h.low t (left_mem hk ht) j hj2, vs_at hF (hv.1 _) (hlow j hj2)]; rfl
  · rcases List.mem_append.1 hs with hs | hs
    · rcases List.mem_append.1 hs with hs | hs
      · obtain ⟨t, ht, rfl⟩ := List.mem_map.1 hs
        exact SpV.add hF hall (SpV.mem hF hall (by simp [ht])) (SpV.mul hF hall (h.ech.vec t ht _) hqS)
      · obtain rfl : s = q := by simpa using hs
        exact hqS
    · obtain ⟨t, ht, rfl⟩ := List.mem_map.1 hs
      have ht' := left_mem hk ht
      exact SpV.add hF hall (SpV.mem hF hall (by simp [ht'])) (SpV.mul hF hall ((h.vec t ht').1 _) hqS)
  · have back : ∀ t, InV n t → SpV P n ((L.map (chgV P len q) ++ [q]) ++ leftV P len q B k) (chgV P len q t) → SpV P n ((L.map (chgV P len q) ++ [q]) ++ leftV P len q B k) t := fun t ht hk => by
      have h2 := SpV.add hF hall' hk (SpV.mul hF hall' (ht (ldv q len)) hqS')
      have e : va (chgV P len q t) (vs P (t (ldv q len)) q) = t := by
        show va (va t _) _ = t
        rw [va_assoc, va_self, va_z]
      rwa [e] at h2
    rcases List.mem_append.1 hs with hs | hs
    · exact back s (h.ech.vec s hs) (SpV.mem hF hall' (by simp; exact .inl ⟨s, hs, rfl⟩))
    · rcases left_all hk hs with e | hs2
      · rw [e, ← n6]
        exact SpV.mul hF hall' n5 hqS'
      · exact back s (h.vec s hs).1 (SpV.mem hF hall' (List.mem_append.2 (.inr (List.mem_map.2 ⟨s, hs2, rfl⟩))))
omit hF in
theorem ColV.skip {R : List (Nat → Nat)} {c : Nat} {st : List (Nat → Nat) × List (Nat → Nat)} (h : ColV P n len R c st) (h0 : ∀ s ∈ st.2, s c = 0) : ColV P n len R (c + 1) st :=
  ⟨h.ech, fun s hs => Nat.lt_succ_of_lt (h.lt s hs), h.vec, fun s hs j hj => by
    by_cases e : j = c
    · subst e; exact h0 s hs
    · exact h.low s hs j (by omega), h.span⟩
theorem colsV_inv {R : List (Nat → Nat)} (hR : ∀ r ∈ R, InV n r ∧ OutV len r) : ∀ c, c ≤ len → ColV P n len R c (colsV P n len R c)
  | 0, _ => ⟨EchV.nil n len, by simp [colsV], hR, fun s hs j hj => by omega, fun x => by simp [colsV]⟩
  | c + 1, hc => by
    have ih := colsV_inv hR c (by omega)
    rw [colsV, colV]
    split
    · next e =>
      rw [List.findIdx?_eq_none_iff] at e
      exact ih.skip (fun s hs => by simpa using e s hs)
    · next k e =>
      rw [List.findIdx?_eq_some_iff_getElem] at e
      obtain ⟨hk, h1, _⟩ := e
      exact ih.step hF (by omega) hk (by rw [rowAt_get hk]; simpa using h1)
/-- The model's form is the program's. -/
theorem colsV_eq {R : List (Nat → Nat)} (hR : ∀ r ∈ R, InV n r ∧ OutV len r) : (colsV P n len R len).1 = joinV P n len [] R := by
  have h := colsV_inv hF hR len (Nat.le_refl _)
  obtain ⟨j1, j2⟩ := joinV_spec hF R (EchV.nil n len) hR
  refine EchV.unique hF h.ech j1 fun x => Iff.trans ?_ ((h.span x).trans (by have := j2 x; simp only [List.nil_append] at this; exact this.symm))
  have hz : ∀ s ∈ (colsV P n len R len).2, s = vz := fun s hs => funext fun j => by
    rcases Nat.lt_or_ge j len with e | e
    · exact h.low s hs j e
    · exact (h.vec s hs).2 j e
  have hall : ∀ s ∈ (colsV P n len R len).1 ++ (colsV P n len R len).2, InV n s := fun s hs => by
    rcases List.mem_append.1 hs with hs | hs
    · exact h.ech.vec s hs
    · exact (h.vec s hs).1
  constructor
  · exact SpV.sub hF hall fun s hs => SpV.mem hF hall (by simp [hs])
  · refine SpV.sub hF h.ech.vec fun s hs => ?_
    rcases List.mem_append.1 hs with hs | hs
    · exact SpV.mem hF h.ech.vec hs
    · rw [hz s hs]; exact SpV.zero hF h.ech.vec
end
end Go.Proofs.Ytljaabmemjehpaa
