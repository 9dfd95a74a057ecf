/- Dual bases: the trace is not zero everywhere, so each row of traces belongs to one element. Pure, of no program. -/
import Derived.Test.YtlchelaohiojiaaDoorTrace
import Derived.Test.YtlchelaohiojiaaDoorBasPure
import Derived.Test.YtlchelaohiojiaaDoorDivPure
namespace Go.Proofs.YtlchelaohiojiaaDoor
open Go.RowKit
set_option linter.unusedVariables false

theorem tr_xor {m P n a b : Nat} (hF : Fld m P n) (ha : a < n) (hb : b < n) : ∀ k, tr P (a ^^^ b) k = tr P a k ^^^ tr P b k
  | 0 => by simp [tr]
  | k + 1 => by
    simp only [tr]
    rw [tr_xor hF ha hb k, sq_xor hF ha hb]
    apply Nat.eq_of_testBit_eq; intro i
    simp only [Nat.testBit_xor]
    cases (tr P a k).testBit i <;> cases (tr P b k).testBit i <;> cases (sq P a k).testBit i <;> cases (sq P b k).testBit i <;> rfl
theorem tr_all : ∀ P : Fin 64, irr P.val = true → ∀ a : Fin 32, a.val < 2 ^ (nb P.val - 1) → tr P.val a.val (nb P.val - 1) < 2 := by decide +kernel
theorem tr_some : ∀ P : Fin 64, irr P.val = true → ∀ a : Fin 32, a.val < 2 ^ (nb P.val - 1) → (a.val == 0 || (List.range 32).any fun x => decide (x < 2 ^ (nb P.val - 1)) && tr P.val (mul P.val x a.val) (nb P.val - 1) == 1) = true := by decide +kernel
theorem fld_allD {m P n a : Nat} (hF : Fld m P n) (ha : a < n) {q : Nat → Nat → Nat → Prop} (h : ∀ P : Fin 64, irr P.val = true → ∀ a : Fin 32, a.val < 2 ^ (nb P.val - 1) → q P.val a.val (nb P.val - 1)) : q P a m := by
  have := h ⟨P, hF.P64⟩ (fld_irr hF.f) ⟨a, (fin_of hF ha).1⟩ (fin_of hF ha).2
  simpa only [fld_nb hF.f, Nat.add_sub_cancel] using this
theorem tr_two {m P n a : Nat} (hF : Fld m P n) (ha : a < n) : tr P a m < 2 :=
  fld_allD hF ha (q := fun P a m => tr P a m < 2) tr_all
/-- No element but zero has the trace 0 with all. -/
theorem tr_ex {m P n a : Nat} (hF : Fld m P n) (ha : a < n) (h0 : a ≠ 0) : ∃ x, x < n ∧ tr P (mul P x a) m = 1 := by
  have := fld_allD hF ha (q := fun P a m => (a == 0 || (List.range 32).any fun x => decide (x < 2 ^ m) && tr P (mul P x a) m == 1) = true) tr_some
  simp only [Bool.or_eq_true, beq_iff_eq, List.any_eq_true, List.mem_range, Bool.and_eq_true, decide_eq_true_eq] at this
  rcases this with h | ⟨x, _, h1, h2⟩
  · exact absurd h h0
  · exact ⟨x, by rw [← hF.n]; exact h1, h2⟩
/-- The number whose bit j is the trace of the product of the list's number j and of d. -/
def trm (P m : Nat) (q : List Nat) (d : Nat) : Nat → Nat
  | 0 => 0
  | k + 1 => trm P m q d k + tr P (mul P (nth q k) d) m * 2 ^ k
theorem trm_lt {m P n : Nat} (hF : Fld m P n) {q : List Nat} (hq : ∀ j, nth q j < n) {d : Nat} (hd : d < n) : ∀ k, trm P m q d k < 2 ^ k
  | 0 => by simp [trm]
  | k + 1 => by
    simp only [trm]
    have h1 := trm_lt hF hq hd k
    have h2 := tr_two hF (hF.mul_lt (nth q k) d)
    have h3 : tr P (mul P (nth q k) d) m * 2 ^ k ≤ 1 * 2 ^ k := Nat.mul_le_mul_right _ (by omega)
    rw [Nat.pow_succ]; omega
/-- Each bit is its trace. -/
theorem trm_eq {m P n : Nat} (hF : Fld m P n) {q : List Nat} (hq : ∀ j, nth q j < n) {d e : Nat} (hd : d < n) (he : e < n) : ∀ k, trm P m q d k = trm P m q e k ↔ ∀ j, j < k → tr P (mul P (nth q j) d) m = tr P (mul P (nth q j) e) m
  | 0 => by simp [trm]
  | k + 1 => by
    simp only [trm]
    have h1 := trm_lt hF hq hd k
    have h2 := trm_lt hF hq he k
    have ih := trm_eq hF hq hd he k
    generalize trm P m q d k = u at h1 ih ⊢
    generalize trm P m q e k = v at h2 ih ⊢
    have a2 := tr_two hF (hF.mul_lt (nth q k) d)
    have b2 := tr_two hF (hF.mul_lt (nth q k) e)
    have key : u + tr P (mul P (nth q k) d) m * 2 ^ k = v + tr P (mul P (nth q k) e) m * 2 ^ k ↔ u = v ∧ tr P (mul P (nth q k) d) m = tr P (mul P (nth q k) e) m := by
      generalize tr P (mul P (nth q k) d) m = a at a2 ⊢
      generalize tr P (mul P (nth q k) e) m = b at b2 ⊢
      generalize 2 ^ k = K at h1 h2 ⊢
      have ha : a = 0 ∨ a = 1 := by omega
      have hb : b = 0 ∨ b = 1 := by omega
      rcases ha with rfl | rfl <;> rcases hb with rfl | rfl <;> constructor <;> intro h <;> first | omega | (refine ⟨?_, ?_⟩ <;> omega)
    rw [key, ih]
    constructor
    · rintro ⟨h, hk⟩ j hj
      by_cases e : j = k
      · rw [e]; exact hk
      · exact h j (by omega)
    · intro h; exact ⟨fun j hj => h j (by omega), h k (by omega)⟩
/-- An element with the trace 0 with each of a basis has it with all sums of them. -/
theorem tr_sum {m P n : Nat} (hF : Fld m P n) {q : List Nat} (hq : ∀ j, nth q j < n) {d : Nat} (hd : d < n) (b : Nat) : ∀ k, (∀ j, j < k → tr P (mul P (nth q j) d) m = 0) → tr P (mul P (tms b q k) d) m = 0
  | 0, _ => by
    show tr P (mul P 0 d) m = 0
    have h0 : mul P 0 d = 0 := by
      rw [mul_comm' hF (by have := hF.n2; omega) hd]; exact mul_zero' hF hd
    have ht : ∀ k, tr P 0 k = 0 := fun k => by have := tr_xor hF (a := 0) (b := 0) (by have := hF.n2; omega) (by have := hF.n2; omega) k; simpa using this
    rw [h0, ht]
  | k + 1, h => by
    have ih := tr_sum hF hq hd b k fun j hj => h j (by omega)
    simp only [tms]
    have hlt : tms b q k < n := by have := tms_lt (C := m) (L := q) (fun j => by rw [hF.n]; exact hq j) b k; rwa [hF.n] at this
    split
    · rw [add_mul' hF hlt (hq k) hd, tr_xor hF (hF.mul_lt _ _) (hF.mul_lt _ _), ih, h k (by omega)]
      rfl
    · exact ih
/-- Rows of traces with a basis tell the elements apart. -/
theorem trm_inj {m P n : Nat} (hF : Fld m P n) {q : List Nat} (hB : Bas m q) (hq : ∀ j, nth q j < n) {d e : Nat} (hd : d < n) (he : e < n) (h : trm P m q d m = trm P m q e m) : d = e := by
  have h0 := (trm_eq hF hq hd he m).1 h
  have hx := hF.xor_lt hd he
  rcases Nat.eq_zero_or_pos (d ^^^ e) with e0 | e0
  · exact xor_self_iff e0
  · obtain ⟨x, hxn, hx1⟩ := tr_ex hF hx (by omega)
    obtain ⟨b, hb, rfl⟩ := hB.onto (fun j => by rw [hF.n]; exact hq j) (by rw [hF.n]; exact hxn)
    have := tr_sum hF hq hx b m fun j hj => by
      rw [mul_add' hF hd he (hq j), tr_xor hF (hF.mul_lt _ _) (hF.mul_lt _ _), h0 j hj, Nat.xor_self]
    omega
/-- Each row of traces belongs to an element. -/
theorem trm_onto {m P n : Nat} (hF : Fld m P n) {q : List Nat} (hB : Bas m q) (hq : ∀ j, nth q j < n) {v : Nat} (hv : v < n) : ∃ d, d < n ∧ trm P m q d m = v :=
  onto_of_inj (N := n) (f := fun d => trm P m q d m) (fun d hd => by have := trm_lt hF hq hd m; rwa [hF.n] at this) (fun d e hd he h => trm_inj hF hB hq hd he h) hv
/-- The element of a dual basis. -/
def dul (P m n : Nat) (q : List Nat) (j : Nat) : Nat := ((List.range n).find? fun d => trm P m q d m == 2 ^ j).getD 0
theorem dul_spec {m P n : Nat} (hF : Fld m P n) {q : List Nat} (hB : Bas m q) (hq : ∀ j, nth q j < n) {j : Nat} (hj : j < m) : dul P m n q j < n ∧ trm P m q (dul P m n q j) m = 2 ^ j := by
  obtain ⟨d, hd, h⟩ := trm_onto hF hB hq (v := 2 ^ j) (by rw [← hF.n]; exact Nat.pow_lt_pow_right (by omega) hj)
  rw [dul]
  cases e : (List.range n).find? fun d => trm P m q d m == 2 ^ j with
  | none => have := List.find?_eq_none.1 e d (List.mem_range.2 hd); simp [h] at this
  | some x =>
    have h1 := List.find?_some e
    have h2 := List.mem_of_find?_eq_some e
    exact ⟨List.mem_range.1 h2, by simpa using h1⟩
theorem dul_iff {m P n : Nat} (hF : Fld m P n) {q : List Nat} (hB : Bas m q) (hq : ∀ j, nth q j < n) {j d : Nat} (hj : j < m) (hd : d < n) : trm P m q d m = 2 ^ j ↔ d = dul P m n q j := by
  obtain ⟨h1, h2⟩ := dul_spec hF hB hq hj
  exact ⟨fun h => trm_inj hF hB hq hd h1 (h.trans h2.symm), fun h => by rw [h]; exact h2⟩
/-- A number with one bit alone: which. -/
theorem trm_one {m P n : Nat} (hF : Fld m P n) {q : List Nat} (hq : ∀ j, nth q j < n) {d i : Nat} (hd : d < n) (hi : i < m) : trm P m q d m = 2 ^ i ↔ ∀ j, j < m → tr P (mul P (nth q j) d) m = if j = i then 1 else 0 := by
  have gen : ∀ k, (trm P m q d k = (if i < k then 2 ^ i else 0)) ↔ ∀ j, j < k → tr P (mul P (nth q j) d) m = if j = i then 1 else 0 := by
    intro k
    induction k with
    | zero => simp [trm]
    | succ k ih =>
      simp only [trm]
      have h1 := trm_lt hF hq hd k
      have a2 := tr_two hF (hF.mul_lt (nth q k) d)
      have split : (∀ j, j < k + 1 → tr P (mul P (nth q j) d) m = if j = i then 1 else 0) ↔ ((∀ j, j < k → tr P (mul P (nth q j) d) m = if j = i then 1 else 0) ∧ tr P (mul P (nth q k) d) m = if k = i then 1 else 0) := by
        constructor
        · intro h; exact ⟨fun j hj => h j (by omega), h k (by omega)⟩
        · rintro ⟨h, hk⟩ j hj
          by_cases e : j = k
          · rw [e]; exact hk
          · exact h j (by omega)
      rw [split, ← ih]
      generalize trm P m q d k = u at h1 ⊢
      generalize tr P (mul P (nth q k) d) m = a at a2 ⊢
      have hpk : 0 < 2 ^ k := Nat.two_pow_pos k
      by_cases e : i = k
      · subst e
        simp only [Nat.lt_succ_self, if_true, Nat.lt_irrefl, if_false]
        have ha : a = 0 ∨ a = 1 := by omega
        rcases ha with rfl | rfl
        · constructor
          · intro h; omega
          · rintro ⟨_, h⟩; omega
        · constructor
          · intro h; exact ⟨by omega, rfl⟩
          · rintro ⟨h, _⟩; omega
      · have hne : ¬ k = i := fun h => e h.symm
        rw [if_neg hne]
        by_cases hlt : i < k
        · have h3 : 2 ^ i < 2 ^ k := Nat.pow_lt_pow_right (by omega) hlt
          rw [if_pos hlt, if_pos (by omega)]
          generalize 2 ^ i = I at h3 ⊢
          generalize 2 ^ k = K at h1 hpk h3 ⊢
          have ha : a = 0 ∨ a = 1 := by omega
          rcases ha with rfl | rfl
          · constructor
            · intro h; exact ⟨by omega, rfl⟩
            · rintro ⟨h, _⟩; omega
          · constructor
            · intro h; omega
            · rintro ⟨_, h⟩; omega
        · rw [if_neg hlt, if_neg (by omega)]
          generalize 2 ^ k = K at h1 hpk ⊢
          have ha : a = 0 ∨ a = 1 := by omega
          rcases ha with rfl | rfl
          · constructor
            · intro h; exact ⟨by omega, rfl⟩
            · rintro ⟨h, _⟩; omega
          · constructor
            · intro h; omega
            · rintro ⟨_, h⟩; omega
  have := gen m
  rwa [if_pos hi] at this
end Go.Proofs.YtlchelaohiojiaaDoor
