/- Interpolation over a basis. · What is zero at the first elements is zero at their sums alone, as in InverseLinear; over a basis interpolation goes through. Pure, of no program. -/
import Derived.Test.YtilghmfffdmnjaaDivPure
import Derived.Test.YtilghmfffdmnjaaColPure
import Derived.Test.YtilghmfffdmnjaaBasPure
import Derived.Test.YtilghmfffdmnjaaDim2
namespace Go.Proofs.Ytilghmfffdmnjaa.ipr
set_option linter.unusedVariables false

theorem xor4x (a b c d : Nat) : (a ^^^ b) ^^^ (c ^^^ d) = (a ^^^ c) ^^^ (b ^^^ d) := by
  apply Nat.eq_of_testBit_eq; intro i
  simp only [Nat.testBit_xor]
  cases a.testBit i <;> cases b.testBit i <;> cases c.testBit i <;> cases d.testBit i <;> rfl
theorem vlk_add {m P n x y : Nat} (hF : Fld m P n) {p : List Nat} (ep : ∀ j, nth p j < n) (hx : x < n) (hy : y < n) : ∀ k, vlk P p (x ^^^ y) k = vlk P p x k ^^^ vlk P p y k
  | 0 => by simp [vlk]
  | k + 1 => by
    simp only [vlk]
    rw [vlk_add hF ep hx hy k, sq_xor hF hx hy, mul_add' hF (sq_lt hF hx k) (sq_lt hF hy k) (ep k), xor4x]
theorem vl_add {m P n x y : Nat} (hF : Fld m P n) {p : List Nat} (ep : ∀ j, nth p j < n) (hx : x < n) (hy : y < n) : vl P p (x ^^^ y) = vl P p x ^^^ vl P p y := vlk_add hF ep hx hy _
theorem xor_zero_iff {a b : Nat} : a ^^^ b = 0 ↔ a = b :=
  ⟨fun h => by have := congrArg (· ^^^ b) h; simpa [Nat.xor_assoc] using this, fun h => by rw [h, Nat.xor_self]⟩
theorem sp_snoc {L : List Nat} {r x : Nat} : Sp (L ++ [r]) x ↔ Sp L x ∨ Sp L (x ^^^ r) := by
  have hsub : ∀ {y}, Sp L y → Sp (L ++ [r]) y := fun h => Sp.sub (fun s hs => Sp.mem (by simp [hs])) h
  constructor
  · intro h
    refine Sp.least (S := fun x => Sp L x ∨ Sp L (x ^^^ r)) (.inl (Sp.zero L)) (fun a b ha hb => ?_) (fun s hs => ?_) h
    · rcases ha with ha | ha <;> rcases hb with hb | hb
      · exact .inl (ha.xor hb)
      · refine .inr ?_
        rw [Nat.xor_assoc]; exact ha.xor hb
      · refine .inr ?_
        rw [show a ^^^ b ^^^ r = (a ^^^ r) ^^^ b by rw [Nat.xor_assoc, Nat.xor_comm b r, ← Nat.xor_assoc]]; exact ha.xor hb
      · refine .inl ?_
        have := ha.xor hb
        rwa [xor4x, Nat.xor_self, Nat.xor_zero] at this
    · rcases List.mem_append.1 hs with h | h
      · exact .inl (Sp.mem h)
      · simp at h; subst h
        exact .inr (by rw [Nat.xor_self]; exact Sp.zero L)
  · rintro (h | h)
    · exact hsub h
    · have := (hsub h).xor (Sp.mem (L := L ++ [r]) (r := r) (by simp))
      rwa [Nat.xor_assoc, Nat.xor_self, Nat.xor_zero] at this
theorem vl_one1 {m P n y : Nat} (hF : Fld m P n) (hy : y < n) : vl P [1] y = y := by
  show vlk P [1] y 1 = y
  simp only [vlk]
  show 0 ^^^ mul P 1 (sq P y 0) = y
  rw [one_mul' hF (sq_lt hF hy 0)]
  simp [sq]
theorem ip_free {m P n : Nat} (hF : Fld m P n) {xs ys : Nat → Nat} (hx : ∀ i, xs i < n) : ∀ i {y : Nat}, y < n → (vl P (ip P n xs ys i).1 y = 0 ↔ Sp (lst xs i) y)
  | 0, y, hy => by
    have e : (ip P n xs ys 0).1 = [1] := rfl
    rw [e, vl_one1 hF hy, show lst xs 0 = [] from rfl]
    constructor
    · intro h; rw [h]; exact .nil
    · intro h; cases h; rfl
  | i + 1, y, hy => by
    have hp := (ip_lt hF xs ys i).1
    have hv := vl_lt hF (ip P n xs ys i).1 (xs i)
    have ht := vl_lt hF (ip P n xs ys i).1 y
    have h1 := ip_free hF (ys := ys) hx i hy
    have h2 := ip_free hF (ys := ys) hx i (y := y ^^^ xs i) (hF.xor_lt hy (hx i))
    rw [ip_next1, vl_cmp hF (two_lt hF hv) hp hy, vl_two hF hv ht, show lst xs (i + 1) = lst xs i ++ [xs i] from range_succ_map xs i, sp_snoc, ← h1, ← h2, vl_add hF hp hy (hx i), ← add_mul' hF hv ht ht]
    generalize vl P (ip P n xs ys i).1 (xs i) = v at hv ⊢
    generalize vl P (ip P n xs ys i).1 y = t at ht ⊢
    by_cases e0 : t = 0
    · subst e0
      simp only [true_or, iff_true]
      exact mul_zero' hF (hF.xor_lt hv ht)
    · by_cases e1 : v ^^^ t = 0
      · have := xor_zero_iff.1 e1
        subst this
        simp only [Nat.xor_self, or_true, iff_true]
        rw [mul_comm' hF (by have := hF.n2; omega) ht]
        exact mul_zero' hF ht
      · have := mul_ne hF (hF.xor_lt hv ht) ht e1 e0
        simp only [this, e0, false_or, false_iff]
        intro h; exact e1 (by rw [Nat.xor_comm]; exact h)
theorem rest_iff {L : List Nat} (h : Ech L) {r : Nat} : rest L r = 0 ↔ Sp L r := by
  obtain ⟨h1, y, h2, h3, _⟩ := rest_spec h r
  constructor
  · intro e
    rw [h3] at e
    rw [xor_zero_iff.1 e]; exact h2
  · intro k
    exact h.zero (by rw [h3]; exact k.xor h2) h1
theorem add_len {L : List Nat} (h : Ech L) (r : Nat) : (Sp L r → (add L r).length = L.length) ∧ (¬ Sp L r → (add L r).length = L.length + 1) := by
  refine ⟨fun k => by rw [add_zero_rest (rest_iff h |>.2 k)], fun k => ?_⟩
  have : rest L r ≠ 0 := fun e => k ((rest_iff h).1 e)
  rw [add_rest this, ins_len]
theorem ip_rank {m P n : Nat} (hF : Fld m P n) {xs ys : Nat → Nat} (hx : ∀ i, xs i < n) : ∀ i, (joined [] (lst xs i)).length ≤ i ∧ (ipB P n xs ys i = true ↔ (joined [] (lst xs i)).length = i)
  | 0 => ⟨Nat.le_refl _, by simp [ipB, show joined [] (lst xs 0) = [] from rfl]⟩
  | i + 1 => by
    obtain ⟨h1, h2⟩ := ip_rank hF (ys := ys) hx i
    obtain ⟨hE, hS⟩ := joined_spec (lst xs i) Ech.nil
    have hS' := hS (xs i)
    rw [List.nil_append] at hS'
    have hf := ip_free hF (ys := ys) hx i (hx i)
    rw [show lst xs (i + 1) = lst xs i ++ [xs i] from range_succ_map xs i, joined_snoc]
    obtain ⟨a1, a2⟩ := add_len hE (xs i)
    simp only [ipB, Bool.and_eq_true, decide_eq_true_eq]
    by_cases k : Sp (joined [] (lst xs i)) (xs i)
    · rw [a1 k]
      refine ⟨by omega, ?_⟩
      have := hf.2 (hS'.1 k)
      constructor
      · rintro ⟨_, h⟩; exact absurd this h
      · intro h; omega
    · rw [a2 k]
      refine ⟨by omega, ?_⟩
      rw [h2]
      have : vl P (ip P n xs ys i).1 (xs i) ≠ 0 := fun e => k (hS'.2 (hf.1 e))
      constructor
      · rintro ⟨h, _⟩; omega
      · intro h; exact ⟨by omega, this⟩
theorem tms_congL {k : Nat} {A B : List Nat} : ∀ n, (∀ j, j < n → nth A j = nth B j) → tms k A n = tms k B n
  | 0, _ => rfl
  | n + 1, h => by
    simp only [tms]
    rw [tms_congL n fun j hj => h j (by omega), h n (by omega)]
theorem tms_cutL {k i : Nat} {q : List Nat} (hk : k < 2 ^ i) : ∀ m, i ≤ m → tms k q m = tms k q i
  | 0, h => by rw [show i = 0 by omega]
  | m + 1, h => by
    by_cases e : i = m + 1
    · rw [e]
    · simp only [tms]
      have : k.testBit m = false := Nat.testBit_lt_two_pow (Nat.lt_of_lt_of_le hk (Nat.pow_le_pow_right (by omega) (by omega)))
      rw [this, if_neg (by decide), tms_cutL hk m (by omega)]
/-- The elements of a basis are of full rank, as many as they are. -/
theorem bas_rank {m : Nat} {q : List Nat} (hb : basB m q = true) : ∀ i, i ≤ m → (joined [] (lst (nth q) i)).length = i
  | 0, _ => rfl
  | i + 1, h => by
    have ih := bas_rank hb i (by omega)
    obtain ⟨hE, hS⟩ := joined_spec (lst (nth q) i) Ech.nil
    rw [show lst (nth q) (i + 1) = lst (nth q) i ++ [nth q i] from range_succ_map (nth q) i, joined_snoc]
    rw [(add_len hE (nth q i)).2 ?_, ih]
    intro k
    have hk := (hS (nth q i)).1 k
    rw [List.nil_append] at hk
    obtain ⟨c, hc, e⟩ := sp_tms (n := i) (by rw [lst_length]; omega) hk
    rw [tms_congL (B := q) i fun j hj => lst_nth _ hj] at e
    have h1 : tms c q m = nth q i := by rw [tms_cutL hc m (by omega), e]
    have h2 : tms (2 ^ i) q m = nth q i := by rw [tms_pow, if_pos (by omega)]
    refine (basB_bas hb).ne (c ^^^ 2 ^ i) ?_ (Nat.xor_lt_two_pow (Nat.lt_of_lt_of_le hc (Nat.pow_le_pow_right (by omega) (by omega))) (Nat.pow_lt_pow_right (by omega) (by omega))) (by rw [tms_xor, h1, h2, Nat.xor_self])
    rcases Nat.eq_zero_or_pos (c ^^^ 2 ^ i) with e0 | e0
    · have := xor_self_iff e0; omega
    · exact e0
/-- Over a basis the interpolation has always an answer. -/
theorem bas_ip {m P n : Nat} (hF : Fld m P n) {q : List Nat} (hq : ∀ j, nth q j < n) (hb : basB m q = true) (ys : Nat → Nat) : ipB P n (nth q) ys m = true :=
  (ip_rank hF hq m).2.2 (bas_rank hb m (Nat.le_refl _))
end Go.Proofs.Ytilghmfffdmnjaa.ipr
