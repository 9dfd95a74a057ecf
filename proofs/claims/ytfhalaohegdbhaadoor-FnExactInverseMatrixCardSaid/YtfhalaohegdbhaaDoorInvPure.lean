/- The inverse of rows over two elements: the program's further columns and the model's search. Pure, of no program. -/
import Derived.Test.YtfhalaohegdbhaaDoorColPure
import Derived.Test.YtfhalaohegdbhaaDoorKern
namespace Go.Proofs.YtfhalaohegdbhaaDoor
set_option linter.unusedVariables false

/-- Rows with a further column each. -/
def mks (n : Nat) (A : List Nat) (k : Nat) : List Nat := (List.range k).map fun i => nth A i ^^^ 2 ^ (n + i)
theorem mks_succ (n : Nat) (A : List Nat) (k : Nat) : mks n A (k + 1) = mks n A k ++ [nth A k ^^^ 2 ^ (n + k)] := range_succ_map _ _
/-- The program's list of rows behind the first k. -/
def mkd (n : Nat) (A : List Nat) (k : Nat) : List Nat := joined [] (mks n A k)
theorem mkd_succ (n : Nat) (A : List Nat) (k : Nat) : mkd n A (k + 1) = add (mkd n A k) (nth A k ^^^ 2 ^ (n + k)) := by rw [mkd, mks_succ, joined_snoc]; rfl
theorem mkd_ech (n : Nat) (A : List Nat) (k : Nat) : Ech (mkd n A k) := (joined_nil _).1
theorem mk_lt {n k i : Nat} {A : List Nat} (hA : ∀ r ∈ A, r < 2 ^ n) (hi : i < k) : nth A i ^^^ 2 ^ (n + i) < 2 ^ (n + k) :=
  Nat.xor_lt_two_pow (Nat.lt_of_lt_of_le (nth_bound hA i) (Nat.pow_le_pow_right (by omega) (by omega))) (Nat.pow_lt_pow_right (by omega) (by omega))
theorem mks_lt {n : Nat} {A : List Nat} (hA : ∀ r ∈ A, r < 2 ^ n) (k : Nat) : ∀ r ∈ mks n A k, r < 2 ^ (n + k) := by
  intro r hr
  obtain ⟨i, hi, rfl⟩ := List.mem_map.1 hr
  exact mk_lt hA (List.mem_range.1 hi)
theorem mkd_lt {n : Nat} {A : List Nat} (hA : ∀ r ∈ A, r < 2 ^ n) (k : Nat) : ∀ r ∈ mkd n A k, r < 2 ^ (n + k) := joined_lt .nil (by simp) (mks_lt hA k)
theorem mkd_new {n : Nat} {A : List Nat} (hA : ∀ r ∈ A, r < 2 ^ n) (k : Nat) : rest (mkd n A k) (nth A k ^^^ 2 ^ (n + k)) ≠ 0 := by
  obtain ⟨_, y, hy, e, _⟩ := rest_spec (mkd_ech n A k) (nth A k ^^^ 2 ^ (n + k))
  have hyl : y < 2 ^ (n + k) := Sp.lt (mkd_lt hA k) hy
  rw [e]
  apply ne_of_bit (l := n + k)
  rw [Nat.testBit_xor, Nat.testBit_xor, Nat.testBit_two_pow_self, Nat.testBit_lt_two_pow hyl, Nat.testBit_lt_two_pow (Nat.lt_of_lt_of_le (nth_bound hA k) (Nat.pow_le_pow_right (by omega) (by omega)))]
  rfl
theorem mkd_len {n : Nat} {A : List Nat} (hA : ∀ r ∈ A, r < 2 ^ n) : ∀ k, (mkd n A k).length = k
  | 0 => rfl
  | k + 1 => by rw [mkd_succ, add_rest (mkd_new hA k), ins_len, mkd_len hA k]

theorem xlc (a b c : Nat) : a ^^^ (b ^^^ c) = b ^^^ (a ^^^ c) := by rw [← Nat.xor_assoc, Nat.xor_comm a b, Nat.xor_assoc]
theorem xlx (a b : Nat) : a ^^^ (a ^^^ b) = b := by rw [← Nat.xor_assoc, Nat.xor_self, Nat.zero_xor]
theorem tms_xor (A : List Nat) (a b : Nat) : ∀ k, tms (a ^^^ b) A k = tms a A k ^^^ tms b A k
  | 0 => by simp [tms]
  | k + 1 => by
    simp only [tms, tms_xor A a b k, Nat.testBit_xor]
    have e : tms a A k ^^^ tms b A k = tms a A k ^^^ nth A k ^^^ (tms b A k ^^^ nth A k) := by
      rw [Nat.xor_assoc, Nat.xor_comm (tms b A k) (nth A k), xlx]
    cases a.testBit k <;> cases b.testBit k
    · simp
    · simp [Nat.xor_assoc]
    · simp only [Bool.xor_false, if_true, Bool.false_eq_true, if_false]; rw [Nat.xor_assoc, Nat.xor_comm (tms b A k) (nth A k), ← Nat.xor_assoc]
    · simpa using e
theorem tms_pow (A : List Nat) (i : Nat) : ∀ k, tms (2 ^ i) A k = if i < k then nth A i else 0
  | 0 => by simp [tms]
  | k + 1 => by
    simp only [tms, tms_pow A i k, Nat.testBit_two_pow]
    by_cases h : i = k
    · subst h; simp
    · by_cases h2 : i < k
      · simp [h, h2]; omega
      · simp [h, h2]; omega
/-- What an element of the marked rows' sums tells: its low columns are the sum of the rows that its high ones tell. -/
def Tells (n : Nat) (A : List Nat) (v : Nat) : Prop := tms (v / 2 ^ n) A n = v % 2 ^ n
theorem tells_zero (n : Nat) (A : List Nat) : Tells n A 0 := by
  have h : ∀ k, tms 0 A k = 0 := fun k => by
    induction k with
    | zero => rfl
    | succ k ih => simp [tms, ih]
  simp [Tells, h]
theorem div_xor (x y n : Nat) : (x ^^^ y) / 2 ^ n = x / 2 ^ n ^^^ y / 2 ^ n := by
  rw [← Nat.shiftRight_eq_div_pow, ← Nat.shiftRight_eq_div_pow, ← Nat.shiftRight_eq_div_pow, Nat.shiftRight_xor_distrib]
theorem tells_xor {n : Nat} {A : List Nat} {x y : Nat} (h : Tells n A x) (k : Tells n A y) : Tells n A (x ^^^ y) := by
  unfold Tells at *
  rw [div_xor, tms_xor, h, k, Nat.xor_mod_two_pow]
theorem low_high {n r k : Nat} (hr : r < 2 ^ n) : (r ^^^ k * 2 ^ n) / 2 ^ n = k ∧ (r ^^^ k * 2 ^ n) % 2 ^ n = r := by
  have hp : 0 < 2 ^ n := Nat.two_pow_pos n
  constructor
  · rw [div_xor, Nat.div_eq_of_lt hr, Nat.zero_xor, Nat.mul_div_cancel _ hp]
  · rw [Nat.xor_mod_two_pow, Nat.mul_mod_left, Nat.xor_zero, Nat.mod_eq_of_lt hr]
theorem tells_mk {n : Nat} {A : List Nat} (hA : ∀ r ∈ A, r < 2 ^ n) {i : Nat} (hi : i < n) : Tells n A (nth A i ^^^ 2 ^ (n + i)) := by
  have e : 2 ^ (n + i) = 2 ^ i * 2 ^ n := by rw [Nat.pow_add, Nat.mul_comm]
  have := low_high (k := 2 ^ i) (nth_bound hA i)
  unfold Tells
  rw [e, this.1, this.2, tms_pow, if_pos hi]
theorem tells_sp {n : Nat} {A : List Nat} (hA : ∀ r ∈ A, r < 2 ^ n) {v : Nat} (h : Sp (mkd n A n) v) : Tells n A v := by
  have h2 := ((joined_nil (mks n A n)).2 v).1 h
  refine Sp.least (S := Tells n A) (tells_zero n A) (fun _ _ => tells_xor) (fun r hr => ?_) h2
  obtain ⟨i, hi, rfl⟩ := List.mem_map.1 hr
  exact tells_mk hA (List.mem_range.1 hi)
/-- Each number's rows, marked, are among the sums. -/
theorem sp_of (n : Nat) (A : List Nat) (k : Nat) : ∀ j, j ≤ n → Sp (mks n A n) (tms k A j ^^^ (k % 2 ^ j) * 2 ^ n)
  | 0, _ => by simp [tms, Nat.mod_one]; exact Sp.zero _
  | j + 1, hj => by
    have ih := sp_of n A k j (by omega)
    have hmem : nth A j ^^^ 2 ^ (n + j) ∈ mks n A n := List.mem_map.2 ⟨j, List.mem_range.2 (by omega), rfl⟩
    have hm : k % 2 ^ (j + 1) = k % 2 ^ j ^^^ (if k.testBit j then 2 ^ j else 0) := by
      apply Nat.eq_of_testBit_eq
      intro i
      rw [Nat.testBit_mod_two_pow, Nat.testBit_xor, Nat.testBit_mod_two_pow]
      by_cases e : i = j
      · subst e
        cases hb : k.testBit i <;> simp [Nat.testBit_two_pow_self]
      · have h1 : (if k.testBit j = true then 2 ^ j else 0).testBit i = false := by
          split
          · rw [Nat.testBit_two_pow]; simp; omega
          · simp
        rw [h1, Bool.xor_false]
        by_cases h2 : i < j
        · simp [h2]; omega
        · have : ¬ i < j + 1 := by omega
          simp [h2, this]
    by_cases hb : k.testBit j = true
    · have e : tms k A (j + 1) ^^^ (k % 2 ^ (j + 1)) * 2 ^ n = (tms k A j ^^^ (k % 2 ^ j) * 2 ^ n) ^^^ (nth A j ^^^ 2 ^ (n + j)) := by
        rw [hm, if_pos hb, tms, if_pos hb]
        have : (k % 2 ^ j ^^^ 2 ^ j) * 2 ^ n = (k % 2 ^ j) * 2 ^ n ^^^ 2 ^ (n + j) := by
          rw [← Nat.shiftLeft_eq, Nat.shiftLeft_xor_distrib, Nat.shiftLeft_eq, Nat.shiftLeft_eq, Nat.pow_add, Nat.mul_comm (2 ^ n)]
        rw [this]
        simp [Nat.xor_assoc, Nat.xor_comm, xlc]
      rw [e]
      exact ih.xor (Sp.mem hmem)
    · have hb' : k.testBit j = false := by simpa using hb
      rw [hm, tms, if_neg hb, hb']
      simpa using ih
theorem sp_all {n : Nat} {A : List Nat} {k : Nat} (hk : k < 2 ^ n) : Sp (mkd n A n) (tms k A n ^^^ k * 2 ^ n) := by
  have := sp_of n A k n (Nat.le_refl _)
  rw [Nat.mod_eq_of_lt hk] at this
  exact ((joined_nil (mks n A n)).2 _).2 this

theorem nth_of_mem {L : List Nat} {s : Nat} (h : s ∈ L) : ∃ j, j < L.length ∧ nth L j = s := by
  obtain ⟨j, hj, e⟩ := List.mem_iff_getElem.1 h
  exact ⟨j, hj, by simp [nth, hj, e]⟩
theorem ech_pw {R : List Nat} (h : Ech R) {i j : Nat} (hij : i < j) (hj : j < R.length) : ld (nth R i) < ld (nth R j) ∧ (nth R i).testBit (ld (nth R j)) = false := by
  have := List.pairwise_iff_getElem.1 h.pw i j (by omega) hj hij
  have e1 : nth R i = R[i] := by simp [nth, show i < R.length by omega]
  have e2 : nth R j = R[j] := by simp [nth, hj]
  rw [e1, e2]; exact this
theorem ech_le {R : List Nat} (h : Ech R) {i j : Nat} (hij : i ≤ j) (hj : j < R.length) : ld (nth R i) ≤ ld (nth R j) := by
  rcases Nat.lt_or_ge i j with e | e
  · exact Nat.le_of_lt (ech_pw h e hj).1
  · rw [show i = j by omega]; exact Nat.le_refl _
theorem ech_ge {R : List Nat} (h : Ech R) : ∀ i, i < R.length → i ≤ ld (nth R i)
  | 0, _ => Nat.zero_le _
  | i + 1, hi => by
    have := ech_ge h i (by omega)
    have := (ech_pw h (show i < i + 1 by omega) hi).1
    omega
theorem ech_idx {R : List Nat} (h : Ech R) {n : Nat} (hs : ∀ i, i < n → ∃ s ∈ R, ld s = i) : ∀ i, i < n → ∃ j, i ≤ j ∧ j < R.length ∧ ld (nth R j) = i
  | 0, h0 => by
    obtain ⟨s, hm, e⟩ := hs 0 h0
    obtain ⟨j, hj, rfl⟩ := nth_of_mem hm
    exact ⟨j, Nat.zero_le _, hj, e⟩
  | i + 1, hi => by
    obtain ⟨j0, h1, h2, h3⟩ := ech_idx h hs i (by omega)
    obtain ⟨s, hm, e⟩ := hs (i + 1) hi
    obtain ⟨j, hj, rfl⟩ := nth_of_mem hm
    refine ⟨j, ?_, hj, e⟩
    rcases Nat.lt_or_ge j0 j with k | k
    · omega
    · have := ech_le h k h2; omega
theorem lead_row : ∀ {R : List Nat}, Ech R → ∀ {v : Nat}, Sp R v → v ≠ 0 → ∃ s ∈ R, ld s = ld v
  | [], _, v, k, hv => by cases k; exact absurd rfl hv
  | r :: R, h, v, k, hv => by
    have h1 := h.lowest k hv
    by_cases e : ld r = ld v
    · exact ⟨r, by simp, e⟩
    · obtain ⟨s, hs, hl⟩ := lead_row h.tail (h.drop k (ld_low hv (by omega))) hv
      exact ⟨s, List.mem_cons_of_mem _ hs, hl⟩
theorem full_leads {R : List Nat} {n : Nat} (h : Ech R) (hl : R.length = n) (hR : ∀ s ∈ R, s < 2 ^ n) (i : Nat) (hi : i < n) : ld (nth R i) = i := by
  have down : ∀ d, d < n → ld (nth R (n - 1 - d)) ≤ n - 1 - d := by
    intro d
    induction d with
    | zero =>
      intro hd
      have := ld_lt (nth_bound hR (n - 1 - 0)) (nth_ne h (by omega))
      omega
    | succ d ih =>
      intro hd
      have a := ih (by omega)
      have b := (ech_pw h (show n - 1 - (d + 1) < n - 1 - d by omega) (by omega)).1
      omega
  have a := down (n - 1 - i) (by omega)
  rw [show n - 1 - (n - 1 - i) = i by omega] at a
  have b := ech_ge h i (by omega)
  omega
theorem tms_sp (A : List Nat) (k : Nat) : ∀ j, Sp A (tms k A j)
  | 0 => Sp.zero A
  | j + 1 => by
    simp only [tms]
    split
    · refine (tms_sp A k j).xor ?_
      by_cases h : j < A.length
      · exact Sp.mem (nth_mem h)
      · rw [nth_len (by omega)]; exact Sp.zero A
    · exact tms_sp A k j
theorem sp_tms {A : List Nat} {n : Nat} (hn : A.length ≤ n) {x : Nat} (h : Sp A x) : ∃ k, k < 2 ^ n ∧ tms k A n = x := by
  refine Sp.least (S := fun x => ∃ k, k < 2 ^ n ∧ tms k A n = x) ⟨0, Nat.two_pow_pos n, ?_⟩ ?_ ?_ h
  · have := tells_zero n A
    simpa [Tells] using this
  · rintro x y ⟨a, ha, rfl⟩ ⟨b, hb, rfl⟩
    exact ⟨a ^^^ b, Nat.xor_lt_two_pow ha hb, tms_xor A a b n⟩
  · intro r hr
    obtain ⟨i, hi, rfl⟩ := nth_of_mem hr
    exact ⟨2 ^ i, Nat.pow_lt_pow_right (by omega) (by omega), by rw [tms_pow, if_pos (by omega)]⟩
theorem low_bit {v n j : Nat} (hj : j < n) : (v % 2 ^ n).testBit j = v.testBit j := by rw [Nat.testBit_mod_two_pow]; simp [hj]
theorem high_bit {w n j : Nat} (hj : j < n) : (w * 2 ^ n).testBit j = false := by
  rw [← low_bit hj, Nat.mul_mod_left]; simp

section
variable {n : Nat} {A : List Nat} (hA : ∀ r ∈ A, r < 2 ^ n)
include hA
theorem inv_low (hl : ∀ i, i < n → ld (nth (mkd n A n) i) = i) {i : Nat} (hi : i < n) : nth (mkd n A n) i % 2 ^ n = 2 ^ i := by
  have hE := mkd_ech n A n
  have hlen := mkd_len hA n
  apply Nat.eq_of_testBit_eq
  intro j
  rw [Nat.testBit_mod_two_pow, Nat.testBit_two_pow]
  by_cases hj : j < n
  · rcases Nat.lt_trichotomy i j with h | h | h
    · have := (ech_pw hE h (by omega)).2
      rw [hl j hj] at this
      simp [this]; omega
    · subst h
      have := ld_bit (nth_ne hE (show i < (mkd n A n).length by omega))
      rw [hl i hi] at this
      simp [this, hj]
    · have := ld_low (nth_ne hE (show i < (mkd n A n).length by omega)) (show j < ld (nth (mkd n A n) i) by rw [hl i hi]; exact h)
      simp [this]; omega
  · simp [hj]; omega
theorem inv_tms (hl : ∀ i, i < n → ld (nth (mkd n A n) i) = i) {i : Nat} (hi : i < n) : tms (nth (mkd n A n) i / 2 ^ n) A n = 2 ^ i := by
  have h := tells_sp hA (Sp.mem (nth_mem (show i < (mkd n A n).length by rw [mkd_len hA]; exact hi)))
  unfold Tells at h
  rw [h, inv_low hA hl hi]
theorem invM_lt (i : Nat) : nth (mkd n A n) i / 2 ^ n < 2 ^ n := by
  have := nth_bound (mkd_lt hA n) i
  rw [Nat.pow_add] at this
  exact Nat.div_lt_of_lt_mul this
theorem inv_unique (hl : ∀ i, i < n → ld (nth (mkd n A n) i) = i) {i k : Nat} (hi : i < n) (hk : k < 2 ^ n) (h : tms k A n = 2 ^ i) : k = nth (mkd n A n) i / 2 ^ n := by
  have hw : k ^^^ nth (mkd n A n) i / 2 ^ n < 2 ^ n := Nat.xor_lt_two_pow hk (invM_lt hA i)
  have ht : tms (k ^^^ nth (mkd n A n) i / 2 ^ n) A n = 0 := by rw [tms_xor, h, inv_tms hA hl hi, Nat.xor_self]
  have hs := sp_all (A := A) hw
  rw [ht, Nat.zero_xor] at hs
  have hz := (mkd_ech n A n).zero hs (fun s hs => by
    obtain ⟨j, hj, rfl⟩ := nth_of_mem hs
    rw [mkd_len hA] at hj
    rw [hl j hj]; exact high_bit hj)
  have hz2 : k ^^^ nth (mkd n A n) i / 2 ^ n = 0 := by
    rcases Nat.mul_eq_zero.1 hz with e | e
    · exact e
    · exact absurd e (Nat.ne_of_gt (Nat.two_pow_pos n))
  have := xlx k (nth (mkd n A n) i / 2 ^ n)
  rw [hz2, Nat.xor_zero] at this
  exact this
theorem inv_rank (hl : ∀ i, i < n → ld (nth (mkd n A n) i) = i) : (joined [] A).length = n := by
  have hR := joined_nil A
  have hlt := joined_lt .nil (by simp) hA
  have hle := hR.1.len hlt
  have hidx := ech_idx hR.1 (n := n) (fun i hi => by
    have hs : Sp (joined [] A) (2 ^ i) := (hR.2 _).2 (by rw [← inv_tms hA hl hi]; exact tms_sp A _ n)
    obtain ⟨s, hm, e⟩ := lead_row hR.1 hs (Nat.ne_of_gt (Nat.two_pow_pos i))
    exact ⟨s, hm, by rw [e]; exact ld_eq (Nat.testBit_two_pow_self) (fun k hk => by rw [Nat.testBit_two_pow]; simp; omega)⟩)
  rcases Nat.eq_zero_or_pos n with e | e
  · omega
  · obtain ⟨j, h1, h2, _⟩ := hidx (n - 1) (by omega)
    omega
theorem inv_leads (hn : A.length ≤ n) (hr : (joined [] A).length = n) : ∀ i, i < n → ld (nth (mkd n A n) i) = i := by
  have hR := joined_nil A
  have hlt := joined_lt .nil (by simp) hA
  have hE := mkd_ech n A n
  have hlen := mkd_len hA n
  have hfull := full_leads hR.1 hr hlt
  have hidx := ech_idx hE (n := n) (fun i hi => by
    have hsA : Sp A (nth (joined [] A) i) := (hR.2 _).1 (Sp.mem (nth_mem (by omega)))
    obtain ⟨k, hk, e⟩ := sp_tms hn hsA
    have hs := sp_all (A := A) hk
    rw [e] at hs
    have hne := nth_ne hR.1 (show i < (joined [] A).length by omega)
    have hbits : ∀ j, j < n → (nth (joined [] A) i ^^^ k * 2 ^ n).testBit j = (nth (joined [] A) i).testBit j := fun j hj => by
      rw [Nat.testBit_xor, high_bit hj, Bool.xor_false]
    have hlead : ld (nth (joined [] A) i ^^^ k * 2 ^ n) = i := ld_eq (by
      have := ld_bit hne
      rw [hfull i hi] at this
      rw [hbits i hi]; exact this) (fun j hj => by
      rw [hbits j (by omega)]
      exact ld_low hne (by rw [hfull i hi]; exact hj))
    obtain ⟨s, hm, e2⟩ := lead_row hE hs (ne_of_bit (l := i) (by
      have := ld_bit hne
      rw [hfull i hi] at this
      rw [hbits i hi]; exact this))
    exact ⟨s, hm, e2.trans hlead⟩)
  intro i hi
  obtain ⟨j, h1, h2, h3⟩ := hidx i hi
  have a := ech_le hE h1 h2
  have b := ech_ge hE i (by omega)
  omega
end
end Go.Proofs.YtfhalaohegdbhaaDoor
