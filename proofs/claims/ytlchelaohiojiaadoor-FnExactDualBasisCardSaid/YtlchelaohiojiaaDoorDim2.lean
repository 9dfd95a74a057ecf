/- Kernels of rows over two elements: the program's and the model's are the same. Pure, of no program. · The meet of two spaces, as the program and the model tell it. Pure, of no program. · The inverse of rows over two elements: the program's further columns and the model's search. Pure, of no program. · Dimensions of spans of rows over two elements: maps, kernels, columns, sums and meets. Pure, of no program. · The inverse of rows over two elements is one on both sides, and its inverse is what it is of; rows that are sums of others are told. Pure, of no program. -/
import Derived.Test.YtlchelaohiojiaaDoorColPure
namespace Go.Proofs.YtlchelaohiojiaaDoor
set_option linter.unusedVariables false

/-- Whether a number has an odd number of bits. -/
def par (x : Nat) : Bool := if h : x = 0 then false else (x % 2 == 1) ^^ par (x / 2)
termination_by x
decreasing_by omega
theorem par_zero : par 0 = false := by rw [par]; rfl
theorem par_half (x : Nat) : par x = ((x % 2 == 1) ^^ par (x / 2)) := by
  by_cases h : x = 0
  · subst h; rw [par_zero]; rfl
  · rw [par]; simp [h]
theorem par_xor : ∀ (x y : Nat), par (x ^^^ y) = (par x ^^ par y) := by
  intro x
  induction x using Nat.strongRecOn with
  | _ x ih =>
    intro y
    by_cases hx : x = 0
    · subst hx; rw [Nat.zero_xor, par_zero, Bool.false_xor]
    · have e1 : (x ^^^ y) / 2 = x / 2 ^^^ y / 2 := by
        apply Nat.eq_of_testBit_eq
        intro i
        rw [← Nat.testBit_succ, Nat.testBit_xor, Nat.testBit_xor, Nat.testBit_succ, Nat.testBit_succ]
      have e2 : ((x ^^^ y) % 2 == 1) = ((x % 2 == 1) ^^ (y % 2 == 1)) := by
        have e (n : Nat) : (n % 2 == 1) = n.testBit 0 := by rw [Nat.testBit_zero]; by_cases h : n % 2 = 1 <;> simp [h]
        rw [e, e, e, Nat.testBit_xor]
      rw [par_half (x ^^^ y), par_half x, par_half y, e1, ih (x / 2) (by omega), e2]
      cases (x % 2 == 1) <;> cases (y % 2 == 1) <;> cases par (x / 2) <;> cases par (y / 2) <;> rfl
theorem par_pow : ∀ k, par (2 ^ k) = true
  | 0 => by rw [par_half, Nat.pow_zero, show 1 / 2 = 0 from rfl, par_zero]; rfl
  | k + 1 => by
    rw [par_half, show 2 ^ (k + 1) / 2 = 2 ^ k by rw [Nat.pow_succ]; omega, par_pow k, show 2 ^ (k + 1) % 2 = 0 by rw [Nat.pow_succ]; omega]; rfl

/-- The product of two rows. -/
def prd (a b : Nat) : Bool := par (a &&& b)
theorem prd_xor (a x y : Nat) : prd a (x ^^^ y) = (prd a x ^^ prd a y) := by
  unfold prd
  rw [← par_xor]
  congr 1
  apply Nat.eq_of_testBit_eq
  intro i
  simp only [Nat.testBit_and, Nat.testBit_xor]
  cases a.testBit i <;> simp
theorem prd_comm (a b : Nat) : prd a b = prd b a := by unfold prd; rw [Nat.and_comm]
theorem prd_one (a b l : Nat) (h : ∀ j, j ≠ l → (a.testBit j && b.testBit j) = false) : prd a b = (a.testBit l && b.testBit l) := by
  unfold prd
  by_cases e : (a.testBit l && b.testBit l) = true
  · rw [e, show a &&& b = 2 ^ l from ?_, par_pow]
    apply Nat.eq_of_testBit_eq
    intro i
    rw [Nat.testBit_and, Nat.testBit_two_pow]
    by_cases hi : l = i
    · subst hi; simpa using e
    · rw [h i (Ne.symm hi)]; simp [hi]
  · rw [show a &&& b = 0 from ?_, par_zero]
    · simpa using e
    apply Nat.eq_of_testBit_eq
    intro i
    rw [Nat.testBit_and, Nat.zero_testBit]
    by_cases hi : i = l
    · subst hi; simpa using e
    · exact h i hi
theorem prd_pow (a l : Nat) : prd a (2 ^ l) = a.testBit l := by
  rw [prd_one a (2 ^ l) l (fun j hj => by rw [Nat.testBit_two_pow]; simp [Ne.symm hj]), Nat.testBit_two_pow]; simp
theorem prd_zero (a : Nat) : prd a 0 = false := by unfold prd; rw [Nat.and_zero, par_zero]

/-- The row of the kernel for a column. -/
def kr (e : List Nat) (col : Nat) : Nat := e.foldl (fun r s => if s.testBit col then r ^^^ 2 ^ ld s else r) (2 ^ col)
theorem kr_bit (col j : Nat) : ∀ (e : List Nat) (_ : ∀ s ∈ e, ld s ≠ j) (r : Nat), (e.foldl (fun r s => if s.testBit col then r ^^^ 2 ^ ld s else r) r).testBit j = r.testBit j
  | [], _, r => rfl
  | s :: e, h, r => by
    rw [List.foldl_cons, kr_bit col j e (fun t ht => h t (List.mem_cons_of_mem _ ht))]
    split
    · rw [Nat.testBit_xor, Nat.testBit_two_pow]; simp [h s (by simp)]
    · rfl
theorem kr_off (col s : Nat) : ∀ (e : List Nat) (_ : ∀ t ∈ e, s.testBit (ld t) = false) (r : Nat), prd s (e.foldl (fun r s => if s.testBit col then r ^^^ 2 ^ ld s else r) r) = prd s r
  | [], _, r => rfl
  | t :: e, h, r => by
    rw [List.foldl_cons, kr_off col s e (fun t ht => h t (List.mem_cons_of_mem _ ht))]
    split
    · rw [prd_xor, prd_pow, h t (by simp), Bool.xor_false]
    · rfl
theorem kr_on (col s : Nat) : ∀ (e : List Nat) (_ : Ech e) (_ : s ∈ e) (r : Nat), prd s (e.foldl (fun r s => if s.testBit col then r ^^^ 2 ^ ld s else r) r) = (prd s r ^^ s.testBit col)
  | t :: e, h, hs, r => by
    rw [List.foldl_cons]
    by_cases hm : s = t
    · subst hm
      rw [kr_off col s e (fun t ht => (h.head t ht).2)]
      by_cases hb : s.testBit col = true
      · rw [if_pos hb, prd_xor, prd_pow, ld_bit (h.ne s (by simp)), hb]
      · rw [if_neg hb]; simp [hb]
    · have hs' : s ∈ e := (List.mem_cons.1 hs).resolve_left hm
      rw [kr_on col s e h.tail hs']
      congr 1
      split
      · rw [prd_xor, prd_pow, ld_low (h.tail.ne s hs') (h.head s hs').1, Bool.xor_false]
      · rfl
theorem kr_prd {e : List Nat} (h : Ech e) (col s : Nat) (hs : s ∈ e) : prd s (kr e col) = false := by
  unfold kr; rw [kr_on col s e h hs, prd_pow]; simp
theorem kr_lt {c : Nat} {e : List Nat} (he : ∀ s ∈ e, s < 2 ^ c) (col : Nat) (hc : col < c) : kr e col < 2 ^ c := by
  have : ∀ (e : List Nat) (_ : ∀ s ∈ e, s < 2 ^ c) (r : Nat), r < 2 ^ c → e.foldl (fun r s => if s.testBit col then r ^^^ 2 ^ ld s else r) r < 2 ^ c := by
    intro e
    induction e with
    | nil => intro _ r hr; exact hr
    | cons s e ih =>
      intro he r hr
      rw [List.foldl_cons]
      refine ih (fun t ht => he t (List.mem_cons_of_mem _ ht)) _ ?_
      split
      · rename_i hb
        exact Nat.xor_lt_two_pow hr (Nat.pow_lt_pow_right (by omega) (ld_lt (he s (by simp)) (ne_of_bit hb)))
      · exact hr
  exact this e he _ (Nat.pow_lt_pow_right (by omega) hc)
/-- The rows of the kernel, one for each column. -/
def krs (c : Nat) (e : List Nat) : List Nat := (List.range c).map (kr e)

theorem krs_all {c : Nat} {e : List Nat} (h : Ech e) (he : ∀ s ∈ e, s < 2 ^ c) {x : Nat} (hx : x < 2 ^ c) (hk : ∀ s ∈ e, prd s x = false) : Sp (krs c e) x := by
  have step : ∀ n, n ≤ c → ∃ y, Sp (krs c e) (x ^^^ y) ∧ y < 2 ^ c ∧ (∀ s ∈ e, prd s y = false) ∧ ∀ j, j < n → (∀ s ∈ e, ld s ≠ j) → y.testBit j = false := by
    intro n
    induction n with
    | zero => intro _; exact ⟨x, by rw [Nat.xor_self]; exact Sp.zero _, hx, hk, fun j hj => by omega⟩
    | succ n ih =>
      intro hn
      obtain ⟨y, h1, h2, h3, h4⟩ := ih (by omega)
      by_cases hb : y.testBit n = true
      · by_cases hl : ∃ s ∈ e, ld s = n
        · refine ⟨y, h1, h2, h3, fun j hj hne => ?_⟩
          obtain ⟨s, hs, hsn⟩ := hl
          by_cases ej : j = n
          · subst ej; exact absurd hsn (hne s hs)
          · exact h4 j (by omega) hne
        · refine ⟨y ^^^ kr e n, ?_, Nat.xor_lt_two_pow h2 (kr_lt he n (by omega)), fun s hs => by rw [prd_xor, h3 s hs, kr_prd h n s hs]; rfl, fun j hj hne => ?_⟩
          · rw [← Nat.xor_assoc]
            exact h1.xor (Sp.mem (List.mem_map.2 ⟨n, List.mem_range.2 (by omega), rfl⟩))
          · rw [Nat.testBit_xor, kr, kr_bit n j e hne, Nat.testBit_two_pow]
            by_cases ej : j = n
            · subst ej; rw [hb]; simp
            · rw [h4 j (by omega) hne]; simp [Ne.symm ej]
      · refine ⟨y, h1, h2, h3, fun j hj hne => ?_⟩
        by_cases ej : j = n
        · subst ej; simpa using hb
        · exact h4 j (by omega) hne
  obtain ⟨y, h1, h2, h3, h4⟩ := step c (Nat.le_refl _)
  have hy : y = 0 := by
    refine zero_of_bits h2 (fun j hj => ?_)
    by_cases hl : ∃ s ∈ e, ld s = j
    · obtain ⟨s, hs, rfl⟩ := hl
      have := h3 s hs
      rw [prd_one s y (ld s), ld_bit (h.ne s hs)] at this
      · simpa using this
      · intro i hi
        by_cases hm : ∃ t ∈ e, ld t = i
        · obtain ⟨t, ht, rfl⟩ := hm
          have : s.testBit (ld t) = false := by
            rcases Nat.lt_trichotomy (ld t) (ld s) with e1 | e1 | e1
            · exact ld_low (h.ne s hs) e1
            · exact absurd e1 hi
            · obtain ⟨a, ha, rfl⟩ := List.getElem_of_mem hs
              obtain ⟨b, hb, rfl⟩ := List.getElem_of_mem ht
              have hp := List.pairwise_iff_getElem.1 h.pw
              rcases Nat.lt_trichotomy a b with q | q | q
              · exact (hp a b ha hb q).2
              · subst q; exact absurd rfl hi
              · have := (hp b a hb ha q).1; omega
          rw [this]; rfl
        · rcases Nat.lt_or_ge i c with q | q
          · rw [h4 i q (fun t ht e => hm ⟨t, ht, e⟩)]; simp
          · rw [Nat.testBit_lt_two_pow (Nat.lt_of_lt_of_le h2 (Nat.pow_le_pow_right (by omega) q))]; simp
    · exact h4 j hj (fun s hs e => hl ⟨s, hs, e⟩)
  rw [hy, Nat.xor_zero] at h1
  exact h1

/-- The program's kernel. -/
def kernel (c : Nat) (L : List Nat) : List Nat := joined [] (krs c (joined [] L))
/-- All rows whose products with rows are 0. -/
def anni (c : Nat) (L : List Nat) : List Nat := (List.range (2 ^ c)).filter (fun x => L.all (fun r => !prd r x))
theorem anni_mem {c : Nat} {L : List Nat} {x : Nat} : x ∈ anni c L ↔ x < 2 ^ c ∧ ∀ r ∈ L, prd r x = false := by
  simp [anni, List.mem_filter, List.all_eq_true]
theorem joined_nil (L : List Nat) : Ech (joined [] L) ∧ ∀ x, Sp (joined [] L) x ↔ Sp L x := joined_spec L Ech.nil
theorem kernel_span {c : Nat} {L : List Nat} (hL : ∀ r ∈ L, r < 2 ^ c) (x : Nat) : Sp (kernel c L) x ↔ x < 2 ^ c ∧ ∀ r ∈ L, prd r x = false := by
  obtain ⟨h1, h2⟩ := joined_nil L
  have hlt := joined_lt (c := c) Ech.nil (by simp) hL
  unfold kernel
  rw [(joined_nil _).2 x]
  have hbi : ∀ {M : List Nat} {x : Nat}, (∀ r ∈ M, prd r x = false) → ∀ {s}, Sp M s → prd s x = false := by
    intro M x hM s hs
    exact Sp.least (S := fun s => prd s x = false) (by rw [prd_comm, prd_zero]) (fun a b ha hb => by rw [prd_comm, prd_xor, prd_comm _ a, prd_comm _ b, ha, hb]; rfl) hM hs
  constructor
  · intro hx
    refine ⟨Sp.lt (fun r hr => ?_) hx, fun r hr => hbi (M := joined [] L) (fun s hs => ?_) ((h2 r).2 (Sp.mem hr))⟩
    · obtain ⟨col, hc, rfl⟩ := List.mem_map.1 hr
      exact kr_lt hlt col (List.mem_range.1 hc)
    · exact Sp.least (S := fun x => prd s x = false) (prd_zero s) (fun a b ha hb => by rw [prd_xor, ha, hb]; rfl) (fun r hr => by
        obtain ⟨col, hc, rfl⟩ := List.mem_map.1 hr
        exact kr_prd h1 col s hs) hx
  · rintro ⟨hx, hk⟩
    exact krs_all h1 hlt hx (fun s hs => hbi hk ((h2 s).1 (Sp.mem hs)))
theorem kernel_ech (c : Nat) (L : List Nat) : Ech (kernel c L) := (joined_nil _).1
theorem kernel_lt {c : Nat} {L : List Nat} (hL : ∀ r ∈ L, r < 2 ^ c) : ∀ r ∈ kernel c L, r < 2 ^ c := fun r hr => ((kernel_span hL r).1 (Sp.mem hr)).1
/-- The model's kernel is the program's. -/
theorem kernel_eq {c : Nat} {L : List Nat} (hL : ∀ r ∈ L, r < 2 ^ c) : (cols (anni c L) c).2 = kernel c L := by
  rw [cols_eq (c := c) (fun r hr => (anni_mem.1 hr).1)]
  refine Ech.unique (joined_nil _).1 (kernel_ech c L) (fun x => ?_)
  rw [(joined_nil _).2 x, kernel_span hL x]
  constructor
  · refine Sp.least (S := fun x => x < 2 ^ c ∧ ∀ r ∈ L, prd r x = false) ⟨Nat.two_pow_pos c, fun r _ => prd_zero r⟩ (fun a b ha hb => ⟨Nat.xor_lt_two_pow ha.1 hb.1, fun r hr => by rw [prd_xor, ha.2 r hr, hb.2 r hr]; rfl⟩) (fun r hr => anni_mem.1 hr)
  · exact fun h => Sp.mem (anni_mem.2 h)
end Go.Proofs.YtlchelaohiojiaaDoor
namespace Go.Proofs.YtlchelaohiojiaaDoor
set_option linter.unusedVariables false

/-- The rows whose products with all that either of them has it with are 0. -/
def meet (c : Nat) (L M : List Nat) : List Nat := kernel c (joined (kernel c L) (kernel c M))
theorem kernel_own (c : Nat) (L : List Nat) : joined [] (kernel c L) = kernel c L := by
  have h := joined_spec (kernel c L) Ech.nil
  exact Ech.unique h.1 (kernel_ech c L) (fun x => by rw [h.2]; exact Iff.rfl)
theorem meet_spec (c : Nat) (L M : List Nat) : kernel c (joined [] (kernel c L ++ kernel c M)) = meet c L M := by
  rw [joined_append, kernel_own]; rfl
end Go.Proofs.YtlchelaohiojiaaDoor
namespace Go.Proofs.YtlchelaohiojiaaDoor
set_option linter.unusedVariables false

/-- Rows with a further column each. -/
def mks (n : Nat) (A : List Nat) (k : Nat) : List Nat := (List.range k).map fun i => nth A i ^^^ 2 ^ (n + i)
theorem mks_succ (n : Nat) (A : List Nat) (k : Nat) : mks n A (k + 1) = mks n A k ++ [nth A k ^^^ 2 ^ (n + k)] := range_succ_map _ _
/-- The program's list of rows behind the first k. -/
def mkd (n : Nat) (A : List Nat) (k : Nat) : List Nat := joined [] (mks n A k)
theorem mkd_succ (n : Nat) (A : List Nat) (k : Nat) : mkd n A (k + 1) = add (mkd n A k) (nth A k ^^^ 2 ^ (n + k)) := by rw [mkd, mks_succ, joined_snoc]; rfl
theorem mkd_ech (n : Nat) (A : List Nat) (k : Nat) : Ech (mkd n A k) := (joined_nil _).1
theorem mk_lt {n k i : Nat} {A : List Nat} (hA : ∀ r ∈ A, r < 2 ^ n) (hi : i < k) : nth A i ^^^ 2 ^ (n + i) < 2 ^ (n + k) :=
  Nat.xor_lt_two_pow (Nat.lt_of_lt_of_le (nth_bound hA i) (Nat.pow_le_pow_right (by omega) (by omega))) (Nat.pow_lt_pow_right (by omega) (by omega))
theorem mks_lt {n : Nat} {A : List Nat} (hA : ∀ r ∈ A, r < 2 ^ n) (k : Nat) : ∀ r ∈ mks n A k, r < 2 ^ (n + k) := by
  intro r hr
  obtain ⟨i, hi, rfl⟩ := List.mem_map.1 hr
  exact mk_lt hA (List.mem_range.1 hi)
theorem mkd_lt {n : Nat} {A : List Nat} (hA : ∀ r ∈ A, r < 2 ^ n) (k : Nat) : ∀ r ∈ mkd n A k, r < 2 ^ (n + k) := joined_lt .nil (by simp) (mks_lt hA k)
theorem mkd_new {n : Nat} {A : List Nat} (hA : ∀ r ∈ A, r < 2 ^ n) (k : Nat) : rest (mkd n A k) (nth A k ^^^ 2 ^ (n + k)) ≠ 0 := by
  obtain ⟨_, y, hy, e, _⟩ := rest_spec (mkd_ech n A k) (nth A k ^^^ 2 ^ (n + k))
  have hyl : y < 2 ^ (n + k) := Sp.lt (mkd_lt hA k) hy
  rw [e]
  apply ne_of_bit (l := n + k)
  rw [Nat.testBit_xor, Nat.testBit_xor, Nat.testBit_two_pow_self, Nat.testBit_lt_two_pow hyl, Nat.testBit_lt_two_pow (Nat.lt_of_lt_of_le (nth_bound hA k) (Nat.pow_le_pow_right (by omega) (by omega)))]
  rfl
theorem mkd_len {n : Nat} {A : List Nat} (hA : ∀ r ∈ A, r < 2 ^ n) : ∀ k, (mkd n A k).length = k
  | 0 => rfl
  | k + 1 => by rw [mkd_succ, add_rest (mkd_new hA k), ins_len, mkd_len hA k]

theorem xlc (a b c : Nat) : a ^^^ (b ^^^ c) = b ^^^ (a ^^^ c) := by rw [← Nat.xor_assoc, Nat.xor_comm a b, Nat.xor_assoc]
theorem xlx (a b : Nat) : a ^^^ (a ^^^ b) = b := by rw [← Nat.xor_assoc, Nat.xor_self, Nat.zero_xor]
theorem tms_xor (A : List Nat) (a b : Nat) : ∀ k, tms (a ^^^ b) A k = tms a A k ^^^ tms b A k
  | 0 => by simp [tms]
  | k + 1 => by
    simp only [tms, tms_xor A a b k, Nat.testBit_xor]
    have e : tms a A k ^^^ tms b A k = tms a A k ^^^ nth A k ^^^ (tms b A k ^^^ nth A k) := by
      rw [Nat.xor_assoc, Nat.xor_comm (tms b A k) (nth A k), xlx]
    cases a.testBit k <;> cases b.testBit k
    · simp
    · simp [Nat.xor_assoc]
    · simp only [Bool.xor_false, if_true, Bool.false_eq_true, if_false]; rw [Nat.xor_assoc, Nat.xor_comm (tms b A k) (nth A k), ← Nat.xor_assoc]
    · simpa using e
theorem tms_pow (A : List Nat) (i : Nat) : ∀ k, tms (2 ^ i) A k = if i < k then nth A i else 0
  | 0 => by simp [tms]
  | k + 1 => by
    simp only [tms, tms_pow A i k, Nat.testBit_two_pow]
    by_cases h : i = k
    · subst h; simp
    · by_cases h2 : i < k
      · simp [h, h2]; omega
      · simp [h, h2]; omega
/-- What an element of the marked rows' sums tells: its low columns are the sum of the rows that its high ones tell. -/
def Tells (n : Nat) (A : List Nat) (v : Nat) : Prop := tms (v / 2 ^ n) A n = v % 2 ^ n
theorem tells_zero (n : Nat) (A : List Nat) : Tells n A 0 := by
  have h : ∀ k, tms 0 A k = 0 := fun k => by
    induction k with
    | zero => rfl
    | succ k ih => simp [tms, ih]
  simp [Tells, h]
theorem div_xor (x y n : Nat) : (x ^^^ y) / 2 ^ n = x / 2 ^ n ^^^ y / 2 ^ n := by
  rw [← Nat.shiftRight_eq_div_pow, ← Nat.shiftRight_eq_div_pow, ← Nat.shiftRight_eq_div_pow, Nat.shiftRight_xor_distrib]
theorem tells_xor {n : Nat} {A : List Nat} {x y : Nat} (h : Tells n A x) (k : Tells n A y) : Tells n A (x ^^^ y) := by
  unfold Tells at *
  rw [div_xor, tms_xor, h, k, Nat.xor_mod_two_pow]
theorem low_high {n r k : Nat} (hr : r < 2 ^ n) : (r ^^^ k * 2 ^ n) / 2 ^ n = k ∧ (r ^^^ k * 2 ^ n) % 2 ^ n = r := by
  have hp : 0 < 2 ^ n := Nat.two_pow_pos n
  constructor
  · rw [div_xor, Nat.div_eq_of_lt hr, Nat.zero_xor, Nat.mul_div_cancel _ hp]
  · rw [Nat.xor_mod_two_pow, Nat.mul_mod_left, Nat.xor_zero, Nat.mod_eq_of_lt hr]
theorem tells_mk {n : Nat} {A : List Nat} (hA : ∀ r ∈ A, r < 2 ^ n) {i : Nat} (hi : i < n) : Tells n A (nth A i ^^^ 2 ^ (n + i)) := by
  have e : 2 ^ (n + i) = 2 ^ i * 2 ^ n := by rw [Nat.pow_add, Nat.mul_comm]
  have := low_high (k := 2 ^ i) (nth_bound hA i)
  unfold Tells
  rw [e, this.1, this.2, tms_pow, if_pos hi]
theorem tells_sp {n : Nat} {A : List Nat} (hA : ∀ r ∈ A, r < 2 ^ n) {v : Nat} (h : Sp (mkd n A n) v) : Tells n A v := by
  have h2 := ((joined_nil (mks n A n)).2 v).1 h
  refine Sp.least (S := Tells n A) (tells_zero n A) (fun _ _ => tells_xor) (fun r hr => ?_) h2
  obtain ⟨i, hi, rfl⟩ := List.mem_map.1 hr
  exact tells_mk hA (List.mem_range.1 hi)
/-- Each number's rows, marked, are among the sums. -/
theorem sp_of (n : Nat) (A : List Nat) (k : Nat) : ∀ j, j ≤ n → Sp (mks n A n) (tms k A j ^^^ (k % 2 ^ j) * 2 ^ n)
  | 0, _ => by simp [tms, Nat.mod_one]; exact Sp.zero _
  | j + 1, hj => by
    have ih := sp_of n A k j (by omega)
    have hmem : nth A j ^^^ 2 ^ (n + j) ∈ mks n A n := List.mem_map.2 ⟨j, List.mem_range.2 (by omega), rfl⟩
    have hm : k % 2 ^ (j + 1) = k % 2 ^ j ^^^ (if k.testBit j then 2 ^ j else 0) := by
      apply Nat.eq_of_testBit_eq
      intro i
      rw [Nat.testBit_mod_two_pow, Nat.testBit_xor, Nat.testBit_mod_two_pow]
      by_cases e : i = j
      · subst e
        cases hb : k.testBit i <;> simp [Nat.testBit_two_pow_self]
      · have h1 : (if k.testBit j = true then 2 ^ j else 0).testBit i = false := by
          split
          · rw [Nat.testBit_two_pow]; simp; omega
          · simp
        rw [h1, Bool.xor_false]
        by_cases h2 : i < j
        · simp [h2]; omega
        · have : ¬ i < j + 1 := by omega
          simp [h2, this]
    by_cases hb : k.testBit j = true
    · have e : tms k A (j + 1) ^^^ (k % 2 ^ (j + 1)) * 2 ^ n = (tms k A j ^^^ (k % 2 ^ j) * 2 ^ n) ^^^ (nth A j ^^^ 2 ^ (n + j)) := by
        rw [hm, if_pos hb, tms, if_pos hb]
        have : (k % 2 ^ j ^^^ 2 ^ j) * 2 ^ n = (k % 2 ^ j) * 2 ^ n ^^^ 2 ^ (n + j) := by
          rw [← Nat.shiftLeft_eq, Nat.shiftLeft_xor_distrib, Nat.shiftLeft_eq, Nat.shiftLeft_eq, Nat.pow_add, Nat.mul_comm (2 ^ n)]
        rw [this]
        simp [Nat.xor_assoc, Nat.xor_comm, xlc]
      rw [e]
      exact ih.xor (Sp.mem hmem)
    · have hb' : k.testBit j = false := by simpa using hb
      rw [hm, tms, if_neg hb, hb']
      simpa using ih
theorem sp_all {n : Nat} {A : List Nat} {k : Nat} (hk : k < 2 ^ n) : Sp (mkd n A n) (tms k A n ^^^ k * 2 ^ n) := by
  have := sp_of n A k n (Nat.le_refl _)
  rw [Nat.mod_eq_of_lt hk] at this
  exact ((joined_nil (mks n A n)).2 _).2 this

theorem nth_of_mem {L : List Nat} {s : Nat} (h : s ∈ L) : ∃ j, j < L.length ∧ nth L j = s := by
  obtain ⟨j, hj, e⟩ := List.mem_iff_getElem.1 h
  exact ⟨j, hj, by simp [nth, hj, e]⟩
theorem ech_pw {R : List Nat} (h : Ech R) {i j : Nat} (hij : i < j) (hj : j < R.length) : ld (nth R i) < ld (nth R j) ∧ (nth R i).testBit (ld (nth R j)) = false := by
  have := List.pairwise_iff_getElem.1 h.pw i j (by omega) hj hij
  have e1 : nth R i = R[i] := by simp [nth, show i < R.length by omega]
  have e2 : nth R j = R[j] := by simp [nth, hj]
  rw [e1, e2]; exact this
theorem ech_le {R : List Nat} (h : Ech R) {i j : Nat} (hij : i ≤ j) (hj : j < R.length) : ld (nth R i) ≤ ld (nth R j) := by
  rcases Nat.lt_or_ge i j with e | e
  · exact Nat.le_of_lt (ech_pw h e hj).1
  · rw [show i = j by omega]; exact Nat.le_refl _
theorem ech_ge {R : List Nat} (h : Ech R) : ∀ i, i < R.length → i ≤ ld (nth R i)
  | 0, _ => Nat.zero_le _
  | i + 1, hi => by
    have := ech_ge h i (by omega)
    have := (ech_pw h (show i < i + 1 by omega) hi).1
    omega
theorem ech_idx {R : List Nat} (h : Ech R) {n : Nat} (hs : ∀ i, i < n → ∃ s ∈ R, ld s = i) : ∀ i, i < n → ∃ j, i ≤ j ∧ j < R.length ∧ ld (nth R j) = i
  | 0, h0 => by
    obtain ⟨s, hm, e⟩ := hs 0 h0
    obtain ⟨j, hj, rfl⟩ := nth_of_mem hm
    exact ⟨j, Nat.zero_le _, hj, e⟩
  | i + 1, hi => by
    obtain ⟨j0, h1, h2, h3⟩ := ech_idx h hs i (by omega)
    obtain ⟨s, hm, e⟩ := hs (i + 1) hi
    obtain ⟨j, hj, rfl⟩ := nth_of_mem hm
    refine ⟨j, ?_, hj, e⟩
    rcases Nat.lt_or_ge j0 j with k | k
    · omega
    · have := ech_le h k h2; omega
theorem lead_row : ∀ {R : List Nat}, Ech R → ∀ {v : Nat}, Sp R v → v ≠ 0 → ∃ s ∈ R, ld s = ld v
  | [], _, v, k, hv => by cases k; exact absurd rfl hv
  | r :: R, h, v, k, hv => by
    have h1 := h.lowest k hv
    by_cases e : ld r = ld v
    · exact ⟨r, by simp, e⟩
    · obtain ⟨s, hs, hl⟩ := lead_row h.tail (h.drop k (ld_low hv (by omega))) hv
      exact ⟨s, List.mem_cons_of_mem _ hs, hl⟩
theorem full_leads {R : List Nat} {n : Nat} (h : Ech R) (hl : R.length = n) (hR : ∀ s ∈ R, s < 2 ^ n) (i : Nat) (hi : i < n) : ld (nth R i) = i := by
  have down : ∀ d, d < n → ld (nth R (n - 1 - d)) ≤ n - 1 - d := by
    intro d
    induction d with
    | zero =>
      intro hd
      have := ld_lt (nth_bound hR (n - 1 - 0)) (nth_ne h (by omega))
      omega
    | succ d ih =>
      intro hd
      have a := ih (by omega)
      have b := (ech_pw h (show n - 1 - (d + 1) < n - 1 - d by omega) (by omega)).1
      omega
  have a := down (n - 1 - i) (by omega)
  rw [show n - 1 - (n - 1 - i) = i by omega] at a
  have b := ech_ge h i (by omega)
  omega
theorem tms_sp (A : List Nat) (k : Nat) : ∀ j, Sp A (tms k A j)
  | 0 => Sp.zero A
  | j + 1 => by
    simp only [tms]
    split
    · refine (tms_sp A k j).xor ?_
      by_cases h : j < A.length
      · exact Sp.mem (nth_mem h)
      · rw [nth_len (by omega)]; exact Sp.zero A
    · exact tms_sp A k j
theorem sp_tms {A : List Nat} {n : Nat} (hn : A.length ≤ n) {x : Nat} (h : Sp A x) : ∃ k, k < 2 ^ n ∧ tms k A n = x := by
  refine Sp.least (S := fun x => ∃ k, k < 2 ^ n ∧ tms k A n = x) ⟨0, Nat.two_pow_pos n, ?_⟩ ?_ ?_ h
  · have := tells_zero n A
    simpa [Tells] using this
  · rintro x y ⟨a, ha, rfl⟩ ⟨b, hb, rfl⟩
    exact ⟨a ^^^ b, Nat.xor_lt_two_pow ha hb, tms_xor A a b n⟩
  · intro r hr
    obtain ⟨i, hi, rfl⟩ := nth_of_mem hr
    exact ⟨2 ^ i, Nat.pow_lt_pow_right (by omega) (by omega), by rw [tms_pow, if_pos (by omega)]⟩
theorem low_bit {v n j : Nat} (hj : j < n) : (v % 2 ^ n).testBit j = v.testBit j := by rw [Nat.testBit_mod_two_pow]; simp [hj]
theorem high_bit {w n j : Nat} (hj : j < n) : (w * 2 ^ n).testBit j = false := by
  rw [← low_bit hj, Nat.mul_mod_left]; simp

section
variable {n : Nat} {A : List Nat} (hA : ∀ r ∈ A, r < 2 ^ n)
include hA
theorem inv_low (hl : ∀ i, i < n → ld (nth (mkd n A n) i) = i) {i : Nat} (hi : i < n) : nth (mkd n A n) i % 2 ^ n = 2 ^ i := by
  have hE := mkd_ech n A n
  have hlen := mkd_len hA n
  apply Nat.eq_of_testBit_eq
  intro j
  rw [Nat.testBit_mod_two_pow, Nat.testBit_two_pow]
  by_cases hj : j < n
  · rcases Nat.lt_trichotomy i j with h | h | h
    · have := (ech_pw hE h (by omega)).2
      rw [hl j hj] at this
      simp [this]; omega
    · subst h
      have := ld_bit (nth_ne hE (show i < (mkd n A n).length by omega))
      rw [hl i hi] at this
      simp [this, hj]
    · have := ld_low (nth_ne hE (show i < (mkd n A n).length by omega)) (show j < ld (nth (mkd n A n) i) by rw [hl i hi]; exact h)
      simp [this]; omega
  · simp [hj]; omega
theorem inv_tms (hl : ∀ i, i < n → ld (nth (mkd n A n) i) = i) {i : Nat} (hi : i < n) : tms (nth (mkd n A n) i / 2 ^ n) A n = 2 ^ i := by
  have h := tells_sp hA (Sp.mem (nth_mem (show i < (mkd n A n).length by rw [mkd_len hA]; exact hi)))
  unfold Tells at h
  rw [h, inv_low hA hl hi]
theorem invM_lt (i : Nat) : nth (mkd n A n) i / 2 ^ n < 2 ^ n := by
  have := nth_bound (mkd_lt hA n) i
  rw [Nat.pow_add] at this
  exact Nat.div_lt_of_lt_mul this
theorem inv_unique (hl : ∀ i, i < n → ld (nth (mkd n A n) i) = i) {i k : Nat} (hi : i < n) (hk : k < 2 ^ n) (h : tms k A n = 2 ^ i) : k = nth (mkd n A n) i / 2 ^ n := by
  have hw : k ^^^ nth (mkd n A n) i / 2 ^ n < 2 ^ n := Nat.xor_lt_two_pow hk (invM_lt hA i)
  have ht : tms (k ^^^ nth (mkd n A n) i / 2 ^ n) A n = 0 := by rw [tms_xor, h, inv_tms hA hl hi, Nat.xor_self]
  have hs := sp_all (A := A) hw
  rw [ht, Nat.zero_xor] at hs
  have hz := (mkd_ech n A n).zero hs (fun s hs => by
    obtain ⟨j, hj, rfl⟩ := nth_of_mem hs
    rw [mkd_len hA] at hj
    rw [hl j hj]; exact high_bit hj)
  have hz2 : k ^^^ nth (mkd n A n) i / 2 ^ n = 0 := by
    rcases Nat.mul_eq_zero.1 hz with e | e
    · exact e
    · exact absurd e (Nat.ne_of_gt (Nat.two_pow_pos n))
  have := xlx k (nth (mkd n A n) i / 2 ^ n)
  rw [hz2, Nat.xor_zero] at this
  exact this
theorem inv_rank (hl : ∀ i, i < n → ld (nth (mkd n A n) i) = i) : (joined [] A).length = n := by
  have hR := joined_nil A
  have hlt := joined_lt .nil (by simp) hA
  have hle := hR.1.len hlt
  have hidx := ech_idx hR.1 (n := n) (fun i hi => by
    have hs : Sp (joined [] A) (2 ^ i) := (hR.2 _).2 (by rw [← inv_tms hA hl hi]; exact tms_sp A _ n)
    obtain ⟨s, hm, e⟩ := lead_row hR.1 hs (Nat.ne_of_gt (Nat.two_pow_pos i))
    exact ⟨s, hm, by rw [e]; exact ld_eq (Nat.testBit_two_pow_self) (fun k hk => by rw [Nat.testBit_two_pow]; simp; omega)⟩)
  rcases Nat.eq_zero_or_pos n with e | e
  · omega
  · obtain ⟨j, h1, h2, _⟩ := hidx (n - 1) (by omega)
    omega
theorem inv_leads (hn : A.length ≤ n) (hr : (joined [] A).length = n) : ∀ i, i < n → ld (nth (mkd n A n) i) = i := by
  have hR := joined_nil A
  have hlt := joined_lt .nil (by simp) hA
  have hE := mkd_ech n A n
  have hlen := mkd_len hA n
  have hfull := full_leads hR.1 hr hlt
  have hidx := ech_idx hE (n := n) (fun i hi => by
    have hsA : Sp A (nth (joined [] A) i) := (hR.2 _).1 (Sp.mem (nth_mem (by omega)))
    obtain ⟨k, hk, e⟩ := sp_tms hn hsA
    have hs := sp_all (A := A) hk
    rw [e] at hs
    have hne := nth_ne hR.1 (show i < (joined [] A).length by omega)
    have hbits : ∀ j, j < n → (nth (joined [] A) i ^^^ k * 2 ^ n).testBit j = (nth (joined [] A) i).testBit j := fun j hj => by
      rw [Nat.testBit_xor, high_bit hj, Bool.xor_false]
    have hlead : ld (nth (joined [] A) i ^^^ k * 2 ^ n) = i := ld_eq (by
      have := ld_bit hne
      rw [hfull i hi] at this
      rw [hbits i hi]; exact this) (fun j hj => by
      rw [hbits j (by omega)]
      exact ld_low hne (by rw [hfull i hi]; exact hj))
    obtain ⟨s, hm, e2⟩ := lead_row hE hs (ne_of_bit (l := i) (by
      have := ld_bit hne
      rw [hfull i hi] at this
      rw [hbits i hi]; exact this))
    exact ⟨s, hm, e2.trans hlead⟩)
  intro i hi
  obtain ⟨j, h1, h2, h3⟩ := hidx i hi
  have a := ech_le hE h1 h2
  have b := ech_ge hE i (by omega)
  omega
end
end Go.Proofs.YtlchelaohiojiaaDoor
namespace Go.Proofs.YtlchelaohiojiaaDoor
set_option linter.unusedVariables false

/-- The dimension of the sums of some rows. -/
def dm (L : List Nat) : Nat := (joined [] L).length
theorem sp_same {L M : List Nat} (h : ∀ x, Sp L x ↔ Sp M x) : joined [] L = joined [] M :=
  Ech.unique (joined_nil L).1 (joined_nil M).1 fun x => ((joined_nil L).2 x).trans ((h x).trans ((joined_nil M).2 x).symm)
theorem dm_same {L M : List Nat} (h : ∀ x, Sp L x ↔ Sp M x) : dm L = dm M := by rw [dm, sp_same h]; rfl
theorem sp_app {L M : List Nat} {x : Nat} : Sp (L ++ M) x ↔ ∃ y z, Sp L y ∧ Sp M z ∧ x = y ^^^ z := by
  constructor
  · intro h
    refine Sp.least (S := fun x => ∃ y z, Sp L y ∧ Sp M z ∧ x = y ^^^ z) ⟨0, 0, Sp.zero _, Sp.zero _, by simp⟩ ?_ (fun r hr => ?_) h
    · rintro a b ⟨y, z, h1, h2, rfl⟩ ⟨y', z', h3, h4, rfl⟩
      exact ⟨y ^^^ y', z ^^^ z', h1.xor h3, h2.xor h4, by simp only [Nat.xor_assoc]; rw [xlc z y' z']⟩
    · rcases List.mem_append.1 hr with h | h
      · exact ⟨r, 0, Sp.mem h, Sp.zero _, by simp⟩
      · exact ⟨0, r, Sp.zero _, Sp.mem h, by simp⟩
  · rintro ⟨y, z, h1, h2, rfl⟩
    exact (Sp.sub (fun r hr => Sp.mem (List.mem_append_left _ hr)) h1).xor (Sp.sub (fun r hr => Sp.mem (List.mem_append_right _ hr)) h2)
theorem sp_cons {L : List Nat} {r x : Nat} : Sp (r :: L) x ↔ Sp L x ∨ Sp L (r ^^^ x) := by
  constructor
  · intro h
    cases h with
    | skip _ h => exact .inl h
    | take _ h => exact .inr (by rw [xlx]; exact h)
  · rintro (h | h)
    · exact .skip r h
    · have := Sp.take r h; rwa [xlx] at this
theorem sp_tail {L : List Nat} {r : Nat} (x : Nat) : Sp (r :: L) x ↔ Sp (L ++ [r]) x :=
  ⟨Sp.sub fun s hs => Sp.mem (by simp at hs ⊢; rcases hs with h | h <;> simp [h]), Sp.sub fun s hs => Sp.mem (by simp at hs ⊢; rcases hs with h | h <;> simp [h])⟩
theorem dm_in {L : List Nat} {r : Nat} (h : Sp L r) : dm (r :: L) = dm L :=
  dm_same fun x => ⟨Sp.sub fun s hs => by rcases List.mem_cons.1 hs with rfl | hs; exact h; exact Sp.mem hs, fun k => .skip r k⟩
theorem dm_out {L : List Nat} {r : Nat} (h : ¬ Sp L r) : dm (r :: L) = dm L + 1 := by
  have e : dm (r :: L) = (add (joined [] L) r).length := by rw [dm_same sp_tail, dm, joined_snoc]
  rw [e]
  rcases add_or (joined [] L) r with h1 | h1
  · exfalso
    have h2 := ((add_spec (joined_nil L).1 r).2 r).2 (Sp.mem (by simp))
    rw [h1] at h2
    exact h (((joined_nil L).2 r).1 h2)
  · exact h1
theorem dm_le (L M : List Nat) (h : ∀ x, Sp L x → Sp M x) : dm L ≤ dm M := by
  have e : joined [] M = joined (joined [] L) M := by
    rw [← joined_append]
    exact sp_same fun x => ⟨fun k => Sp.sub (fun s hs => Sp.mem (by simp [hs])) k, Sp.sub fun s hs => by rcases List.mem_append.1 hs with hs | hs; exact h s (Sp.mem hs); exact Sp.mem hs⟩
  have := joined_ge M (joined [] L)
  rw [dm, dm, e]; exact this
theorem dm_eq (L M : List Nat) (h : ∀ x, Sp L x → Sp M x) (hd : dm L = dm M) : joined [] L = joined [] M := by
  have e : joined [] M = joined (joined [] L) M := by
    rw [← joined_append]
    exact sp_same fun x => ⟨fun k => Sp.sub (fun s hs => Sp.mem (by simp [hs])) k, Sp.sub fun s hs => by rcases List.mem_append.1 hs with hs | hs; exact h s (Sp.mem hs); exact Sp.mem hs⟩
  rw [dm, dm, e] at hd
  rw [e, joined_same M (joined [] L) hd.symm]
theorem dm_len : ∀ L : List Nat, dm L ≤ L.length
  | [] => Nat.le_refl _
  | r :: L => by
    have ih := dm_len L
    by_cases h : Sp L r
    · rw [dm_in h]; simp; omega
    · rw [dm_out h]; simp; omega
theorem dm_app : ∀ (L M : List Nat), dm (L ++ M) ≤ dm L + dm M
  | [], M => by simp
  | r :: L, M => by
    have ih := dm_app L M
    by_cases h : Sp L r
    · rw [dm_in h, List.cons_append, dm_in (Sp.sub (fun s hs => Sp.mem (List.mem_append_left _ hs)) h)]; exact ih
    · rw [dm_out h]
      by_cases h2 : Sp (L ++ M) r
      · rw [List.cons_append, dm_in h2]; omega
      · rw [List.cons_append, dm_out h2]; omega

theorem sp_map {f : Nat → Nat} (hf : ∀ x y, f (x ^^^ y) = f x ^^^ f y) {L : List Nat} {y : Nat} : Sp (L.map f) y ↔ ∃ x, Sp L x ∧ f x = y := by
  have f0 : f 0 = 0 := by have := hf 0 0; simpa using this
  constructor
  · intro h
    refine Sp.least (S := fun y => ∃ x, Sp L x ∧ f x = y) ⟨0, Sp.zero _, f0⟩ ?_ (fun r hr => ?_) h
    · rintro a b ⟨x, h1, rfl⟩ ⟨x', h2, rfl⟩
      exact ⟨x ^^^ x', h1.xor h2, hf _ _⟩
    · obtain ⟨s, hs, rfl⟩ := List.mem_map.1 hr
      exact ⟨s, Sp.mem hs, rfl⟩
  · rintro ⟨x, h, rfl⟩
    refine Sp.least (S := fun x => Sp (L.map f) (f x)) (by rw [f0]; exact Sp.zero _) (fun a b h1 h2 => by rw [hf]; exact h1.xor h2) (fun r hr => Sp.mem (List.mem_map.2 ⟨r, hr, rfl⟩)) h

/-- The dimension of a span is that of the image and that of what a map takes to 0. -/
theorem dm_map {f : Nat → Nat} (hf : ∀ x y, f (x ^^^ y) = f x ^^^ f y) : ∀ U : List Nat, ∃ N : List Nat, (∀ x, Sp N x ↔ Sp U x ∧ f x = 0) ∧ dm U = dm N + dm (U.map f)
  | [] => ⟨[], fun x => ⟨fun h => ⟨h, by cases h; have := hf 0 0; simpa using this⟩, fun h => h.1⟩, rfl⟩
  | r :: U => by
    obtain ⟨N, hN, hd⟩ := dm_map hf U
    have canc : ∀ a b : Nat, a ^^^ b = 0 → a = b := fun a b h => by have := congrArg (· ^^^ b) h; simpa [Nat.xor_assoc] using this
    by_cases h : Sp (U.map f) (f r)
    · obtain ⟨u, hu, he⟩ := (sp_map hf).1 h
      have hfz : f (r ^^^ u) = 0 := by rw [hf, he, Nat.xor_self]
      refine ⟨(r ^^^ u) :: N, fun x => ?_, ?_⟩
      · constructor
        · intro k
          rcases sp_cons.1 k with k | k
          · exact ⟨.skip r ((hN x).1 k).1, ((hN x).1 k).2⟩
          · obtain ⟨k1, k2⟩ := (hN _).1 k
            have e : f x = 0 := by rw [hf, hfz, Nat.zero_xor] at k2; exact k2
            have : Sp U (r ^^^ x) := by
              have := k1.xor hu
              rwa [show (r ^^^ u ^^^ x) ^^^ u = r ^^^ x by rw [Nat.xor_assoc r u x, Nat.xor_assoc, Nat.xor_comm (u ^^^ x) u, xlx]] at this
            exact ⟨sp_cons.2 (.inr this), e⟩
        · rintro ⟨k, e⟩
          rcases sp_cons.1 k with k | k
          · exact .skip _ ((hN x).2 ⟨k, e⟩)
          · refine sp_cons.2 (.inr ((hN _).2 ⟨?_, by rw [hf, hfz, e]; rfl⟩))
            have := k.xor hu
            rwa [show (r ^^^ x) ^^^ u = r ^^^ u ^^^ x by rw [Nat.xor_assoc, Nat.xor_comm x u, Nat.xor_assoc]] at this
      · rw [List.map_cons, dm_in h]
        by_cases hr : Sp U r
        · rw [dm_in hr, dm_in ((hN _).2 ⟨hr.xor hu, hfz⟩)]; exact hd
        · have : ¬ Sp N (r ^^^ u) := fun k => hr (by have := ((hN _).1 k).1.xor hu; rwa [Nat.xor_assoc, Nat.xor_self, Nat.xor_zero] at this)
          rw [dm_out hr, dm_out this]; omega
    · have hr : ¬ Sp U r := fun k => h ((sp_map hf).2 ⟨r, k, rfl⟩)
      refine ⟨N, fun x => ?_, ?_⟩
      · constructor
        · intro k; exact ⟨.skip r ((hN x).1 k).1, ((hN x).1 k).2⟩
        · rintro ⟨k, e⟩
          rcases sp_cons.1 k with k | k
          · exact (hN x).2 ⟨k, e⟩
          · exact absurd ((sp_map hf).2 ⟨r ^^^ x, k, by rw [hf, e, Nat.xor_zero]⟩) h
      · rw [List.map_cons, dm_out h, dm_out hr]; omega
theorem dm_image {f : Nat → Nat} (hf : ∀ x y, f (x ^^^ y) = f x ^^^ f y) (U : List Nat) : dm (U.map f) ≤ dm U := by
  obtain ⟨N, _, h⟩ := dm_map hf U; omega

/-- The rows with one 1 each. -/
def units (c : Nat) : List Nat := (List.range c).map (2 ^ ·)
theorem sp_units : ∀ c x, Sp (units c) x ↔ x < 2 ^ c
  | 0, x => by
    constructor
    · intro h; cases h; simp
    · intro h; have : x = 0 := by simpa using h
      subst this; exact Sp.zero _
  | c + 1, x => by
    have e : units (c + 1) = units c ++ [2 ^ c] := range_succ_map _ _
    rw [e]
    constructor
    · refine fun h => Sp.lt (fun r hr => ?_) h
      rcases List.mem_append.1 hr with hr | hr
      · exact Nat.lt_trans ((sp_units c r).1 (Sp.mem hr)) (Nat.pow_lt_pow_right (by omega) (by omega))
      · simp at hr; subst hr; exact Nat.pow_lt_pow_right (by omega) (by omega)
    · intro h
      rw [← sp_tail, sp_cons]
      by_cases hx : x < 2 ^ c
      · exact .inl ((sp_units c x).2 hx)
      · refine .inr ((sp_units c _).2 ?_)
        have hxc : x.testBit c = true := by
          rw [Nat.testBit_eq_decide_div_mod_eq]
          have : x / 2 ^ c = 1 := Nat.div_eq_of_lt_le (by omega) (by rw [Nat.pow_succ] at h; omega)
          simp [this]
        refine Nat.lt_pow_two_of_testBit _ fun i hi => ?_
        rw [Nat.testBit_xor, Nat.testBit_two_pow]
        by_cases e : i = c
        · subst e; simp [hxc]
        · rw [Nat.testBit_lt_two_pow (Nat.lt_of_lt_of_le h (Nat.pow_le_pow_right (by omega) (by omega)))]
          simp; omega
theorem units_ech (c : Nat) : Ech (units c) := by
  refine ⟨fun s hs => ?_, ?_⟩
  · obtain ⟨i, _, rfl⟩ := List.mem_map.1 hs
    exact Nat.ne_of_gt (Nat.two_pow_pos i)
  · rw [units, List.pairwise_map]
    refine List.pairwise_lt_range.imp fun {a b} hab => ?_
    have e : ∀ i, ld (2 ^ i) = i := fun i => ld_eq (by simp) (fun k hk => by rw [Nat.testBit_two_pow]; simp; omega)
    rw [e, e, Nat.testBit_two_pow]
    exact ⟨hab, by simp; omega⟩
theorem dm_units (c : Nat) : dm (units c) = c := by
  have : joined [] (units c) = units c := Ech.unique (joined_nil _).1 (units_ech c) (joined_nil _).2
  rw [dm, this]; simp [units]
theorem dm_lt {c : Nat} {L : List Nat} (h : ∀ r ∈ L, r < 2 ^ c) : dm L ≤ c := by
  rw [← dm_units c]
  exact dm_le _ _ fun x hx => (sp_units c x).2 (Sp.lt h hx)

/-- The products of a row with some rows, as a number. -/
def prs (L : List Nat) (x : Nat) : Nat → Nat
  | 0 => 0
  | k + 1 => if prd (nth L k) x then prs L x k ^^^ 2 ^ k else prs L x k
theorem prs_lt (L : List Nat) (x : Nat) : ∀ k, prs L x k < 2 ^ k
  | 0 => by simp [prs]
  | k + 1 => by
    have := prs_lt L x k
    have h1 : 2 ^ k < 2 ^ (k + 1) := Nat.pow_lt_pow_right (by omega) (by omega)
    simp only [prs]
    split
    · exact Nat.xor_lt_two_pow (by omega) h1
    · omega
theorem prs_bit (L : List Nat) (x : Nat) : ∀ k i, (prs L x k).testBit i = (decide (i < k) && prd (nth L i) x)
  | 0, i => by simp [prs]
  | k + 1, i => by
    have ih := prs_bit L x k i
    simp only [prs]
    by_cases e : i = k
    · subst e
      have h0 : (prs L x i).testBit i = false := Nat.testBit_lt_two_pow (prs_lt L x i)
      split
      · rename_i h; rw [Nat.testBit_xor, h0, Nat.testBit_two_pow]; simp [h]
      · rename_i h; rw [h0]; simp [h]
    · have e2 : decide (i < k + 1) = decide (i < k) := by simp; omega
      split
      · rw [Nat.testBit_xor, ih, Nat.testBit_two_pow, e2]; simp [show ¬ k = i by omega]
      · rw [ih, e2]
theorem prs_xor (L : List Nat) (k x y : Nat) : prs L (x ^^^ y) k = prs L x k ^^^ prs L y k := by
  apply Nat.eq_of_testBit_eq
  intro i
  rw [Nat.testBit_xor, prs_bit, prs_bit, prs_bit, prd_xor]
  cases decide (i < k) <;> simp
theorem prs_zero (L : List Nat) (x : Nat) : prs L x L.length = 0 ↔ ∀ r ∈ L, prd r x = false := by
  constructor
  · intro h r hr
    obtain ⟨j, hj, rfl⟩ := nth_of_mem hr
    have := prs_bit L x L.length j
    rw [h] at this; simpa [hj] using this.symm
  · intro h
    apply Nat.eq_of_testBit_eq
    intro i
    rw [prs_bit]
    by_cases hi : i < L.length
    · rw [h _ (nth_mem hi)]; simp
    · simp [hi]
theorem colm_prs (L : List Nat) (c : Nat) : ∀ k, colm L c k = prs L (2 ^ c) k
  | 0 => rfl
  | k + 1 => by simp only [colm, prs, prd_pow, colm_prs L c k]
/-- The columns of rows, as rows. -/
def tns (L : List Nat) (c : Nat) : List Nat := (List.range c).map fun k => colm L k L.length
theorem tns_map (L : List Nat) (c : Nat) : tns L c = (units c).map fun x => prs L x L.length := by
  rw [tns, units, List.map_map]
  exact List.map_congr_left fun k _ => colm_prs L k L.length
theorem tns_len (L : List Nat) (c : Nat) : (tns L c).length = c := by simp [tns]
theorem tns_lt (L : List Nat) (c : Nat) : ∀ r ∈ tns L c, r < 2 ^ L.length := by
  intro r hr
  obtain ⟨i, _, rfl⟩ := List.mem_map.1 hr
  exact colm_lt _ _ _
theorem range_nth {f : Nat → Nat} {k i : Nat} (hi : i < k) : nth ((List.range k).map f) i = f i := by
  rw [nth, List.getD_eq_getElem?_getD, List.getElem?_map, List.getElem?_range hi]; rfl
theorem colm_bit (L : List Nat) (c k i : Nat) : (colm L c k).testBit i = (decide (i < k) && (nth L i).testBit c) := by
  rw [colm_prs, prs_bit, prd_pow]
theorem list_nth {L M : List Nat} (hl : L.length = M.length) (h : ∀ j, j < L.length → nth L j = nth M j) : L = M := by
  refine List.ext_getElem hl fun j h1 h2 => ?_
  have := h j h1
  simpa [nth, h1, h2] using this
theorem tns_tns {L : List Nat} {c : Nat} (hL : ∀ r ∈ L, r < 2 ^ c) : tns (tns L c) L.length = L := by
  refine list_nth (by rw [tns_len]) fun j hj => ?_
  rw [tns_len] at hj
  rw [show tns (tns L c) L.length = (List.range L.length).map fun k => colm (tns L c) k (tns L c).length from rfl, range_nth hj, tns_len]
  apply Nat.eq_of_testBit_eq
  intro i
  rw [colm_bit]
  by_cases hi : i < c
  · rw [show nth (tns L c) i = colm L i L.length from range_nth hi, colm_bit]; simp [hi, hj]
  · have : (nth L j).testBit i = false := Nat.testBit_lt_two_pow (Nat.lt_of_lt_of_le (nth_bound hL j) (Nat.pow_le_pow_right (by omega) (by omega)))
    simp [hi, this]

theorem kernel_dm {c : Nat} {L : List Nat} (hL : ∀ r ∈ L, r < 2 ^ c) : (kernel c L).length + dm (tns L c) = c := by
  obtain ⟨N, hN, hd⟩ := dm_map (f := fun x => prs L x L.length) (fun x y => prs_xor L _ x y) (units c)
  rw [dm_units, ← tns_map] at hd
  have e : joined [] N = kernel c L := by
    refine Ech.unique (joined_nil N).1 (kernel_ech c L) fun x => ?_
    rw [(joined_nil N).2, hN, sp_units, kernel_span hL, prs_zero]
  have : dm N = (kernel c L).length := by rw [dm, e]
  omega
theorem kernel_same {c : Nat} {L M : List Nat} (hL : ∀ r ∈ L, r < 2 ^ c) (hM : ∀ r ∈ M, r < 2 ^ c) (h : ∀ x, Sp L x ↔ Sp M x) : kernel c L = kernel c M := by
  refine Ech.unique (kernel_ech c L) (kernel_ech c M) fun x => ?_
  rw [kernel_span hL, kernel_span hM]
  have one : ∀ {A B : List Nat}, (∀ x, Sp A x → Sp B x) → (∀ r ∈ B, prd r x = false) → ∀ r ∈ A, prd r x = false := fun {A B} hs hb r hr =>
    Sp.least (S := fun y => prd y x = false) (by rw [prd_comm, prd_zero]) (fun a b h1 h2 => by rw [prd_comm, prd_xor, prd_comm x a, prd_comm x b, h1, h2]; rfl) hb (hs r (Sp.mem hr))
  exact ⟨fun ⟨h1, h2⟩ => ⟨h1, one (fun x hx => (h x).2 hx) h2⟩, fun ⟨h1, h2⟩ => ⟨h1, one (fun x hx => (h x).1 hx) h2⟩⟩
theorem joined_lt' {c : Nat} {L : List Nat} (hL : ∀ r ∈ L, r < 2 ^ c) : ∀ r ∈ joined [] L, r < 2 ^ c := joined_lt .nil (by simp) hL
/-- The rank of the columns is no greater than that of the rows. -/
theorem tns_le {c : Nat} {L : List Nat} (hL : ∀ r ∈ L, r < 2 ^ c) : dm (tns L c) ≤ dm L := by
  have h1 := kernel_dm hL
  have h2 := kernel_dm (joined_lt' hL)
  rw [kernel_same (joined_lt' hL) hL (joined_nil L).2] at h2
  have h3 := dm_lt (tns_lt (joined [] L) c)
  unfold dm at *
  omega
theorem dm_tns {c : Nat} {L : List Nat} (hL : ∀ r ∈ L, r < 2 ^ c) : dm (tns L c) = dm L := by
  have h1 := tns_le hL
  have h2 := tns_le (c := L.length) (tns_lt L c)
  rw [tns_tns hL] at h2
  omega
theorem kernel_rank {c : Nat} {L : List Nat} (hL : ∀ r ∈ L, r < 2 ^ c) : (kernel c L).length + dm L = c := by
  rw [← dm_tns hL]; exact kernel_dm hL
theorem kernel_kernel {c : Nat} {L : List Nat} (hL : ∀ r ∈ L, r < 2 ^ c) : kernel c (kernel c L) = joined [] L := by
  have h1 := kernel_rank hL
  have h2 := kernel_rank (kernel_lt hL)
  have e : dm (kernel c L) = (kernel c L).length := by rw [dm, kernel_own]
  have hs : ∀ x, Sp L x → Sp (kernel c (kernel c L)) x := fun x hx => by
    rw [kernel_span (kernel_lt hL)]
    refine ⟨Sp.lt hL hx, fun r hr => ?_⟩
    have := ((kernel_span hL r).1 (Sp.mem hr)).2
    exact Sp.least (S := fun y => prd r y = false) (prd_zero r) (fun a b h1 h2 => by rw [prd_xor, h1, h2]; rfl) (fun s hs => by rw [prd_comm]; exact this s hs) hx
  have h3 : dm (kernel c (kernel c L)) = (kernel c (kernel c L)).length := by rw [dm, kernel_own]
  have := dm_eq _ _ hs (by omega)
  rw [this, kernel_own]

/-- Sums and what is in both. -/
theorem dm_both {c : Nat} {A B M : List Nat} (hA : ∀ r ∈ A, r < 2 ^ c) (hB : ∀ r ∈ B, r < 2 ^ c) (h : ∀ x, Sp M x ↔ Sp A x ∧ Sp B x) : dm (A ++ B) + dm M = dm A + dm B := by
  have hf : ∀ x, x < 2 ^ c → (prs (kernel c B) x (kernel c B).length = 0 ↔ Sp B x) := fun x hx => by
    rw [prs_zero, ← (joined_nil B).2, ← kernel_kernel hB, kernel_span (kernel_lt hB)]
    exact ⟨fun h => ⟨hx, h⟩, fun h => h.2⟩
  have hl := fun x y => prs_xor (kernel c B) (kernel c B).length x y
  obtain ⟨N, hN, h1⟩ := dm_map (f := fun x => prs (kernel c B) x (kernel c B).length) hl A
  obtain ⟨N2, hN2, h2⟩ := dm_map (f := fun x => prs (kernel c B) x (kernel c B).length) hl (A ++ B)
  have e1 : dm N = dm M := dm_same fun x => by
    rw [hN, h]
    exact ⟨fun k => ⟨k.1, (hf x (Sp.lt hA k.1)).1 k.2⟩, fun k => ⟨k.1, (hf x (Sp.lt hA k.1)).2 k.2⟩⟩
  have e2 : dm N2 = dm B := dm_same fun x => by
    rw [hN2]
    refine ⟨fun k => ?_, fun k => ⟨Sp.sub (fun s hs => Sp.mem (List.mem_append_right _ hs)) k, (hf x (Sp.lt hB k)).2 k⟩⟩
    have hx : x < 2 ^ c := Sp.lt (fun r hr => by rcases List.mem_append.1 hr with hr | hr; exact hA r hr; exact hB r hr) k.1
    exact (hf x hx).1 k.2
  have e3 : dm ((A ++ B).map fun x => prs (kernel c B) x (kernel c B).length) = dm (A.map fun x => prs (kernel c B) x (kernel c B).length) := dm_same fun x => by
    rw [sp_map (f := fun x => prs (kernel c B) x (kernel c B).length) hl, sp_map (f := fun x => prs (kernel c B) x (kernel c B).length) hl]
    constructor
    · rintro ⟨y, hy, rfl⟩
      obtain ⟨a, b, h1, h2, rfl⟩ := sp_app.1 hy
      exact ⟨a, h1, by show prs _ a _ = prs _ (a ^^^ b) _; rw [hl, (hf b (Sp.lt hB h2)).2 h2, Nat.xor_zero]⟩
    · rintro ⟨y, hy, rfl⟩
      exact ⟨y, Sp.sub (fun s hs => Sp.mem (List.mem_append_left _ hs)) hy, rfl⟩
  omega
theorem dm_sub {c : Nat} {A B V : List Nat} (hA : ∀ r ∈ A, r < 2 ^ c) (hB : ∀ r ∈ B, r < 2 ^ c) (h : ∀ x, Sp V x → Sp A x ∧ Sp B x) : dm (A ++ B) + dm V ≤ dm A + dm B := by
  have hp : ∃ M, ∀ x, Sp M x ↔ Sp A x ∧ Sp B x := by
    obtain ⟨N, hN, _⟩ := dm_map (f := fun x => prs (kernel c B) x (kernel c B).length) (fun x y => prs_xor (kernel c B) (kernel c B).length x y) A
    refine ⟨N, fun x => ?_⟩
    rw [hN, prs_zero, ← (joined_nil B).2, ← kernel_kernel hB, kernel_span (kernel_lt hB)]
    exact ⟨fun k => ⟨k.1, Sp.lt hA k.1, k.2⟩, fun k => ⟨k.1, k.2.2⟩⟩
  obtain ⟨M, hM⟩ := hp
  have h1 := dm_both hA hB hM
  have h2 := dm_le V M fun x hx => (hM x).2 (h x hx)
  omega

/-- Rows that are in echelon form. -/
structure Spc (c : Nat) (L : List Nat) : Prop where
  lt : ∀ r ∈ L, r < 2 ^ c
  own : joined [] L = L
theorem Spc.dm {c : Nat} {L : List Nat} (h : Spc c L) : dm L = L.length := by rw [Go.Proofs.YtlchelaohiojiaaDoor.dm, h.own]
theorem Spc.ech {c : Nat} {L : List Nat} (h : Spc c L) : Ech L := by have := (joined_nil L).1; rwa [h.own] at this
theorem Spc.of {c : Nat} {L : List Nat} (hL : ∀ r ∈ L, r < 2 ^ c) (h : Ech L) : Spc c L := ⟨hL, Ech.unique (joined_nil L).1 h (joined_nil L).2⟩
theorem Spc.kernel {c : Nat} {L : List Nat} (h : ∀ r ∈ L, r < 2 ^ c) : Spc c (kernel c L) := .of (kernel_lt h) (kernel_ech c L)
theorem Spc.kk {c : Nat} {L : List Nat} (h : Spc c L) : Go.Proofs.YtlchelaohiojiaaDoor.kernel c (Go.Proofs.YtlchelaohiojiaaDoor.kernel c L) = L := by rw [kernel_kernel h.lt, h.own]
theorem joined_lt2 {c : Nat} {L M : List Nat} (h : Spc c L) (k : ∀ r ∈ M, r < 2 ^ c) : ∀ r ∈ joined L M, r < 2 ^ c := joined_lt h.ech h.lt k
theorem Spc.sum {c : Nat} {L M : List Nat} (h : Spc c L) (k : Spc c M) : Spc c (joined L M) := .of (joined_lt h.ech h.lt k.lt) (joined_spec M h.ech).1
theorem Spc.sumS {c : Nat} {L M : List Nat} (h : Spc c L) : ∀ x, Sp (joined L M) x ↔ Sp (L ++ M) x := (joined_spec M h.ech).2
theorem Spc.sumL {c : Nat} {L M : List Nat} (h : Spc c L) (k : Spc c M) : (joined L M).length = Go.Proofs.YtlchelaohiojiaaDoor.dm (L ++ M) := by rw [← (h.sum k).dm]; exact dm_same h.sumS
theorem Spc.meet {c : Nat} {L M : List Nat} (h : Spc c L) (k : Spc c M) : Spc c (meet c L M) := Spc.kernel (joined_lt2 (Spc.kernel h.lt) (kernel_lt k.lt))
theorem Spc.meetS {c : Nat} {L M : List Nat} (h : Spc c L) (k : Spc c M) (x : Nat) : Sp (Go.Proofs.YtlchelaohiojiaaDoor.meet c L M) x ↔ Sp L x ∧ Sp M x := by
  have hk := Spc.kernel h.lt
  have hkM := Spc.kernel k.lt
  rw [Go.Proofs.YtlchelaohiojiaaDoor.meet, kernel_span (joined_lt2 hk hkM.lt)]
  have two : ∀ x, (∀ r ∈ joined (Go.Proofs.YtlchelaohiojiaaDoor.kernel c L) (Go.Proofs.YtlchelaohiojiaaDoor.kernel c M), prd r x = false) ↔ (∀ r ∈ Go.Proofs.YtlchelaohiojiaaDoor.kernel c L, prd r x = false) ∧ (∀ r ∈ Go.Proofs.YtlchelaohiojiaaDoor.kernel c M, prd r x = false) := fun x => by
    have al : ∀ A : List Nat, (∀ r ∈ A, prd r x = false) → ∀ y, Sp A y → prd y x = false := fun A ha y hy =>
      Sp.least (S := fun y => prd y x = false) (by rw [prd_comm, prd_zero]) (fun a b h1 h2 => by rw [prd_comm, prd_xor, prd_comm x a, prd_comm x b, h1, h2]; rfl) ha hy
    constructor
    · intro h
      exact ⟨fun r hr => al _ h r ((hk.sumS r).2 (Sp.mem (List.mem_append_left _ hr))), fun r hr => al _ h r ((hk.sumS r).2 (Sp.mem (List.mem_append_right _ hr)))⟩
    · rintro ⟨h1, h2⟩ r hr
      exact al _ (fun s hs => by rcases List.mem_append.1 hs with hs | hs; exact h1 s hs; exact h2 s hs) r ((hk.sumS r).1 (Sp.mem hr))
  rw [two]
  have e1 := kernel_span hk.lt x
  have e2 := kernel_span hkM.lt x
  rw [h.kk] at e1
  rw [k.kk] at e2
  rw [e1, e2]
  exact ⟨fun ⟨a, b, d⟩ => ⟨⟨a, b⟩, a, d⟩, fun ⟨⟨a, b⟩, _, d⟩ => ⟨a, b, d⟩⟩
theorem Spc.dims {c : Nat} {L M : List Nat} (h : Spc c L) (k : Spc c M) : (joined L M).length + (Go.Proofs.YtlchelaohiojiaaDoor.meet c L M).length = L.length + M.length := by
  have := dm_both h.lt k.lt (h.meetS k)
  rw [h.dm, k.dm, (h.meet k).dm, ← h.sumL k] at this
  exact this
theorem Spc.inside {c : Nat} {L M : List Nat} (h : Spc c L) (k : Spc c M) (hs : ∀ x, Sp M x → Sp L x) : joined L M = L :=
  Ech.unique (joined_spec M h.ech).1 h.ech fun x => (h.sumS x).trans ⟨Sp.sub fun s hs' => by rcases List.mem_append.1 hs' with e | e; exact Sp.mem e; exact hs s (Sp.mem e), Sp.sub fun s hs' => Sp.mem (List.mem_append_left _ hs')⟩
theorem Spc.eq {c : Nat} {L M : List Nat} (h : Spc c L) (k : Spc c M) (hs : ∀ x, Sp L x ↔ Sp M x) : L = M := by have := sp_same hs; rwa [h.own, k.own] at this
theorem Spc.comm {c : Nat} {L M : List Nat} (h : Spc c L) (k : Spc c M) : joined L M = joined M L :=
  (h.sum k).eq (k.sum h) fun x => by
    rw [h.sumS, k.sumS]
    exact ⟨Sp.sub fun s hs => Sp.mem (by simp at hs ⊢; exact hs.symm), Sp.sub fun s hs => Sp.mem (by simp at hs ⊢; exact hs.symm)⟩
/-- The dual of the sum is the meet of the duals. -/
theorem Spc.dual_sum {c : Nat} {L M : List Nat} (h : Spc c L) (k : Spc c M) : Go.Proofs.YtlchelaohiojiaaDoor.meet c (Go.Proofs.YtlchelaohiojiaaDoor.kernel c L) (Go.Proofs.YtlchelaohiojiaaDoor.kernel c M) = Go.Proofs.YtlchelaohiojiaaDoor.kernel c (joined L M) := by
  rw [Go.Proofs.YtlchelaohiojiaaDoor.meet, h.kk, k.kk]
theorem Spc.kernelL {c : Nat} {L : List Nat} (h : Spc c L) : (Go.Proofs.YtlchelaohiojiaaDoor.kernel c L).length + L.length = c := by have := kernel_rank h.lt; rwa [h.dm] at this
/-- What distances of spaces are. -/
def sdist (L M : List Nat) : Int := 2 * ((joined L M).length : Nat) - (L.length : Nat) - (M.length : Nat)
theorem Spc.sdist_comm {c : Nat} {L M : List Nat} (h : Spc c L) (k : Spc c M) : sdist L M = sdist M L := by unfold sdist; rw [h.comm k]; omega
theorem Spc.sdist_dual {c : Nat} {L M : List Nat} (h : Spc c L) (k : Spc c M) : sdist (Go.Proofs.YtlchelaohiojiaaDoor.kernel c L) (Go.Proofs.YtlchelaohiojiaaDoor.kernel c M) = sdist L M := by
  have h1 := (Spc.kernel h.lt).dims (Spc.kernel k.lt)
  rw [h.dual_sum k] at h1
  have h2 := (h.sum k).kernelL
  have h3 := h.kernelL
  have h4 := k.kernelL
  unfold sdist; omega
theorem Spc.le_sum {c : Nat} {L M : List Nat} (h : Spc c L) (k : Spc c M) : L.length ≤ (joined L M).length ∧ M.length ≤ (joined L M).length := by
  refine ⟨joined_ge M L, ?_⟩
  rw [h.comm k]; exact joined_ge L M
theorem Spc.sdist_zero {c : Nat} {L M : List Nat} (h : Spc c L) (k : Spc c M) : sdist L M = 0 ↔ L = M := by
  obtain ⟨h1, h2⟩ := h.le_sum k
  constructor
  · intro e
    unfold sdist at e
    have e1 : (joined L M).length = L.length := by omega
    have e2 : (joined M L).length = M.length := by rw [← h.comm k]; omega
    rw [← joined_same M L e1, h.comm k, joined_same L M e2]
  · rintro rfl
    have : joined L L = L := h.inside h fun _ h => h
    unfold sdist; rw [this]; omega
theorem Spc.sdist_tri {c : Nat} {L M V : List Nat} (h : Spc c L) (k : Spc c M) (v : Spc c V) : sdist L V ≤ sdist L M + sdist M V := by
  have h1 := dm_sub (V := M) (h.sum k).lt (k.sum v).lt fun x hx => ⟨(h.sumS x).2 (sp_app.2 ⟨0, x, Sp.zero _, hx, by simp⟩), (k.sumS x).2 (sp_app.2 ⟨x, 0, hx, Sp.zero _, by simp⟩)⟩
  have h2 := dm_le (L ++ V) (joined L M ++ joined M V) fun x hx => by
    obtain ⟨y, z, h1, h2, rfl⟩ := sp_app.1 hx
    exact sp_app.2 ⟨y, z, (h.sumS y).2 (sp_app.2 ⟨y, 0, h1, Sp.zero _, by simp⟩), (k.sumS z).2 (sp_app.2 ⟨0, z, Sp.zero _, h2, by simp⟩), rfl⟩
  rw [(h.sum k).dm, (k.sum v).dm, k.dm] at h1
  rw [← h.sumL v] at h2
  unfold sdist; omega
theorem Spc.sdist_meet {c : Nat} {L M : List Nat} (h : Spc c L) (k : Spc c M) : sdist L M = ((joined L M).length : Int) - ((Go.Proofs.YtlchelaohiojiaaDoor.meet c L M).length : Int) := by
  have := h.dims k; unfold sdist; omega
end Go.Proofs.YtlchelaohiojiaaDoor
namespace Go.Proofs.YtlchelaohiojiaaDoor
set_option linter.unusedVariables false
set_option linter.unusedSectionVars false

theorem tms_tms (A B : List Nat) (n : Nat) (r : Nat) : ∀ k, tms (tms r B k) A n = tms r ((List.range k).map fun i => tms (nth B i) A n) k
  | 0 => by have := tells_zero n A; unfold Tells at this; simpa [tms] using this
  | k + 1 => by
    have low : ∀ j, j ≤ k → tms r ((List.range (k + 1)).map fun i => tms (nth B i) A n) j = tms r ((List.range k).map fun i => tms (nth B i) A n) j := by
      intro j
      induction j with
      | zero => intro _; rfl
      | succ j ih =>
        intro hj
        simp only [tms]
        rw [ih (by omega), range_nth (f := fun i => tms (nth B i) A n) (by omega), range_nth (f := fun i => tms (nth B i) A n) (by omega)]
    simp only [tms]
    rw [low k (Nat.le_refl _), ← tms_tms A B n r k, range_nth (f := fun i => tms (nth B i) A n) (Nat.lt_succ_self k)]
    split
    · rw [tms_xor]
    · rfl
theorem tms_units (n : Nat) (r : Nat) : ∀ k, k ≤ n → tms r (units n) k = r % 2 ^ k
  | 0, _ => by simp [tms, Nat.mod_one]
  | k + 1, hk => by
    simp only [tms]
    rw [tms_units n r k (by omega), show nth (units n) k = 2 ^ k from range_nth (by omega)]
    apply Nat.eq_of_testBit_eq
    intro i
    split
    · rename_i h
      rw [Nat.testBit_xor, Nat.testBit_mod_two_pow, Nat.testBit_mod_two_pow, Nat.testBit_two_pow]
      by_cases e : i = k
      · subst e; simp [h]
      · simp [show ¬ k = i by omega]; by_cases hi : i < k <;> simp [hi] <;> omega
    · rename_i h
      rw [Nat.testBit_mod_two_pow, Nat.testBit_mod_two_pow]
      by_cases e : i = k
      · subst e; simp [h]
      · by_cases hi : i < k <;> simp [hi] <;> omega

section
variable {n : Nat} {A : List Nat} (hA : ∀ r ∈ A, r < 2 ^ n) (h1 : 1 ≤ n) (hl : A.length = n) (hr : (joined [] A).length = n)
/-- The rows of the inverse. -/
def ivr (n : Nat) (A : List Nat) : List Nat := (List.range n).map fun i => nth (mkd n A n) i / 2 ^ n
theorem ivr_len (n : Nat) (A : List Nat) : (ivr n A).length = n := by simp [ivr]
theorem ivr_nth {n i : Nat} (A : List Nat) (hi : i < n) : nth (ivr n A) i = nth (mkd n A n) i / 2 ^ n := range_nth hi
include hA h1 hl hr
theorem ivr_lt : ∀ r ∈ ivr n A, r < 2 ^ n := by
  intro r hr'
  obtain ⟨i, _, rfl⟩ := List.mem_map.1 hr'
  exact invM_lt hA i
theorem ivr_left {i : Nat} (hi : i < n) : tms (nth (ivr n A) i) A n = 2 ^ i := by
  rw [ivr_nth A hi]; exact inv_tms hA (inv_leads hA (Nat.le_of_eq hl) hr) hi
theorem tms_inj {k : Nat} (hk : k < 2 ^ n) (h : tms k A n = 0) : k = 0 := by
  have g := inv_leads hA (Nat.le_of_eq hl) hr
  have h0 := ivr_left hA h1 hl hr (show 0 < n by omega)
  have hb : nth (ivr n A) 0 < 2 ^ n := nth_bound (ivr_lt hA h1 hl hr) 0
  have := inv_unique hA g (show 0 < n by omega) (Nat.xor_lt_two_pow hk hb) (by rw [tms_xor, h, h0, Nat.zero_xor])
  rw [ivr_nth A (by omega)] at this
  have e := congrArg (· ^^^ (nth (mkd n A n) 0 / 2 ^ n)) this
  simpa [Nat.xor_assoc] using e
theorem ivr_right {i : Nat} (hi : i < n) : tms (nth A i) (ivr n A) n = 2 ^ i := by
  have hB : ∀ j, nth (ivr n A) j < 2 ^ n := nth_bound (ivr_lt hA h1 hl hr)
  have hm : ((List.range n).map fun j => tms (nth (ivr n A) j) A n) = units n := List.map_congr_left fun j hj => ivr_left hA h1 hl hr (List.mem_range.1 hj)
  have e := tms_tms A (ivr n A) n (nth A i) n
  rw [hm, tms_units n _ n (Nat.le_refl _), Nat.mod_eq_of_lt (nth_bound hA i)] at e
  have hp : (2 : Nat) ^ i < 2 ^ n := Nat.pow_lt_pow_right (by omega) hi
  have := tms_inj hA h1 hl hr (k := tms (nth A i) (ivr n A) n ^^^ 2 ^ i) (Nat.xor_lt_two_pow (tms_lt hB _ _) hp) (by rw [tms_xor, e, tms_pow, if_pos hi, Nat.xor_self])
  have e := congrArg (· ^^^ 2 ^ i) this
  simpa [Nat.xor_assoc] using e
theorem ivr_rank : (joined [] (ivr n A)).length = n := by
  have h1' := dm_le (units n) (ivr n A) fun x hx => Sp.sub (fun r hr' => by
    obtain ⟨i, hi, rfl⟩ := List.mem_map.1 hr'
    have := ivr_right hA h1 hl hr (List.mem_range.1 hi)
    rw [← this]; exact tms_sp _ _ _) hx
  rw [dm_units] at h1'
  have h2 := dm_lt (ivr_lt hA h1 hl hr)
  unfold dm at *; omega
theorem ivr_back : ivr n (ivr n A) = A := by
  have hB := ivr_lt hA h1 hl hr
  have hrB := ivr_rank hA h1 hl hr
  refine list_nth (by rw [ivr_len, hl]) fun j hj => ?_
  rw [ivr_len] at hj
  rw [ivr_nth _ hj]
  exact (inv_unique hB (inv_leads hB (by rw [ivr_len]; omega) hrB) hj (nth_bound hA j) (ivr_right hA h1 hl hr hj)).symm
end

theorem min_of {p : Nat → Prop} [DecidablePred p] : ∀ o, (∃ k, k < o ∧ p k) → ∃ k, k < o ∧ p k ∧ ∀ j, j < k → ¬ p j
  | 0, ⟨k, h, _⟩ => absurd h (Nat.not_lt_zero k)
  | o + 1, ⟨k, h, hp⟩ => by
    by_cases hx : ∃ k, k < o ∧ p k
    · obtain ⟨j, h1, h2⟩ := min_of (p := p) o hx
      exact ⟨j, by omega, h2⟩
    · have hk : k = o := by
        by_cases e : k = o
        · exact e
        · exact absurd ⟨k, by omega, hp⟩ hx
      subst hk
      exact ⟨k, by omega, hp, fun j hj hpj => hx ⟨j, hj, hpj⟩⟩
/-- A sum of rows is told by the least number. -/
theorem sp_least {L : List Nat} {x : Nat} (h : Sp L x) : ∃ k, k < 2 ^ L.length ∧ tms k L L.length = x ∧ ∀ j, j < k → ¬ tms j L L.length = x := by
  obtain ⟨k, hk, he, hm⟩ := min_of (p := fun k => tms k L L.length = x) (2 ^ L.length) (by obtain ⟨k, h1, h2⟩ := sp_tms (Nat.le_refl _) h; exact ⟨k, h1, h2⟩)
  exact ⟨k, hk, he, hm⟩
/-- The product of rows, as the law reckons it: bit by bit. -/
def podd (y : Nat) : Nat → Bool
  | 0 => false
  | c + 1 => podd y c != y.testBit c
theorem podd_shift (y : Nat) : ∀ c, podd y (c + 1) = (y.testBit 0 != podd (y / 2) c)
  | 0 => by simp [podd]
  | c + 1 => by
    have ih := podd_shift y c
    show (podd y (c + 1) != y.testBit (c + 1)) = _
    rw [ih, show podd (y / 2) (c + 1) = (podd (y / 2) c != (y / 2).testBit c) from rfl, Nat.testBit_succ]
    cases y.testBit 0 <;> cases podd (y / 2) c <;> cases (y / 2).testBit c <;> rfl
theorem podd_par : ∀ c y, y < 2 ^ c → podd y c = par y
  | 0, y, h => by obtain rfl : y = 0 := by simpa using h
                  rw [par_zero]; rfl
  | c + 1, y, h => by
    rw [podd_shift, podd_par c (y / 2) (by rw [Nat.pow_succ] at h; omega), par_half y]
    have : y.testBit 0 = (y % 2 == 1) := by rw [Nat.testBit_zero]; cases h2 : decide (y % 2 = 1) <;> simp_all
    rw [this]
end Go.Proofs.YtlchelaohiojiaaDoor
