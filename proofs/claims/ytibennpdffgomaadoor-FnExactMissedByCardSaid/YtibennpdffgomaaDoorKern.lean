/- Kernels of rows over two elements: the program's and the model's are the same. Pure, of no program. -/
import Derived.Test.YtibennpdffgomaaDoorColPure
namespace Go.Proofs.YtibennpdffgomaaDoor
set_option linter.unusedVariables false

/-- Whether a number has an odd number of bits. -/
def par (x : Nat) : Bool := if h : x = 0 then false else (x % 2 == 1) ^^ par (x / 2)
termination_by x
decreasing_by omega
theorem par_zero : par 0 = false := by rw [par]; rfl
theorem par_half (x : Nat) : par x = ((x % 2 == 1) ^^ par (x / 2)) := by
  by_cases h : x = 0
  · subst h; rw [par_zero]; rfl
  · rw [par]; simp [h]
theorem par_xor : ∀ (x y : Nat), par (x ^^^ y) = (par x ^^ par y) := by
  intro x
  induction x using Nat.strongRecOn with
  | _ x ih =>
    intro y
    by_cases hx : x = 0
    · subst hx; rw [Nat.zero_xor, par_zero, Bool.false_xor]
    · have e1 : (x ^^^ y) / 2 = x / 2 ^^^ y / 2 := by
        apply Nat.eq_of_testBit_eq
        intro i
        rw [← Nat.testBit_succ, Nat.testBit_xor, Nat.testBit_xor, Nat.testBit_succ, Nat.testBit_succ]
      have e2 : ((x ^^^ y) % 2 == 1) = ((x % 2 == 1) ^^ (y % 2 == 1)) := by
        have e (n : Nat) : (n % 2 == 1) = n.testBit 0 := by rw [Nat.testBit_zero]; by_cases h : n % 2 = 1 <;> simp [h]
        rw [e, e, e, Nat.testBit_xor]
      rw [par_half (x ^^^ y), par_half x, par_half y, e1, ih (x / 2) (by omega), e2]
      cases (x % 2 == 1) <;> cases (y % 2 == 1) <;> cases par (x / 2) <;> cases par (y / 2) <;> rfl
theorem par_pow : ∀ k, par (2 ^ k) = true
  | 0 => by rw [par_half, Nat.pow_zero, show 1 / 2 = 0 from rfl, par_zero]; rfl
  | k + 1 => by
    rw [par_half, show 2 ^ (k + 1) / 2 = 2 ^ k by rw [Nat.pow_succ]; omega, par_pow k, show 2 ^ (k + 1) % 2 = 0 by rw [Nat.pow_succ]; omega]; rfl

/-- The product of two rows. -/
def prd (a b : Nat) : Bool := par (a &&& b)
theorem prd_xor (a x y : Nat) : prd a (x ^^^ y) = (prd a x ^^ prd a y) := by
  unfold prd
  rw [← par_xor]
  congr 1
  apply Nat.eq_of_testBit_eq
  intro i
  simp only [Nat.testBit_and, Nat.testBit_xor]
  cases a.testBit i <;> simp
theorem prd_comm (a b : Nat) : prd a b = prd b a := by unfold prd; rw [Nat.and_comm]
theorem prd_one (a b l : Nat) (h : ∀ j, j ≠ l → (a.testBit j && b.testBit j) = false) : prd a b = (a.testBit l && b.testBit l) := by
  unfold prd
  by_cases e : (a.testBit l && b.testBit l) = true
  · rw [e, show a &&& b = 2 ^ l from ?_, par_pow]
    apply Nat.eq_of_testBit_eq
    intro i
    rw [Nat.testBit_and, Nat.testBit_two_pow]
    by_cases hi : l = i
    · subst hi; simpa using e
    · rw [h i (Ne.symm hi)]; simp [hi]
  · rw [show a &&& b = 0 from ?_, par_zero]
    · simpa using e
    apply Nat.eq_of_testBit_eq
    intro i
    rw [Nat.testBit_and, Nat.zero_testBit]
    by_cases hi : i = l
    · subst hi; simpa using e
    · exact h i hi
theorem prd_pow (a l : Nat) : prd a (2 ^ l) = a.testBit l := by
  rw [prd_one a (2 ^ l) l (fun j hj => by rw [Nat.testBit_two_pow]; simp [Ne.symm hj]), Nat.testBit_two_pow]; simp
theorem prd_zero (a : Nat) : prd a 0 = false := by unfold prd; rw [Nat.and_zero, par_zero]

/-- The row of the kernel for a column. -/
def kr (e : List Nat) (col : Nat) : Nat := e.foldl (fun r s => if s.testBit col then r ^^^ 2 ^ ld s else r) (2 ^ col)
theorem kr_bit (col j : Nat) : ∀ (e : List Nat) (_ : ∀ s ∈ e, ld s ≠ j) (r : Nat), (e.foldl (fun r s => if s.testBit col then r ^^^ 2 ^ ld s else r) r).testBit j = r.testBit j
  | [], _, r => rfl
  | s :: e, h, r => by
    rw [List.foldl_cons, kr_bit col j e (fun t ht => h t (List.mem_cons_of_mem _ ht))]
    split
    · rw [Nat.testBit_xor, Nat.testBit_two_pow]; simp [h s (by simp)]
    · rfl
theorem kr_off (col s : Nat) : ∀ (e : List Nat) (_ : ∀ t ∈ e, s.testBit (ld t) = false) (r : Nat), prd s (e.foldl (fun r s => if s.testBit col then r ^^^ 2 ^ ld s else r) r) = prd s r
  | [], _, r => rfl
  | t :: e, h, r => by
    rw [List.foldl_cons, kr_off col s e (fun t ht => h t (List.mem_cons_of_mem _ ht))]
    split
    · rw [prd_xor, prd_pow, h t (by simp), Bool.xor_false]
    · rfl
theorem kr_on (col s : Nat) : ∀ (e : List Nat) (_ : Ech e) (_ : s ∈ e) (r : Nat), prd s (e.foldl (fun r s => if s.testBit col then r ^^^ 2 ^ ld s else r) r) = (prd s r ^^ s.testBit col)
  | t :: e, h, hs, r => by
    rw [List.foldl_cons]
    by_cases hm : s = t
    · subst hm
      rw [kr_off col s e (fun t ht => (h.head t ht).2)]
      by_cases hb : s.testBit col = true
      · rw [if_pos hb, prd_xor, prd_pow, ld_bit (h.ne s (by simp)), hb]
      · rw [if_neg hb]; simp [hb]
    · have hs' : s ∈ e := (List.mem_cons.1 hs).resolve_left hm
      rw [kr_on col s e h.tail hs']
      congr 1
      split
      · rw [prd_xor, prd_pow, ld_low (h.tail.ne s hs') (h.head s hs').1, Bool.xor_false]
      · rfl
theorem kr_prd {e : List Nat} (h : Ech e) (col s : Nat) (hs : s ∈ e) : prd s (kr e col) = false := by
  unfold kr; rw [kr_on col s e h hs, prd_pow]; simp
theorem kr_lt {c : Nat} {e : List Nat} (he : ∀ s ∈ e, s < 2 ^ c) (col : Nat) (hc : col < c) : kr e col < 2 ^ c := by
  have : ∀ (e : List Nat) (_ : ∀ s ∈ e, s < 2 ^ c) (r : Nat), r < 2 ^ c → e.foldl (fun r s => if s.testBit col then r ^^^ 2 ^ ld s else r) r < 2 ^ c := by
    intro e
    induction e with
    | nil => intro _ r hr; exact hr
    | cons s e ih =>
      intro he r hr
      rw [List.foldl_cons]
      refine ih (fun t ht => he t (List.mem_cons_of_mem _ ht)) _ ?_
      split
      · rename_i hb
        exact Nat.xor_lt_two_pow hr (Nat.pow_lt_pow_right (by omega) (ld_lt (he s (by simp)) (ne_of_bit hb)))
      · exact hr
  exact this e he _ (Nat.pow_lt_pow_right (by omega) hc)
/-- The rows of the kernel, one for each column. -/
def krs (c : Nat) (e : List Nat) : List Nat := (List.range c).map (kr e)

theorem krs_all {c : Nat} {e : List Nat} (h : Ech e) (he : ∀ s ∈ e, s < 2 ^ c) {x : Nat} (hx : x < 2 ^ c) (hk : ∀ s ∈ e, prd s x = false) : Sp (krs c e) x := by
  have step : ∀ n, n ≤ c → ∃ y, Sp (krs c e) (x ^^^ y) ∧ y < 2 ^ c ∧ (∀ s ∈ e, prd s y = false) ∧ ∀ j, j < n → (∀ s ∈ e, ld s ≠ j) → y.testBit j = false := by
    intro n
    induction n with
    | zero => intro _; exact ⟨x, by rw [Nat.xor_self]; exact Sp.zero _, hx, hk, fun j hj => by omega⟩
    | succ n ih =>
      intro hn
      obtain ⟨y, h1, h2, h3, h4⟩ := ih (by omega)
      by_cases hb : y.testBit n = true
      · by_cases hl : ∃ s ∈ e, ld s = n
        · refine ⟨y, h1, h2, h3, fun j hj hne => ?_⟩
          obtain ⟨s, hs, hsn⟩ := hl
          by_cases ej : j = n
          · subst ej; exact absurd hsn (hne s hs)
          · exact h4 j (by omega) hne
        · refine ⟨y ^^^ kr e n, ?_, Nat.xor_lt_two_pow h2 (kr_lt he n (by omega)), fun s hs => by rw [prd_xor, h3 s hs, kr_prd h n s hs]; rfl, fun j hj hne => ?_⟩
          · rw [← Nat.xor_assoc]
            exact h1.xor (Sp.mem (List.mem_map.2 ⟨n, List.mem_range.2 (by omega), rfl⟩))
          · rw [Nat.testBit_xor, kr, kr_bit n j e hne, Nat.testBit_two_pow]
            by_cases ej : j = n
            · subst ej; rw [hb]; simp
            · rw [h4 j (by omega) hne]; simp [Ne.symm ej]
      · refine ⟨y, h1, h2, h3, fun j hj hne => ?_⟩
        by_cases ej : j = n
        · subst ej; simpa using hb
        · exact h4 j (by omega) hne
  obtain ⟨y, h1, h2, h3, h4⟩ := step c (Nat.le_refl _)
  have hy : y = 0 := by
    refine zero_of_bits h2 (fun j hj => ?_)
    by_cases hl : ∃ s ∈ e, ld s = j
    · obtain ⟨s, hs, rfl⟩ := hl
      have := h3 s hs
      rw [prd_one s y (ld s), ld_bit (h.ne s hs)] at this
      · simpa using this
      · intro i hi
        by_cases hm : ∃ t ∈ e, ld t = i
        · obtain ⟨t, ht, rfl⟩ := hm
          have : s.testBit (ld t) = false := by
            rcases Nat.lt_trichotomy (ld t) (ld s) with e1 | e1 | e1
            · exact ld_low (h.ne s hs) e1
            · exact absurd e1 hi
            · obtain ⟨a, ha, rfl⟩ := List.getElem_of_mem hs
              obtain ⟨b, hb, rfl⟩ := List.getElem_of_mem ht
              have hp := List.pairwise_iff_getElem.1 h.pw
              rcases Nat.lt_trichotomy a b with q | q | q
              · exact (hp a b ha hb q).2
              · subst q; exact absurd rfl hi
              · have := (hp b a hb ha q).1; omega
          rw [this]; rfl
        · rcases Nat.lt_or_ge i c with q | q
          · rw [h4 i q (fun t ht e => hm ⟨t, ht, e⟩)]; simp
          · rw [Nat.testBit_lt_two_pow (Nat.lt_of_lt_of_le h2 (Nat.pow_le_pow_right (by omega) q))]; simp
    · exact h4 j hj (fun s hs e => hl ⟨s, hs, e⟩)
  rw [hy, Nat.xor_zero] at h1
  exact h1

/-- The program's kernel. -/
def kernel (c : Nat) (L : List Nat) : List Nat := joined [] (krs c (joined [] L))
/-- All rows whose products with rows are 0. -/
def anni (c : Nat) (L : List Nat) : List Nat := (List.range (2 ^ c)).filter (fun x => L.all (fun r => !prd r x))
theorem anni_mem {c : Nat} {L : List Nat} {x : Nat} : x ∈ anni c L ↔ x < 2 ^ c ∧ ∀ r ∈ L, prd r x = false := by
  simp [anni, List.mem_filter, List.all_eq_true]
theorem joined_nil (L : List Nat) : Ech (joined [] L) ∧ ∀ x, Sp (joined [] L) x ↔ Sp L x := joined_spec L Ech.nil
theorem kernel_span {c : Nat} {L : List Nat} (hL : ∀ r ∈ L, r < 2 ^ c) (x : Nat) : Sp (kernel c L) x ↔ x < 2 ^ c ∧ ∀ r ∈ L, prd r x = false := by
  obtain ⟨h1, h2⟩ := joined_nil L
  have hlt := joined_lt (c := c) Ech.nil (by simp) hL
  unfold kernel
  rw [(joined_nil _).2 x]
  have hbi : ∀ {M : List Nat} {x : Nat}, (∀ r ∈ M, prd r x = false) → ∀ {s}, Sp M s → prd s x = false := by
    intro M x hM s hs
    exact Sp.least (S := fun s => prd s x = false) (by rw [prd_comm, prd_zero]) (fun a b ha hb => by rw [prd_comm, prd_xor, prd_comm _ a, prd_comm _ b, ha, hb]; rfl) hM hs
  constructor
  · intro hx
    refine ⟨Sp.lt (fun r hr => ?_) hx, fun r hr => hbi (M := joined [] L) (fun s hs => ?_) ((h2 r).2 (Sp.mem hr))⟩
    · obtain ⟨col, hc, rfl⟩ := List.mem_map.1 hr
      exact kr_lt hlt col (List.mem_range.1 hc)
    · exact Sp.least (S := fun x => prd s x = false) (prd_zero s) (fun a b ha hb => by rw [prd_xor, ha, hb]; rfl) (fun r hr => by
        obtain ⟨col, hc, rfl⟩ := List.mem_map.1 hr
        exact kr_prd h1 col s hs) hx
  · rintro ⟨hx, hk⟩
    exact krs_all h1 hlt hx (fun s hs => hbi hk ((h2 s).1 (Sp.mem hs)))
theorem kernel_ech (c : Nat) (L : List Nat) : Ech (kernel c L) := (joined_nil _).1
theorem kernel_lt {c : Nat} {L : List Nat} (hL : ∀ r ∈ L, r < 2 ^ c) : ∀ r ∈ kernel c L, r < 2 ^ c := fun r hr => ((kernel_span hL r).1 (Sp.mem hr)).1
/-- The model's kernel is the program's. -/
theorem kernel_eq {c : Nat} {L : List Nat} (hL : ∀ r ∈ L, r < 2 ^ c) : (cols (anni c L) c).2 = kernel c L := by
  rw [cols_eq (c := c) (fun r hr => (anni_mem.1 hr).1)]
  refine Ech.unique (joined_nil _).1 (kernel_ech c L) (fun x => ?_)
  rw [(joined_nil _).2 x, kernel_span hL x]
  constructor
  · refine Sp.least (S := fun x => x < 2 ^ c ∧ ∀ r ∈ L, prd r x = false) ⟨Nat.two_pow_pos c, fun r _ => prd_zero r⟩ (fun a b ha hb => ⟨Nat.xor_lt_two_pow ha.1 hb.1, fun r hr => by rw [prd_xor, ha.2 r hr, hb.2 r hr]; rfl⟩) (fun r hr => anni_mem.1 hr)
  · exact fun h => Sp.mem (anni_mem.2 h)
end Go.Proofs.YtibennpdffgomaaDoor
