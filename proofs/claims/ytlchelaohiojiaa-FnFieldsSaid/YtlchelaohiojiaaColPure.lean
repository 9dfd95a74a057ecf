/- Rows over two elements: sums, reduced echelon form and its uniqueness; two ways to it. Pure, of no program. · Matrices of numbers, their rows as natural numbers, sums of rows and columns. Pure, of no program. · A row put among rows in echelon form, step by step. Pure, of no program. · One column of the model's elimination, step by step. Pure, of no program. -/

namespace Go.Proofs.Ytlchelaohiojiaa
set_option linter.unusedVariables false
/-- The lowest bit of a number other than 0. -/
def ld (x : Nat) : Nat := if h : x = 0 then 0 else if x % 2 = 1 then 0 else ld (x / 2) + 1
termination_by x
decreasing_by omega

theorem ld_spec : ∀ (x : Nat), x ≠ 0 → x.testBit (ld x) = true ∧ ∀ k, k < ld x → x.testBit k = false := by
  intro x
  induction x using Nat.strongRecOn with
  | _ x ih =>
    intro hx
    rw [ld]
    by_cases h1 : x % 2 = 1
    · simp only [hx, h1, dite_false, if_true]
      exact ⟨by rw [Nat.testBit_zero]; simp [h1], fun k hk => by omega⟩
    · simp only [hx, h1, dite_false, if_false]
      obtain ⟨a, b⟩ := ih (x / 2) (by omega) (by omega)
      refine ⟨by rw [Nat.testBit_succ]; exact a, fun k hk => ?_⟩
      cases k with
      | zero => rw [Nat.testBit_zero]; simp; omega
      | succ k => rw [Nat.testBit_succ]; exact b k (by omega)
theorem ld_bit {x : Nat} (h : x ≠ 0) : x.testBit (ld x) = true := (ld_spec x h).1
theorem ld_low {x k : Nat} (h : x ≠ 0) (hk : k < ld x) : x.testBit k = false := (ld_spec x h).2 k hk
theorem ld_eq {x l : Nat} (h1 : x.testBit l = true) (h2 : ∀ k, k < l → x.testBit k = false) : ld x = l := by
  have hx : x ≠ 0 := by rintro rfl; simp at h1
  have := ld_bit hx
  rcases Nat.lt_trichotomy (ld x) l with h | h | h
  · rw [h2 _ h] at this; simp at this
  · exact h
  · rw [ld_low hx h] at h1; simp at h1
theorem ne_of_bit {x l : Nat} (h : x.testBit l = true) : x ≠ 0 := by rintro rfl; simp at h

/-- The sums of some rows. -/
inductive Sp : List Nat → Nat → Prop
  | nil : Sp [] 0
  | skip {L x} (r : Nat) : Sp L x → Sp (r :: L) x
  | take {L x} (r : Nat) : Sp L x → Sp (r :: L) (r ^^^ x)

theorem Sp.zero : ∀ L, Sp L 0
  | [] => .nil
  | r :: L => .skip r (Sp.zero L)
theorem Sp.xor {L : List Nat} {x y : Nat} (h : Sp L x) (k : Sp L y) : Sp L (x ^^^ y) := by
  induction h generalizing y with
  | nil => simpa using k
  | @skip L x r h ih =>
    cases k with
    | skip _ k => exact .skip r (ih k)
    | @take _ y' _ k => rw [show x ^^^ (r ^^^ y') = r ^^^ (x ^^^ y') by rw [← Nat.xor_assoc, Nat.xor_comm x r, Nat.xor_assoc]]; exact .take r (ih k)
  | @take L x r h ih =>
    cases k with
    | skip _ k => rw [Nat.xor_assoc]; exact .take r (ih k)
    | @take _ y' _ k =>
      rw [show (r ^^^ x) ^^^ (r ^^^ y') = x ^^^ y' by
        rw [Nat.xor_comm r x, Nat.xor_assoc, ← Nat.xor_assoc r r y', Nat.xor_self, Nat.zero_xor]]
      exact .skip r (ih k)
theorem Sp.mem {L : List Nat} {r : Nat} (h : r ∈ L) : Sp L r := by
  induction L with
  | nil => simp at h
  | cons s L ih =>
    rcases List.mem_cons.1 h with rfl | h
    · have := Sp.take r (Sp.zero L); simpa using this
    · exact .skip s (ih h)
theorem Sp.least {L : List Nat} {S : Nat → Prop} (h0 : S 0) (hx : ∀ x y, S x → S y → S (x ^^^ y)) (hL : ∀ r ∈ L, S r) : ∀ {x}, Sp L x → S x := by
  intro x h
  induction h with
  | nil => exact h0
  | skip r h ih => exact ih (fun s hs => hL s (List.mem_cons_of_mem _ hs))
  | take r h ih => exact hx _ _ (hL r (by simp)) (ih (fun s hs => hL s (List.mem_cons_of_mem _ hs)))
theorem Sp.sub {L M : List Nat} (h : ∀ r ∈ L, Sp M r) {x : Nat} (k : Sp L x) : Sp M x :=
  Sp.least (Sp.zero M) (fun _ _ a b => a.xor b) h k
theorem Sp.bit {L : List Nat} {l : Nat} (h : ∀ r ∈ L, r.testBit l = false) {x : Nat} (k : Sp L x) : x.testBit l = false :=
  Sp.least (S := fun x => x.testBit l = false) (by simp) (fun x y a b => by rw [Nat.testBit_xor, a, b]; rfl) h k

/-- Reduced echelon form. -/
structure Ech (L : List Nat) : Prop where
  ne : ∀ s ∈ L, s ≠ 0
  pw : L.Pairwise fun s t => ld s < ld t ∧ s.testBit (ld t) = false

theorem Ech.nil : Ech [] := ⟨by simp, .nil⟩
theorem Ech.tail {r : Nat} {L : List Nat} (h : Ech (r :: L)) : Ech L :=
  ⟨fun s hs => h.ne s (List.mem_cons_of_mem _ hs), (List.pairwise_cons.1 h.pw).2⟩
theorem Ech.head {r : Nat} {L : List Nat} (h : Ech (r :: L)) : ∀ t ∈ L, ld r < ld t ∧ r.testBit (ld t) = false := (List.pairwise_cons.1 h.pw).1
theorem Ech.col {r : Nat} {L : List Nat} (h : Ech (r :: L)) {x : Nat} (k : Sp L x) : ∀ j, j ≤ ld r → x.testBit j = false := fun _ hj =>
  Sp.bit (fun t ht => ld_low (h.tail.ne t ht) (Nat.lt_of_le_of_lt hj (h.head t ht).1)) k

theorem Ech.drop {r : Nat} {L : List Nat} (h : Ech (r :: L)) {x : Nat} (k : Sp (r :: L) x) (hb : x.testBit (ld r) = false) : Sp L x := by
  cases k with
  | skip _ k => exact k
  | take _ k =>
    rw [Nat.testBit_xor, ld_bit (h.ne r (by simp)), h.col k _ (Nat.le_refl _)] at hb
    simp at hb
theorem Ech.zero {L : List Nat} (h : Ech L) {x : Nat} (k : Sp L x) (hb : ∀ s ∈ L, x.testBit (ld s) = false) : x = 0 := by
  induction L with
  | nil => cases k; rfl
  | cons r L ih => exact ih h.tail (h.drop k (hb r (by simp))) (fun s hs => hb s (List.mem_cons_of_mem _ hs))
theorem Ech.lowest {r : Nat} {L : List Nat} (h : Ech (r :: L)) {x : Nat} (k : Sp (r :: L) x) (hx : x ≠ 0) : ld r ≤ ld x := by
  have hr := h.ne r (by simp)
  cases k with
  | skip _ k =>
    rcases Nat.lt_or_ge (ld x) (ld r) with e | e
    · have := ld_bit hx; rw [h.col k _ (by omega)] at this; simp at this
    · exact e
  | @take _ y _ k =>
    rcases Nat.lt_or_ge (ld (r ^^^ y)) (ld r) with e | e
    · have := ld_bit hx
      rw [Nat.testBit_xor, ld_low hr e, h.col k _ (by omega)] at this; simp at this
    · exact e
/-- Rows in reduced echelon form are told by their sums. -/
theorem Ech.unique : ∀ {L M : List Nat}, Ech L → Ech M → (∀ x, Sp L x ↔ Sp M x) → L = M
  | [], [], _, _, _ => rfl
  | [], s :: M, _, hM, h => by
    have := (h s).2 (Sp.mem (by simp)); cases this; exact absurd rfl (hM.ne 0 (by simp))
  | r :: L, [], hL, _, h => by
    have := (h r).1 (Sp.mem (by simp)); cases this; exact absurd rfl (hL.ne 0 (by simp))
  | r :: L, s :: M, hL, hM, h => by
    have hr := hL.ne r (by simp)
    have hs := hM.ne s (by simp)
    have e : ld r = ld s := Nat.le_antisymm (hL.lowest ((h s).2 (Sp.mem (by simp))) hs) (hM.lowest ((h r).1 (Sp.mem (by simp))) hr)
    have hT : ∀ x, Sp L x ↔ Sp M x := fun x =>
      ⟨fun k => hM.drop ((h x).1 (.skip r k)) (hL.col k _ (by omega)), fun k => hL.drop ((h x).2 (.skip s k)) (hM.col k _ (by omega))⟩
    have eT := Ech.unique hL.tail hM.tail hT
    subst eT
    have hx : Sp (r :: L) (r ^^^ s) := Sp.xor (Sp.mem (by simp)) ((h s).2 (Sp.mem (by simp)))
    have hd : Sp L (r ^^^ s) := hL.drop hx (by rw [Nat.testBit_xor, ld_bit hr, e, ld_bit hs]; rfl)
    have h0 := hL.tail.zero hd (fun t ht => by rw [Nat.testBit_xor, (hL.head t ht).2, (hM.head t ht).2]; rfl)
    have : r = s := by
      have := congrArg (· ^^^ s) h0
      simpa [Nat.xor_assoc] using this
    rw [this]

/-- What rows leave of a row. -/
def rest (L : List Nat) (r : Nat) : Nat := L.foldl (fun r s => if r.testBit (ld s) then r ^^^ s else r) r
theorem rest_spec : ∀ {L : List Nat}, Ech L → ∀ r, (∀ s ∈ L, (rest L r).testBit (ld s) = false) ∧ ∃ y, Sp L y ∧ rest L r = r ^^^ y ∧ ∀ l, (∀ s ∈ L, s.testBit l = false) → (rest L r).testBit l = r.testBit l
  | [], _, r => ⟨by simp, 0, .nil, by simp [rest], fun _ _ => rfl⟩
  | s :: L, h, r => by
    have hs := h.ne s (by simp)
    simp only [rest, List.foldl_cons]
    by_cases hb : r.testBit (ld s) = true
    · rw [if_pos hb]
      obtain ⟨h1, y, h2, h3, h4⟩ := rest_spec h.tail (r ^^^ s)
      simp only [rest] at h1 h3 h4
      refine ⟨fun t ht => ?_, s ^^^ y, .take s h2, by rw [h3, Nat.xor_assoc], fun l hl => ?_⟩
      · rcases List.mem_cons.1 ht with rfl | ht
        · rw [h4 _ (fun t' ht' => ld_low (h.tail.ne t' ht') (h.head t' ht').1), Nat.testBit_xor, hb, ld_bit hs]; rfl
        · exact h1 t ht
      · rw [h4 l (fun t ht => hl t (List.mem_cons_of_mem _ ht)), Nat.testBit_xor, hl s (by simp)]; simp
    · rw [if_neg hb]
      obtain ⟨h1, y, h2, h3, h4⟩ := rest_spec h.tail r
      simp only [rest] at h1 h3 h4
      refine ⟨fun t ht => ?_, y, .skip s h2, h3, fun l hl => h4 l (fun t ht => hl t (List.mem_cons_of_mem _ ht))⟩
      rcases List.mem_cons.1 ht with rfl | ht
      · rw [h4 _ (fun t' ht' => ld_low (h.tail.ne t' ht') (h.head t' ht').1)]; simpa using hb
      · exact h1 t ht

/-- A row that is changed when the row q comes in. -/
def chg (q s : Nat) : Nat := if s.testBit (ld q) then s ^^^ q else s
/-- How many rows stand before q. -/
def place (L : List Nat) (q : Nat) : Nat := L.countP (fun s => decide (ld s < ld q))
/-- Rows with the reduced row q (not 0) put in. -/
def ins (L : List Nat) (q : Nat) : List Nat := (L.map (chg q)).take (place L q) ++ q :: (L.map (chg q)).drop (place L q)
/-- Rows that have a row more. -/
def add (L : List Nat) (r : Nat) : List Nat := if rest L r = 0 then L else ins L (rest L r)
/-- Rows brought into echelon form, behind others. -/
def joined (L M : List Nat) : List Nat := M.foldl add L

theorem chg_spec {q s : Nat} (hs : s ≠ 0) (hq : q ≠ 0) (h : q.testBit (ld s) = false) : chg q s ≠ 0 ∧ ld (chg q s) = ld s ∧ (chg q s).testBit (ld q) = false ∧ (ld q < ld s → chg q s = s) := by
  unfold chg
  by_cases hb : s.testBit (ld q) = true
  · rw [if_pos hb]
    have hlt : ld s < ld q := by
      rcases Nat.lt_trichotomy (ld s) (ld q) with e | e | e
      · exact e
      · rw [e, ld_bit hq] at h; simp at h
      · rw [ld_low hs e] at hb; simp at hb
    have hb1 : (s ^^^ q).testBit (ld s) = true := by rw [Nat.testBit_xor, ld_bit hs, h]; rfl
    refine ⟨ne_of_bit hb1, ld_eq hb1 (fun k hk => by rw [Nat.testBit_xor, ld_low hs hk, ld_low hq (by omega)]; rfl), by rw [Nat.testBit_xor, hb, ld_bit hq]; rfl, fun h => by omega⟩
  · rw [if_neg hb]
    exact ⟨hs, rfl, by simpa using hb, fun _ => rfl⟩

theorem place_split : ∀ {L : List Nat} (_ : Ech L) (q : Nat), (∀ s ∈ L.take (place L q), ld s < ld q) ∧ (∀ s ∈ L.drop (place L q), ld q ≤ ld s)
  | [], _, q => ⟨by simp, by simp⟩
  | s :: L, h, q => by
    obtain ⟨h1, h2⟩ := place_split h.tail q
    by_cases hb : ld s < ld q
    · have : place (s :: L) q = place L q + 1 := by simp [place, hb]
      rw [this]
      refine ⟨fun t ht => ?_, fun t ht => h2 t (by simpa using ht)⟩
      simp only [List.take_succ_cons, List.mem_cons] at ht
      rcases ht with rfl | ht
      · exact hb
      · exact h1 t ht
    · have hz : place (s :: L) q = 0 := by
        unfold place
        rw [List.countP_eq_zero]
        intro t ht
        rcases List.mem_cons.1 ht with rfl | ht
        · simpa using hb
        · have := (h.head t ht).1; simp; omega
      rw [hz]
      refine ⟨by simp, fun t ht => ?_⟩
      simp only [List.drop_zero, List.mem_cons] at ht
      rcases ht with rfl | ht
      · omega
      · have := (h.head t ht).1; omega

theorem ins_ech {L : List Nat} (h : Ech L) {q : Nat} (hq : q ≠ 0) (hr : ∀ s ∈ L, q.testBit (ld s) = false) : Ech (ins L q) := by
  have hc : ∀ s ∈ L, _ := fun s hs => chg_spec (h.ne s hs) hq (hr s hs)
  obtain ⟨p1, p2⟩ := place_split h q
  have hP : (L.map (chg q)).Pairwise fun s t => ld s < ld t ∧ s.testBit (ld t) = false := by
    rw [List.pairwise_map]
    refine List.Pairwise.imp_of_mem ?_ h.pw
    intro s t hs ht ⟨a, b⟩
    obtain ⟨_, e1, _, _⟩ := hc s hs
    obtain ⟨_, e2, _, _⟩ := hc t ht
    refine ⟨by omega, ?_⟩
    rw [e2]
    unfold chg
    split
    · rw [Nat.testBit_xor, b, hr t ht]; rfl
    · exact b
  refine ⟨fun s hs => ?_, ?_⟩
  · simp only [ins, List.mem_append, List.mem_cons] at hs
    rcases hs with hs | rfl | hs
    · obtain ⟨t, ht, rfl⟩ := List.mem_map.1 (List.mem_of_mem_take hs); exact (hc t ht).1
    · exact hq
    · obtain ⟨t, ht, rfl⟩ := List.mem_map.1 (List.mem_of_mem_drop hs); exact (hc t ht).1
  · unfold ins
    rw [List.pairwise_append, List.pairwise_cons]
    have hmt : ∀ a ∈ (L.map (chg q)).take (place L q), ∃ t ∈ L, ld t < ld q ∧ a = chg q t := by
      intro a ha
      rw [← List.map_take] at ha
      obtain ⟨t, ht, rfl⟩ := List.mem_map.1 ha
      exact ⟨t, List.mem_of_mem_take ht, p1 t ht, rfl⟩
    have hmd : ∀ a ∈ (L.map (chg q)).drop (place L q), ∃ t ∈ L, ld q ≤ ld t ∧ a = chg q t := by
      intro a ha
      rw [← List.map_drop] at ha
      obtain ⟨t, ht, rfl⟩ := List.mem_map.1 ha
      exact ⟨t, List.mem_of_mem_drop ht, p2 t ht, rfl⟩
    have hlq : ∀ t ∈ L, ld q ≤ ld t → ld q < ld t := by
      intro t ht hle
      rcases Nat.lt_or_eq_of_le hle with e | e
      · exact e
      · have := hr t ht; rw [← e, ld_bit hq] at this; simp at this
    have hA : ∀ a ∈ (L.map (chg q)).take (place L q), ∀ b ∈ (L.map (chg q)).drop (place L q), ld a < ld b ∧ a.testBit (ld b) = false := by
      have := hP
      rw [← List.take_append_drop (place L q) (L.map (chg q)), List.pairwise_append] at this
      exact this.2.2
    refine ⟨hP.sublist (List.take_sublist _ _), ⟨fun b hb => ?_, hP.sublist (List.drop_sublist _ _)⟩, fun a ha b hb => ?_⟩
    · obtain ⟨t, ht, hle, rfl⟩ := hmd b hb
      obtain ⟨_, e, _, _⟩ := hc t ht
      rw [e]
      exact ⟨hlq t ht hle, hr t ht⟩
    · rcases List.mem_cons.1 hb with rfl | hb
      · obtain ⟨t, ht, hlt, rfl⟩ := hmt a ha
        obtain ⟨_, e, e2, _⟩ := hc t ht
        exact ⟨by omega, e2⟩
      · exact hA a ha b hb

theorem ins_span {L : List Nat} {q : Nat} (x : Nat) : Sp (ins L q) x ↔ Sp (q :: L) x := by
  have hq : Sp (ins L q) q := Sp.mem (by simp [ins])
  have hm : ∀ s ∈ L, Sp (ins L q) (chg q s) := by
    intro s hs
    refine Sp.mem ?_
    have : chg q s ∈ (L.map (chg q)).take (place L q) ++ (L.map (chg q)).drop (place L q) := by
      rw [List.take_append_drop]; exact List.mem_map.2 ⟨s, hs, rfl⟩
    simp only [ins, List.mem_append, List.mem_cons] at this ⊢
    rcases this with h | h
    · exact .inl h
    · exact .inr (.inr h)
  constructor
  · refine Sp.sub fun r hr => ?_
    have hr' : r = q ∨ r ∈ L.map (chg q) := by
      simp only [ins, List.mem_append, List.mem_cons] at hr
      rcases hr with h | h | h
      · exact .inr (List.mem_of_mem_take h)
      · exact .inl h
      · exact .inr (List.mem_of_mem_drop h)
    rcases hr' with rfl | hr'
    · exact Sp.mem (by simp)
    · obtain ⟨s, hs, rfl⟩ := List.mem_map.1 hr'
      unfold chg
      split
      · exact Sp.xor (Sp.mem (by simp [hs])) (Sp.mem (by simp))
      · exact Sp.mem (by simp [hs])
  · refine Sp.sub fun r hr => ?_
    rcases List.mem_cons.1 hr with rfl | hr
    · exact hq
    · have := hm r hr
      unfold chg at this
      split at this
      · have h2 := this.xor hq
        rwa [Nat.xor_assoc, Nat.xor_self, Nat.xor_zero] at h2
      · exact this

theorem add_spec {L : List Nat} (h : Ech L) (r : Nat) : Ech (add L r) ∧ ∀ x, Sp (add L r) x ↔ Sp (r :: L) x := by
  obtain ⟨h1, y, h2, h3, _⟩ := rest_spec h r
  unfold add
  by_cases e : rest L r = 0
  · rw [if_pos e]
    refine ⟨h, fun x => ⟨fun k => .skip r k, fun k => Sp.sub (fun s hs => ?_) k⟩⟩
    rcases List.mem_cons.1 hs with rfl | hs
    · have : s = y := by
        rw [e] at h3
        have := congrArg (· ^^^ y) h3
        simpa [Nat.xor_assoc] using this.symm
      rw [this]; exact h2
    · exact Sp.mem hs
  · rw [if_neg e]
    refine ⟨ins_ech h e h1, fun x => (ins_span x).trans ⟨Sp.sub fun s hs => ?_, Sp.sub fun s hs => ?_⟩⟩
    · rcases List.mem_cons.1 hs with rfl | hs
      · rw [h3]; exact .take r h2
      · exact .skip r (Sp.mem hs)
    · rcases List.mem_cons.1 hs with rfl | hs
      · have : s = rest L s ^^^ y := by rw [h3, Nat.xor_assoc, Nat.xor_self, Nat.xor_zero]
        have h5 := Sp.take (rest L s) h2
        rwa [← this] at h5
      · exact .skip _ (Sp.mem hs)
theorem joined_spec : ∀ (M : List Nat) {L : List Nat}, Ech L → Ech (joined L M) ∧ ∀ x, Sp (joined L M) x ↔ Sp (L ++ M) x
  | [], L, h => ⟨h, fun x => by simp [joined]⟩
  | r :: M, L, h => by
    obtain ⟨h1, h2⟩ := add_spec h r
    obtain ⟨h3, h4⟩ := joined_spec M h1
    refine ⟨h3, fun x => (h4 x).trans ⟨Sp.sub fun s hs => ?_, Sp.sub fun s hs => ?_⟩⟩
    · rcases List.mem_append.1 hs with hs | hs
      · exact Sp.sub (fun t ht => Sp.mem (by simp at ht ⊢; rcases ht with rfl | ht <;> simp [*])) ((h2 s).1 (Sp.mem hs))
      · exact Sp.mem (by simp [hs])
    · rcases List.mem_append.1 hs with hs | hs
      · exact Sp.sub (fun t ht => Sp.mem (by simp [ht])) ((h2 s).2 (.skip r (Sp.mem hs)))
      · rcases List.mem_cons.1 hs with rfl | hs
        · exact Sp.sub (fun t ht => Sp.mem (by simp [ht])) ((h2 s).2 (Sp.mem (by simp)))
        · exact Sp.mem (by simp [hs])

theorem Sp.lt {c : Nat} {L : List Nat} (h : ∀ r ∈ L, r < 2 ^ c) {x : Nat} (k : Sp L x) : x < 2 ^ c :=
  Sp.least (S := fun x => x < 2 ^ c) (Nat.two_pow_pos c) (fun _ _ a b => Nat.xor_lt_two_pow a b) h k
theorem zero_of_bits {c x : Nat} (h : x < 2 ^ c) (k : ∀ j, j < c → x.testBit j = false) : x = 0 := by
  apply Nat.eq_of_testBit_eq
  intro i
  rw [Nat.zero_testBit]
  rcases Nat.lt_or_ge i c with e | e
  · exact k i e
  · exact Nat.testBit_lt_two_pow (Nat.lt_of_lt_of_le h (Nat.pow_le_pow_right (by omega) e))
theorem ld_lt {c x : Nat} (h : x < 2 ^ c) (hx : x ≠ 0) : ld x < c := by
  rcases Nat.lt_or_ge (ld x) c with e | e
  · exact e
  · exact absurd (zero_of_bits h (fun j hj => ld_low hx (by omega))) hx
theorem Ech.length : ∀ {L : List Nat} {c : Nat} (b : Nat), Ech L → (∀ s ∈ L, s < 2 ^ c) → (∀ s ∈ L, b ≤ ld s) → b ≤ c → L.length + b ≤ c
  | [], c, b, _, _, _, hb => by simpa using hb
  | r :: L, c, b, h, hc, hb, hbc => by
    have h1 := ld_lt (hc r (by simp)) (h.ne r (by simp))
    have h2 := hb r (by simp)
    have := Ech.length (ld r + 1) h.tail (fun s hs => hc s (List.mem_cons_of_mem _ hs)) (fun s hs => (h.head s hs).1) (by omega)
    simp only [List.length_cons]; omega
theorem Ech.len {L : List Nat} {c : Nat} (h : Ech L) (hc : ∀ s ∈ L, s < 2 ^ c) : L.length ≤ c := by
  have := Ech.length 0 h hc (fun _ _ => Nat.zero_le _) (Nat.zero_le _); omega
theorem joined_lt {c : Nat} {L M : List Nat} (h : Ech L) (hL : ∀ r ∈ L, r < 2 ^ c) (hM : ∀ r ∈ M, r < 2 ^ c) : ∀ r ∈ joined L M, r < 2 ^ c := fun r hr =>
  Sp.lt (L := L ++ M) (fun s hs => (List.mem_append.1 hs).elim (hL s) (hM s)) (((joined_spec M h).2 r).1 (Sp.mem hr))

/-- The model's elimination: a row from which another one is taken if it has a bit. -/
def clr (k q s : Nat) : Nat := if s.testBit k then s ^^^ q else s
/-- One column of the model's elimination. -/
def colStep (k : Nat) (st : List Nat × List Nat) : List Nat × List Nat :=
  match st.1.findIdx? (fun s => s.testBit k) with
  | none => st
  | some a => ((st.1.set a 0).map (clr k (st.1.getD a 0)), st.2.map (clr k (st.1.getD a 0)) ++ [st.1.getD a 0])
def cols (L : List Nat) : Nat → List Nat × List Nat
  | 0 => (L, [])
  | k + 1 => colStep k (cols L k)

structure ColInv (c : Nat) (L : List Nat) (k : Nat) (st : List Nat × List Nat) : Prop where
  ech : Ech st.2
  low : ∀ s ∈ st.2, ld s < k
  left : ∀ r ∈ st.1, r < 2 ^ c ∧ ∀ j, j < k → r.testBit j = false
  sp : ∀ x, Sp (st.2 ++ st.1) x ↔ Sp L x
  len : st.1.length = L.length

theorem ColInv.step {c : Nat} {L : List Nat} {k : Nat} {st : List Nat × List Nat} (h : ColInv c L k st) : ColInv c L (k + 1) (colStep k st) := by
  unfold colStep
  cases hf : st.1.findIdx? (fun s => s.testBit k) with
  | none =>
    rw [List.findIdx?_eq_none_iff] at hf
    refine ⟨h.ech, fun s hs => by have := h.low s hs; omega, fun r hr => ⟨(h.left r hr).1, fun j hj => ?_⟩, h.sp, h.len⟩
    rcases Nat.lt_or_eq_of_le (Nat.le_of_lt_succ hj) with e | e
    · exact (h.left r hr).2 j e
    · subst e; simpa using hf r hr
  | some a =>
    obtain ⟨ha, hb, _⟩ := List.findIdx?_eq_some_iff_getElem.1 hf
    have hq0 : st.1.getD a 0 = st.1[a] := by rw [List.getD_eq_getElem?_getD, List.getElem?_eq_getElem ha]; rfl
    simp only [hq0]
    generalize hq : st.1[a] = q at hb ⊢
    have hqm : q ∈ st.1 := hq ▸ List.getElem_mem ha
    have hl : ld q = k := ld_eq hb (h.left q hqm).2
    have hne : q ≠ 0 := ne_of_bit hb
    have hout : st.2.map (clr k q) ++ [q] = ins st.2 q := by
      have hp : place st.2 q = st.2.length := by
        unfold place; rw [List.countP_eq_length]; intro s hs; have := h.low s hs; simp; omega
      have hc : clr k q = chg q := by funext s; simp [clr, chg, hl]
      unfold ins
      rw [hc, hp, List.take_of_length_le (by simp), List.drop_of_length_le (by simp)]
    have hqb : ∀ s ∈ st.2, q.testBit (ld s) = false := fun s hs => (h.left q hqm).2 _ (h.low s hs)
    have hlow : ∀ s ∈ ins st.2 q, ld s < k + 1 := by
      intro s hs
      rw [← hout] at hs
      rcases List.mem_append.1 hs with hs | hs
      · obtain ⟨t, ht, rfl⟩ := List.mem_map.1 hs
        have hc : clr k q t = chg q t := by simp [clr, chg, hl]
        rw [hc]
        have := (chg_spec (h.ech.ne t ht) hne (hqb t ht)).2.1
        have := h.low t ht
        omega
      · have : s = q := by simpa using hs
        rw [this, hl]; omega
    have hset : ∀ r ∈ (st.1.set a 0), r = 0 ∨ r ∈ st.1 := by
      intro r hr
      rcases List.mem_or_eq_of_mem_set hr with h | h
      · exact .inr h
      · exact .inl h
    refine ⟨by rw [hout]; exact ins_ech h.ech hne hqb, by rw [hout]; exact hlow, fun r hr => ?_, fun x => ?_, by simp [h.len]⟩
    · obtain ⟨t, ht, rfl⟩ := List.mem_map.1 hr
      have ht2 : t < 2 ^ c ∧ ∀ j, j < k → t.testBit j = false := by
        rcases hset t ht with rfl | ht
        · exact ⟨Nat.two_pow_pos c, fun j _ => by simp⟩
        · exact h.left t ht
      have hq2 := h.left q hqm
      unfold clr
      by_cases e : t.testBit k = true
      · rw [if_pos e]
        refine ⟨Nat.xor_lt_two_pow ht2.1 hq2.1, fun j hj => ?_⟩
        rw [Nat.testBit_xor]
        rcases Nat.lt_or_eq_of_le (Nat.le_of_lt_succ hj) with e2 | e2
        · rw [ht2.2 j e2, hq2.2 j e2]; rfl
        · subst e2; rw [e, hb]; rfl
      · rw [if_neg e]
        refine ⟨ht2.1, fun j hj => ?_⟩
        rcases Nat.lt_or_eq_of_le (Nat.le_of_lt_succ hj) with e2 | e2
        · exact ht2.2 j e2
        · subst e2; simpa using e
    · rw [hout]
      refine Iff.trans ⟨Sp.sub fun s hs => ?_, Sp.sub fun s hs => ?_⟩ (h.sp x)
      · rcases List.mem_append.1 hs with hs | hs
        · refine Sp.sub (fun t ht => ?_) ((ins_span s).1 (Sp.mem hs))
          rcases List.mem_cons.1 ht with rfl | ht
          · exact Sp.mem (by simp [hqm])
          · exact Sp.mem (by simp [ht])
        · obtain ⟨t, ht, rfl⟩ := List.mem_map.1 hs
          have h1 : Sp (st.2 ++ st.1) t := by
            rcases hset t ht with rfl | ht
            · exact Sp.zero _
            · exact Sp.mem (by simp [ht])
          unfold clr
          split
          · exact h1.xor (Sp.mem (by simp [hqm]))
          · exact h1
      · have hqS : Sp (ins st.2 q ++ (st.1.set a 0).map (clr k q)) q := Sp.mem (by simp [ins])
        rcases List.mem_append.1 hs with hs | hs
        · refine Sp.sub (L := ins st.2 q) (fun t ht => Sp.mem (by simp [ht])) ((ins_span s).2 (Sp.mem (by simp [hs])))
        · obtain ⟨i, hi, rfl⟩ := List.getElem_of_mem hs
          by_cases e : i = a
          · subst e; rw [hq]; exact hqS
          · have hm : clr k q st.1[i] ∈ (st.1.set a 0).map (clr k q) := by
              refine List.mem_map.2 ⟨_, ?_, rfl⟩
              have : (st.1.set a 0)[i]'(by simpa using hi) = st.1[i] := by rw [List.getElem_set]; simp [Ne.symm e]
              rw [← this]; exact List.getElem_mem _
            have h1 : Sp (ins st.2 q ++ (st.1.set a 0).map (clr k q)) (clr k q st.1[i]) := Sp.mem (List.mem_append.2 (.inr hm))
            unfold clr at h1
            split at h1
            · have h2 := h1.xor hqS
              rwa [Nat.xor_assoc, Nat.xor_self, Nat.xor_zero] at h2
            · exact h1

theorem cols_inv {c : Nat} {L : List Nat} (hL : ∀ r ∈ L, r < 2 ^ c) : ∀ k, ColInv c L k (cols L k)
  | 0 => ⟨.nil, by simp [cols], fun r hr => ⟨hL r hr, fun j hj => by omega⟩, fun x => by simp [cols], rfl⟩
  | k + 1 => (cols_inv hL k).step

/-- The model's echelon form is the program's. -/
theorem cols_eq {c : Nat} {L : List Nat} (hL : ∀ r ∈ L, r < 2 ^ c) : (cols L c).2 = joined [] L := by
  have h := cols_inv hL c
  obtain ⟨h1, h2⟩ := joined_spec L Ech.nil
  refine Ech.unique h.ech h1 (fun x => ?_)
  rw [h2 x, List.nil_append, ← h.sp x]
  refine ⟨Sp.sub fun s hs => Sp.mem (by simp [hs]), Sp.sub fun s hs => ?_⟩
  rcases List.mem_append.1 hs with hs | hs
  · exact Sp.mem hs
  · rw [zero_of_bits (h.left s hs).1 (h.left s hs).2]; exact Sp.zero _
end Go.Proofs.Ytlchelaohiojiaa
namespace Go.Proofs.Ytlchelaohiojiaa
set_option linter.unusedVariables false

/-- The row with a number; 0 if there is none. -/
def nth (L : List Nat) (j : Nat) : Nat := L.getD j 0
/-- Whether numbers are the columns and rows of a valid matrix. -/
def okM (c : Int) (zs : List Int) : Bool := decide (1 ≤ c ∧ c ≤ 10 ∧ zs.length ≤ 10) && zs.all fun z => decide (0 ≤ z ∧ z < 2 ^ c.toNat)
/-- Rows as integers. -/
def ints (L : List Nat) : List Int := L.map fun (r : Nat) => (r : Int)
theorem ints_length (L : List Nat) : (ints L).length = L.length := by simp [ints]
theorem ints_get (L : List Nat) (j : Nat) : (ints L)[j]?.getD 0 = ((nth L j : Nat) : Int) := by
  rw [nth, List.getD_eq_getElem?_getD]
  simp only [ints, List.getElem?_map]
  cases L[j]? <;> rfl
structure OkM (C : Nat) (L : List Nat) : Prop where
  c1 : 1 ≤ C
  c10 : C ≤ 10
  n10 : L.length ≤ 10
  lt : ∀ r ∈ L, r < 2 ^ C
theorem OkM.get {C : Nat} {L : List Nat} (h : OkM C L) (j : Nat) : nth L j < 2 ^ C := by
  rw [nth, List.getD_eq_getElem?_getD]
  cases e : L[j]? with
  | none => exact Nat.two_pow_pos C
  | some r => exact h.lt r (List.mem_of_getElem? e)
theorem pow_le10 {C : Nat} (h : C ≤ 10) : 2 ^ C ≤ 1024 := Nat.pow_le_pow_right (n := 2) (by omega) h
theorem OkM.get' {C : Nat} {L : List Nat} (h : OkM C L) (j : Nat) : nth L j < 1024 := Nat.lt_of_lt_of_le (h.get j) (pow_le10 h.c10)
theorem okM_nat {c : Int} {zs : List Int} (h : okM c zs = true) : ∃ (C : Nat) (L : List Nat), c = C ∧ zs = ints L ∧ OkM C L := by
  simp only [okM, Bool.and_eq_true, decide_eq_true_eq, List.all_eq_true] at h
  obtain ⟨⟨h1, h2, h3⟩, h4⟩ := h
  refine ⟨c.toNat, zs.map Int.toNat, by omega, ?_, by omega, by omega, by simpa using h3, fun r hr => ?_⟩
  · have : ∀ (l : List Int), (∀ z ∈ l, 0 ≤ z) → l = ints (l.map Int.toNat) := by
      intro l
      induction l with
      | nil => intro _; rfl
      | cons z l ih =>
        intro hl
        have h0 := hl z (by simp)
        have h1 := ih (fun y hy => hl y (List.mem_cons_of_mem _ hy))
        simp only [ints, List.map_cons] at h1 ⊢
        rw [← h1, Int.toNat_of_nonneg h0]
    exact this zs (fun z hz => (h4 z hz).1)
  · obtain ⟨z, hz, rfl⟩ := List.mem_map.1 hr
    have := h4 z hz
    have e : ((2 ^ c.toNat : Nat) : Int) = 2 ^ c.toNat := by simp
    omega
theorem okM_ints {C : Nat} {L : List Nat} (h : OkM C L) : okM C (ints L) = true := by
  simp only [okM, Bool.and_eq_true, decide_eq_true_eq, List.all_eq_true]
  refine ⟨⟨by have := h.c1; omega, by have := h.c10; omega, by rw [ints_length]; exact h.n10⟩, fun z hz => ?_⟩
  obtain ⟨r, hr, rfl⟩ := List.mem_map.1 hz
  have := h.lt r hr
  have e : ((2 ^ C : Nat) : Int) = 2 ^ C := by simp
  simp only [Int.toNat_natCast]
  omega
theorem take_succ' {L : List Nat} {k : Nat} (h : k < L.length) : L.take (k + 1) = L.take k ++ [nth L k] := by
  rw [List.take_add_one, nth, List.getD_eq_getElem?_getD, List.getElem?_eq_getElem h]; rfl
/-- The sum of the first k of the rows that the bits of a number tell. -/
def tms (r : Nat) (L : List Nat) : Nat → Nat
  | 0 => 0
  | k + 1 => if r.testBit k then tms r L k ^^^ nth L k else tms r L k
theorem tms_lt {C : Nat} {L : List Nat} (h : ∀ j, nth L j < 2 ^ C) (r : Nat) : ∀ k, tms r L k < 2 ^ C
  | 0 => Nat.two_pow_pos C
  | k + 1 => by
    simp only [tms]
    split
    · exact Nat.xor_lt_two_pow (tms_lt h r k) (h k)
    · exact tms_lt h r k
/-- The first k elements of a column, as a row. -/
def colm (L : List Nat) (c : Nat) : Nat → Nat
  | 0 => 0
  | k + 1 => if (nth L k).testBit c then colm L c k ^^^ 2 ^ k else colm L c k
theorem colm_lt (L : List Nat) (c : Nat) : ∀ k, colm L c k < 2 ^ k
  | 0 => by simp [colm]
  | k + 1 => by
    have := colm_lt L c k
    simp only [colm]
    split
    · exact Nat.xor_lt_two_pow (Nat.lt_of_lt_of_le this (Nat.pow_le_pow_right (by omega) (by omega))) (Nat.pow_lt_pow_right (by omega) (by omega))
    · exact Nat.lt_of_lt_of_le this (Nat.pow_le_pow_right (by omega) (by omega))
theorem or_pow {x k : Nat} (h : x < 2 ^ k) : x ||| 2 ^ k = x ^^^ 2 ^ k := by
  apply Nat.eq_of_testBit_eq
  intro i
  rw [Nat.testBit_or, Nat.testBit_xor, Nat.testBit_two_pow]
  by_cases e : k = i
  · subst e; rw [Nat.testBit_lt_two_pow h]; simp
  · simp [e]
theorem range_succ_map {α : Type} (f : Nat → α) (k : Nat) : (List.range (k + 1)).map f = (List.range k).map f ++ [f k] := by
  rw [List.range_succ, List.map_append]; rfl
end Go.Proofs.Ytlchelaohiojiaa
namespace Go.Proofs.Ytlchelaohiojiaa
set_option linter.unusedVariables false

/-- What the first k rows leave of a row. -/
def restTo (L : List Nat) (r k : Nat) : Nat := rest (L.take k) r
theorem restTo_zero (L : List Nat) (r : Nat) : restTo L r 0 = r := rfl
theorem restTo_all (L : List Nat) (r : Nat) : restTo L r L.length = rest L r := by rw [restTo, List.take_length]
theorem restTo_succ {L : List Nat} {k : Nat} (r : Nat) (hk : k < L.length) : restTo L r (k + 1) = if (restTo L r k).testBit (ld (nth L k)) then restTo L r k ^^^ nth L k else restTo L r k := by
  rw [restTo, take_succ' hk, rest, List.foldl_append]; rfl
theorem restTo_lt {L : List Nat} {r b : Nat} (hr : r < 2 ^ b) (hL : ∀ j, nth L j < 2 ^ b) : ∀ k, k ≤ L.length → restTo L r k < 2 ^ b
  | 0, _ => hr
  | k + 1, hk => by
    rw [restTo_succ r (by omega)]
    have := restTo_lt hr hL k (by omega)
    split
    · exact Nat.xor_lt_two_pow this (hL k)
    · exact this
theorem rest_lt {L : List Nat} {r b : Nat} (hr : r < 2 ^ b) (hL : ∀ j, nth L j < 2 ^ b) : rest L r < 2 ^ b := by
  rw [← restTo_all]; exact restTo_lt hr hL _ (Nat.le_refl _)

theorem nth_map_chg (L : List Nat) (q j : Nat) : nth (L.map (chg q)) j = chg q (nth L j) := by
  simp only [nth, List.getD_eq_getElem?_getD, List.getElem?_map]
  cases L[j]? with
  | none => simp [chg]
  | some x => rfl
theorem nth_len {L : List Nat} {j : Nat} (h : L.length ≤ j) : nth L j = 0 := by
  simp [nth, List.getD_eq_getElem?_getD, List.getElem?_eq_none h]
theorem nth_put (A : List Nat) (p q j : Nat) (hp : p ≤ A.length) : nth (A.take p ++ q :: A.drop p) j = if j < p then nth A j else if j = p then q else nth A (j - 1) := by
  have hl : (A.take p).length = p := by rw [List.length_take]; omega
  simp only [nth, List.getD_eq_getElem?_getD, List.getElem?_append, hl]
  by_cases h1 : j < p
  · rw [if_pos h1, if_pos h1, List.getElem?_take, if_pos h1]
  · rw [if_neg h1, if_neg h1]
    by_cases h2 : j = p
    · subst h2; rw [if_pos rfl, Nat.sub_self]; rfl
    · rw [if_neg h2]
      obtain ⟨m, rfl⟩ : ∃ m, j = p + (m + 1) := ⟨j - p - 1, by omega⟩
      rw [show p + (m + 1) - p = m + 1 by omega, List.getElem?_cons_succ, List.getElem?_drop, show p + (m + 1) - 1 = p + m by omega]
theorem place_le (L : List Nat) (q : Nat) : place L q ≤ L.length := List.countP_le_length
theorem ins_len (L : List Nat) (q : Nat) : (ins L q).length = L.length + 1 := by
  have := place_le L q
  simp [ins]; omega
theorem nth_ins (L : List Nat) (q j : Nat) : nth (ins L q) j = if j < place L q then chg q (nth L j) else if j = place L q then q else chg q (nth L (j - 1)) := by
  rw [ins, nth_put _ _ _ _ (by simpa using place_le L q), nth_map_chg, nth_map_chg]
/-- The rows of which the first i have been changed. -/
def part (L : List Nat) (q i j : Nat) : Nat := if j < i then chg q (nth L j) else nth L j
/-- How many of the first i rows stand before q. -/
def placeTo (L : List Nat) (q i : Nat) : Nat := place (L.take i) q
theorem placeTo_zero (L : List Nat) (q : Nat) : placeTo L q 0 = 0 := rfl
theorem placeTo_all (L : List Nat) (q : Nat) : placeTo L q L.length = place L q := by rw [placeTo, List.take_length]
theorem placeTo_succ {L : List Nat} {i : Nat} (q : Nat) (h : i < L.length) : placeTo L q (i + 1) = if ld (nth L i) < ld q then placeTo L q i + 1 else placeTo L q i := by
  rw [placeTo, take_succ' h, place, List.countP_append]
  by_cases hb : ld (nth L i) < ld q
  · rw [if_pos hb]; simp [hb, placeTo, place]
  · rw [if_neg hb]; simp [hb, placeTo, place]
theorem placeTo_le {L : List Nat} {q i : Nat} (h : i ≤ L.length) : placeTo L q i ≤ i := by
  have := place_le (L.take i) q
  rw [List.length_take] at this; unfold placeTo; omega
theorem chg_lt {q s b : Nat} (hq : q < 2 ^ b) (hs : s < 2 ^ b) : chg q s < 2 ^ b := by
  unfold chg; split
  · exact Nat.xor_lt_two_pow hs hq
  · exact hs
theorem chg_zero (q : Nat) : chg q 0 = 0 := by simp [chg]
theorem nth_ne {L : List Nat} (h : Ech L) {j : Nat} (hj : j < L.length) : nth L j ≠ 0 := by
  have : nth L j = L[j] := by simp [nth, hj]
  rw [this]; exact h.ne _ (List.getElem_mem hj)
theorem nth_mem {L : List Nat} {j : Nat} (hj : j < L.length) : nth L j ∈ L := by
  have : nth L j = L[j] := by simp [nth, hj]
  rw [this]; exact List.getElem_mem hj
theorem ld_lt_of {b x : Nat} (h : x < 2 ^ b) (hx : x ≠ 0) : ld x < b := ld_lt h hx
theorem joined_snoc (L M : List Nat) (r : Nat) : joined L (M ++ [r]) = add (joined L M) r := by simp [joined, List.foldl_append]
theorem joined_take {L M : List Nat} {k : Nat} (hk : k < M.length) : joined L (M.take (k + 1)) = add (joined L (M.take k)) (nth M k) := by
  rw [take_succ' hk, joined_snoc]
theorem part_all (L : List Nat) (q j : Nat) : part L q L.length j = chg q (nth L j) := by
  unfold part
  by_cases h : j < L.length
  · rw [if_pos h]
  · rw [if_neg h, nth_len (by omega), chg_zero]
theorem part_zero (L : List Nat) (q j : Nat) : part L q 0 j = nth L j := by unfold part; rw [if_neg (by omega)]
theorem part_succ (L : List Nat) (q i j : Nat) : part L q (i + 1) j = if j = i then chg q (nth L i) else part L q i j := by
  unfold part
  by_cases h : j = i
  · subst h; rw [if_pos (by omega), if_pos rfl]
  · rw [if_neg h]
    by_cases h2 : j < i
    · rw [if_pos h2, if_pos (by omega)]
    · rw [if_neg h2, if_neg (by omega)]
theorem ins_fn (L : List Nat) (q j : Nat) : nth (ins L q) j = if j = place L q then q else if place L q < j ∧ j ≤ L.length then part L q L.length (j - 1) else part L q L.length j := by
  have hp := place_le L q
  rw [nth_ins, part_all, part_all]
  by_cases h1 : j < place L q
  · rw [if_pos h1, if_neg (by omega), if_neg (by omega)]
  · rw [if_neg h1]
    by_cases h2 : j = place L q
    · rw [if_pos h2, if_pos h2]
    · rw [if_neg h2, if_neg h2]
      by_cases h3 : j ≤ L.length
      · rw [if_pos ⟨by omega, h3⟩]
      · rw [if_neg (by omega), nth_len (show L.length ≤ j - 1 by omega), nth_len (show L.length ≤ j by omega)]
theorem add_zero_rest {L : List Nat} {r : Nat} (h : rest L r = 0) : add L r = L := by rw [add, if_pos h]
theorem add_rest {L : List Nat} {r : Nat} (h : rest L r ≠ 0) : add L r = ins L (rest L r) := by rw [add, if_neg h]
theorem nth_bound {L : List Nat} {b : Nat} (h : ∀ r ∈ L, r < 2 ^ b) (j : Nat) : nth L j < 2 ^ b := by
  rw [nth, List.getD_eq_getElem?_getD]
  cases e : L[j]? with
  | none => exact Nat.two_pow_pos b
  | some r => exact h r (List.mem_of_getElem? e)
theorem add_lt {C : Nat} {L : List Nat} {r : Nat} (hE : Ech L) (hL : ∀ s ∈ L, s < 2 ^ C) (hr : r < 2 ^ C) : ∀ s ∈ add L r, s < 2 ^ C :=
  joined_lt (M := [r]) hE hL (by intro s hs; simp at hs; rw [hs]; exact hr)
theorem span_len {C : Nat} {L : List Nat} {r : Nat} (hE : Ech L) (hL : ∀ s ∈ L, s < 2 ^ C) (hr : r < 2 ^ C) (h : rest L r ≠ 0) : L.length < C := by
  have h1 := (add_spec hE r).1.len (add_lt hE hL hr)
  rw [add_rest h, ins_len] at h1; omega
theorem take_lt {C : Nat} {M : List Nat} (hM : ∀ s ∈ M, s < 2 ^ C) (k : Nat) : ∀ s ∈ M.take k, s < 2 ^ C := fun s hs => hM s (List.mem_of_mem_take hs)
theorem lt20 {C : Nat} {L : List Nat} (hC : C ≤ 20) (hL : ∀ s ∈ L, s < 2 ^ C) (j : Nat) : nth L j < 2 ^ 20 := Nat.lt_of_lt_of_le (nth_bound hL j) (Nat.pow_le_pow_right (n := 2) (by omega) hC)
theorem lt32 {C : Nat} {L : List Nat} (hC : C ≤ 20) (hL : ∀ s ∈ L, s < 2 ^ C) (j : Nat) : nth L j < 4294967296 := Nat.lt_trans (lt20 hC hL j) (by omega)
end Go.Proofs.Ytlchelaohiojiaa
namespace Go.Proofs.Ytlchelaohiojiaa
set_option linter.unusedVariables false

/-- A list of which the first i elements have been changed. -/
def upto (g : Nat → Nat) (A : List Nat) (i : Nat) : List Nat := (A.take i).map g ++ A.drop i
theorem upto_zero (g : Nat → Nat) (A : List Nat) : upto g A 0 = A := by simp [upto]
theorem upto_all (g : Nat → Nat) (A : List Nat) : upto g A A.length = A.map g := by simp [upto]
theorem upto_len (g : Nat → Nat) (A : List Nat) (i : Nat) : (upto g A i).length = A.length := by simp [upto]; omega
theorem upto_get (g : Nat → Nat) (A : List Nat) (i : Nat) (h : i < A.length) : nth (upto g A i) i = nth A i := by
  have hl : ((A.take i).map g).length = i := by simp; omega
  rw [upto, nth, nth, List.getD_eq_getElem?_getD, List.getD_eq_getElem?_getD, List.getElem?_append, hl, if_neg (Nat.lt_irrefl i), Nat.sub_self, List.getElem?_drop, Nat.add_zero]
theorem upto_succ (g : Nat → Nat) (A : List Nat) (i : Nat) (h : i < A.length) : upto g A (i + 1) = (upto g A i).set i (g (nth A i)) := by
  have hl : ((A.take i).map g).length = i := by simp; omega
  have e : A.drop i = nth A i :: A.drop (i + 1) := by
    rw [List.drop_eq_getElem_cons h]; simp [nth, h]
  rw [upto, upto, take_succ' h, List.map_append, List.set_append, hl, if_neg (Nat.lt_irrefl i), e, Nat.sub_self]
  simp
theorem set_nth (A : List Nat) (i : Nat) (h : i < A.length) : A.set i (nth A i) = A := by
  have : nth A i = A[i] := by simp [nth, h]
  rw [this, List.set_getElem_self]
theorem upto_same (g : Nat → Nat) (A : List Nat) (i : Nat) (h : i < A.length) (hg : g (nth A i) = nth A i) : upto g A (i + 1) = upto g A i := by
  rw [upto_succ g A i h, hg, ← upto_get g A i h]
  exact set_nth _ _ (by rw [upto_len]; exact h)
theorem ints_set (A : List Nat) (i x : Nat) : ints (A.set i x) = (ints A).set i (x : Int) := by simp [ints, List.map_set]
theorem ints_append (A B : List Nat) : ints (A ++ B) = ints A ++ ints B := by simp [ints]
theorem nth_set (A : List Nat) (a j x : Nat) (ha : a < A.length) : nth (A.set a x) j = if j = a then x else nth A j := by
  simp only [nth, List.getD_eq_getElem?_getD, List.getElem?_set]
  by_cases h : a = j
  · subst h; simp [ha]
  · rw [if_neg h, if_neg (fun e => h e.symm)]

/-- No row ahead of the place i has the bit k. -/
def noneTo (A : List Nat) (k i : Nat) : Prop := ∀ j, j < i → (nth A j).testBit k = false
theorem find_none {A : List Nat} {k : Nat} (h : noneTo A k A.length) : A.findIdx? (fun s => s.testBit k) = none := by
  rw [List.findIdx?_eq_none_iff]
  intro x hx
  obtain ⟨j, hj, rfl⟩ := List.mem_iff_getElem.1 hx
  have := h j hj
  simpa [nth, hj] using this
theorem find_some {A : List Nat} {k a : Nat} (ha : a < A.length) (h : noneTo A k a) (hb : (nth A a).testBit k = true) : A.findIdx? (fun s => s.testBit k) = some a := by
  rw [List.findIdx?_eq_some_iff_getElem]
  refine ⟨ha, by simpa [nth, ha] using hb, fun j hj => ?_⟩
  have := h j hj
  have hj' : j < A.length := by omega
  simpa [nth, hj'] using this
theorem colStep_none {k : Nat} {st : List Nat × List Nat} (h : noneTo st.1 k st.1.length) : colStep k st = st := by
  unfold colStep; rw [find_none h]
theorem colStep_some {k a : Nat} {st : List Nat × List Nat} (ha : a < st.1.length) (h : noneTo st.1 k a) (hb : (nth st.1 a).testBit k = true) :
    colStep k st = ((st.1.set a 0).map (clr k (nth st.1 a)), st.2.map (clr k (nth st.1 a)) ++ [nth st.1 a]) := by
  unfold colStep; rw [find_some ha h hb]; rfl
theorem clr_yes {k q s : Nat} (h : s.testBit k = true) : clr k q s = s ^^^ q := by rw [clr, if_pos h]
theorem clr_no {k q s : Nat} (h : s.testBit k = false) : clr k q s = s := by rw [clr, if_neg (by rw [h]; simp)]
theorem colStep_len (k : Nat) (st : List Nat × List Nat) : (colStep k st).1.length = st.1.length ∧ (colStep k st).2.length ≤ st.2.length + 1 := by
  unfold colStep
  cases st.1.findIdx? (fun s => s.testBit k) with
  | none => exact ⟨rfl, Nat.le_succ _⟩
  | some a => exact ⟨by simp, by simp⟩
theorem cols_len (L : List Nat) : ∀ k, (cols L k).1.length = L.length ∧ (cols L k).2.length ≤ k
  | 0 => ⟨rfl, Nat.le_refl _⟩
  | k + 1 => by
    have h := cols_len L k
    have e := colStep_len k (cols L k)
    rw [cols]; omega
theorem all_lt_of_mem {A : List Nat} {b : Nat} (hb : 0 < b) (h : ∀ r ∈ A, r < b) (j : Nat) : nth A j < b := by
  rw [nth, List.getD_eq_getElem?_getD]
  cases e : A[j]? with
  | none => exact hb
  | some r => exact h r (List.mem_of_getElem? e)
theorem colStep_lt {k b : Nat} {st : List Nat × List Nat} (h1 : ∀ r ∈ st.1, r < 2 ^ b) (h2 : ∀ r ∈ st.2, r < 2 ^ b) : (∀ r ∈ (colStep k st).1, r < 2 ^ b) ∧ ∀ r ∈ (colStep k st).2, r < 2 ^ b := by
  have hp : 0 < 2 ^ b := Nat.two_pow_pos b
  unfold colStep
  cases st.1.findIdx? (fun s => s.testBit k) with
  | none => exact ⟨h1, h2⟩
  | some a =>
    have hl : st.1.getD a 0 < 2 ^ b := all_lt_of_mem hp h1 a
    have hc : ∀ s, s < 2 ^ b → clr k (st.1.getD a 0) s < 2 ^ b := fun s hs => by
      unfold clr; split
      · exact Nat.xor_lt_two_pow hs hl
      · exact hs
    refine ⟨fun r hr => ?_, fun r hr => ?_⟩
    · obtain ⟨s, hs, rfl⟩ := List.mem_map.1 hr
      rcases List.mem_or_eq_of_mem_set hs with h | h
      · exact hc _ (h1 _ h)
      · exact hc _ (by omega)
    · rcases List.mem_append.1 hr with h | h
      · obtain ⟨s, hs, rfl⟩ := List.mem_map.1 h
        exact hc _ (h2 _ hs)
      · simp at h; rw [h]; exact hl
theorem cols_lt {L : List Nat} {b : Nat} (h : ∀ r ∈ L, r < 2 ^ b) : ∀ k, (∀ r ∈ (cols L k).1, r < 2 ^ b) ∧ ∀ r ∈ (cols L k).2, r < 2 ^ b
  | 0 => ⟨h, by simp [cols]⟩
  | k + 1 => colStep_lt (cols_lt h k).1 (cols_lt h k).2
theorem clr_lt {k q s b : Nat} (hq : q < 2 ^ b) (hs : s < 2 ^ b) : clr k q s < 2 ^ b := by
  unfold clr; split
  · exact Nat.xor_lt_two_pow hs hq
  · exact hs
theorem add_or (L : List Nat) (r : Nat) : add L r = L ∨ (add L r).length = L.length + 1 := by
  by_cases h : rest L r = 0
  · exact .inl (add_zero_rest h)
  · exact .inr (by rw [add_rest h, ins_len])
theorem joined_ge : ∀ (M L : List Nat), L.length ≤ (joined L M).length
  | [], L => Nat.le_refl _
  | r :: M, L => by
    have := joined_ge M (add L r)
    have e : joined L (r :: M) = joined (add L r) M := rfl
    rw [e]
    rcases add_or L r with h | h
    · rw [h] at this ⊢; exact this
    · omega
theorem joined_same : ∀ (M L : List Nat), (joined L M).length = L.length → joined L M = L
  | [], L, _ => rfl
  | r :: M, L, h => by
    have e : joined L (r :: M) = joined (add L r) M := rfl
    rw [e] at h ⊢
    rcases add_or L r with h1 | h1
    · rw [h1] at h ⊢; exact joined_same M L h
    · have := joined_ge M (add L r); omega
theorem joined_same_iff (L M : List Nat) : (joined L M).length = L.length ↔ joined L M = L := ⟨joined_same M L, fun h => by rw [h]⟩
theorem joined_append (L M : List Nat) : joined [] (L ++ M) = joined (joined [] L) M := List.foldl_append
end Go.Proofs.Ytlchelaohiojiaa
