/- Rows over a field as lists: what the model's columns do with them. Pure, of no program. · Rows of a list that a call has made and changes: its head in one block, each row in a block of its own. -/
import Derived.Test.YtljaabmemjehpaaWAdd
import Derived.Test.YtljaabmemjehpaaFCol
import Derived.Test.YtljaabmemjehpaaRowsS
namespace Go.Proofs.Ytljaabmemjehpaa
set_option linter.unusedVariables false

/-- A function changed at one place; the first n rows of a list of rows as functions. -/
def up {α : Type} (f : Nat → α) (i : Nat) (x : α) : Nat → α := fun j => if j = i then x else f j
theorem up_same {α : Type} (f : Nat → α) (i : Nat) (x : α) : up f i x i = x := if_pos rfl
theorem up_ne {α : Type} (f : Nat → α) {i j : Nat} (x : α) (h : j ≠ i) : up f i x j = f j := if_neg h
def fs (hs : Nat → List Nat) (n : Nat) : List (Nat → Nat) := (List.range n).map fun j => nth (hs j)
theorem fs_len (hs : Nat → List Nat) (n : Nat) : (fs hs n).length = n := by simp [fs]
theorem fs_get (hs : Nat → List Nat) {n j : Nat} (h : j < n) : (fs hs n).getD j vz = nth (hs j) := by simp [fs, h]
theorem getD_ext {L M : List (Nat → Nat)} (hl : L.length = M.length) (h : ∀ j, j < L.length → L.getD j vz = M.getD j vz) : L = M := by
  refine List.ext_getElem hl (fun j h1 h2 => ?_)
  have := h j h1
  simpa [h1, h2] using this
theorem nth_addW {m P n : Nat} (hF : Fld m P n) {p q : List Nat} {y k : Nat} (hp : p.length = k) (hq : q.length = k) (hy : y < n) (hlt : ∀ j, nth q j < n) : nth (addW P p q y k) = va (nth p) (vs P y (nth q)) := by
  funext j
  show nth (addW P p q y k) j = nth p j ^^^ mul P y (nth q j)
  rcases Nat.lt_or_ge j k with h | h
  · rw [addW, lst_nth _ h, mul_comm' hF (hlt j) hy]
  · rw [nth_ge (by rw [addW_len]; exact h), nth_ge (p := p) (by omega), nth_ge (p := q) (by omega), mul_zero' hF hy]; rfl
theorem addW_lt {m P n : Nat} (hF : Fld m P n) {p q : List Nat} {y k : Nat} (hp : p.length = k) (hq : q.length = k) (hy : y < n) (h1 : ∀ j, nth p j < n) (h2 : ∀ j, nth q j < n) : ∀ j, nth (addW P p q y k) j < n := fun j => by
  rw [nth_addW hF hp hq hy h2]
  exact hF.xor_lt (h1 j) (hF.mul_lt _ _)
theorem nth_zeros (k : Nat) : nth (lst (fun _ => 0) k) = vz := funext fun j => lst_nth0 (fun _ => rfl)
theorem out_nth {p : List Nat} {len : Nat} (h : p.length = len) : OutV len (nth p) := fun j hj => nth_ge (by omega)

/-- What holds behind c columns: the first rows are done, the others are left. -/
structure EC (P N len : Nat) (R : List (Nat → Nat)) (c n at_ : Nat) (hs : Nat → List Nat) : Prop where
  eq : fs hs n = (colsV P N len R c).1 ++ (colsV P N len R c).2
  done : (colsV P N len R c).1.length = at_
  len : ∀ j, j < n → (hs j).length = len
  lt : ∀ j, j < n → ∀ i, nth (hs j) i < N
section
variable {m P N len : Nat} (hF : Fld m P N) {R : List (Nat → Nat)} {c n at_ : Nat} {hs : Nat → List Nat}
include hF
omit hF in
theorem EC.count (h : EC P N len R c n at_ hs) : n = at_ + (colsV P N len R c).2.length := by
  have := congrArg List.length h.eq
  rw [fs_len, List.length_append, h.done] at this
  exact this
omit hF in
theorem EC.le (h : EC P N len R c n at_ hs) : at_ ≤ n := by have := h.count; omega
omit hF in
theorem EC.fst (h : EC P N len R c n at_ hs) {j : Nat} (hj : j < at_) : (colsV P N len R c).1.getD j vz = nth (hs j) := by
  have hn := h.count
  rw [← fs_get hs (show j < n by omega), h.eq]
  simp only [List.getD_eq_getElem?_getD]
  rw [List.getElem?_append_left (by rw [h.done]; exact hj)]
omit hF in
theorem EC.snd (h : EC P N len R c n at_ hs) {j : Nat} (hj : at_ ≤ j) (hjn : j < n) : (colsV P N len R c).2.getD (j - at_) vz = nth (hs j) := by
  rw [← fs_get hs hjn, h.eq]
  simp only [List.getD_eq_getElem?_getD]
  rw [List.getElem?_append_right (by rw [h.done]; exact hj), h.done]
omit hF in
theorem EC.skip (h : EC P N len R c n at_ hs) (h0 : ∀ j, at_ ≤ j → j < n → nth (hs j) c = 0) : EC P N len R (c + 1) n at_ hs := by
  have hn := h.count
  have e : colsV P N len R (c + 1) = colsV P N len R c := by
    rw [colsV, colV]
    have : (colsV P N len R c).2.findIdx? (fun s => s c != 0) = none := by
      rw [List.findIdx?_eq_none_iff]
      intro s hs'
      obtain ⟨i, hi, rfl⟩ := List.getElem_of_mem hs'
      have h1 := h.snd (j := at_ + i) (by omega) (by omega)
      rw [Nat.add_sub_cancel_left] at h1
      have h2 : (colsV P N len R c).2[i] = nth (hs (at_ + i)) := by rw [← h1]; simp [hi]
      rw [h2, h0 _ (by omega) (by omega)]; rfl
    rw [this]
  exact ⟨by rw [e]; exact h.eq, by rw [e]; exact h.done, h.len, h.lt⟩
/-- The row that is taken, with its first element made 1. -/
def normW (P N len c : Nat) (p : List Nat) : List Nat := addW P (lst (fun _ => 0) len) p (inv P N (nth p c)) len
/-- The rows behind a step. -/
def stepW (P len c at_ k : Nat) (q : List Nat) (hs : Nat → List Nat) (j : Nat) : List Nat :=
  if j = at_ then q else if nth (up hs k (hs at_) j) c = 0 then up hs k (hs at_) j else addW P (up hs k (hs at_) j) q (nth (up hs k (hs at_) j) c) len
theorem EC.step (h : EC P N len R c n at_ hs) (hR : ∀ r ∈ R, InV N r ∧ OutV len r) (hc : c < len) {k : Nat} (hk1 : at_ ≤ k) (hk2 : k < n) (hne : nth (hs k) c ≠ 0) (h0 : ∀ j, at_ ≤ j → j < k → nth (hs j) c = 0) :
    EC P N len R (c + 1) n (at_ + 1) (stepW P len c at_ k (normW P N len c (hs k)) hs) := by
  have hn := h.count
  have hCV := colsV_inv hF hR c (by omega)
  have hat : at_ < n := by omega
  have hlk := h.len k hk2
  have hltk := h.lt k hk2
  have hB : (colsV P N len R c).2.length = n - at_ := by omega
  -- the row as a function
  have hrow : rowAt (colsV P N len R c).2 (k - at_) = nth (hs k) := h.snd hk1 hk2
  have hmem : nth (hs k) ∈ (colsV P N len R c).2 := by rw [← hrow]; exact rowAt_mem (by omega)
  have hlow : ∀ j, j < c → nth (hs k) j = 0 := hCV.low _ hmem
  have hld : ldv (nth (hs k)) len = c := ldv_eq hc hne hlow
  have hinv := inv_lt hF (nth (hs k) c)
  obtain ⟨q, hq⟩ : ∃ q, normW P N len c (hs k) = q := ⟨_, rfl⟩
  have hql : q.length = len := by rw [← hq]; exact addW_len _ _ _ _ _
  have hqf : nth q = normV P N len (nth (hs k)) := by
    rw [← hq, normW, nth_addW hF (lst_length _ _) hlk hinv hltk, nth_zeros, z_va, normV, hld, quo_inv hF]
  have hqlt : ∀ j, nth q j < N := fun j => by rw [hqf]; exact hF.mul_lt _ _
  obtain ⟨n1, n2, n3, n4, _⟩ := norm_spec hF hltk (out_nth hlk) (by rw [hld]; exact hc)
  rw [hld] at n3 n4
  rw [← hqf] at n3 n4
  have hchg : ∀ r : List Nat, r.length = len → (∀ j, nth r j < N) → nth (if nth r c = 0 then r else addW P r q (nth r c) len) = chgV P len (nth q) (nth r) := fun r h1 h2 => by
    rw [chgV, n3]
    by_cases e : nth r c = 0
    · rw [if_pos e, e, zero_vs hF hqlt, va_z]
    · rw [if_neg e, nth_addW hF h1 hql (h2 c) hqlt]
  have hup : ∀ j, j < n → (up hs k (hs at_) j).length = len ∧ ∀ i, nth (up hs k (hs at_) j) i < N := fun j hj => by
    unfold up
    split
    · exact ⟨h.len at_ hat, h.lt at_ hat⟩
    · exact ⟨h.len j hj, h.lt j hj⟩
  have hfind : (colsV P N len R c).2.findIdx? (fun s => s c != 0) = some (k - at_) := by
    rw [List.findIdx?_eq_some_iff_getElem]
    have hget : ∀ i, (hi : i < (colsV P N len R c).2.length) → (colsV P N len R c).2[i] = nth (hs (at_ + i)) := fun i hi => by
      have h1 := h.snd (j := at_ + i) (by omega) (by omega)
      rw [Nat.add_sub_cancel_left] at h1
      rw [← h1]; simp [hi]
    refine ⟨by omega, ?_, fun j hj => ?_⟩
    · rw [hget _ (by omega), show at_ + (k - at_) = k by omega]; simpa using hne
    · rw [hget _ (by omega), h0 _ (by omega) (by omega)]; simp
  have hst : colsV P N len R (c + 1) = ((colsV P N len R c).1.map (chgV P len (nth q)) ++ [nth q], leftV P len (nth q) (colsV P N len R c).2 (k - at_)) := by
    rw [colsV, colV, hfind]
    simp only [stepV]
    rw [hrow, ← hqf]
  rw [hq]
  have hlenL : (leftV P len (nth q) (colsV P N len R c).2 (k - at_)).length = n - at_ - 1 := by simp [leftV, hB]
  refine ⟨?_, by rw [hst]; simp [h.done], fun j hj => ?_, fun j hj => ?_⟩
  · rw [hst]
    refine getD_ext (by rw [fs_len]; simp only [List.length_append, List.length_map, List.length_singleton]; rw [hlenL, h.done]; omega) (fun j hj => ?_)
    rw [fs_len] at hj
    rw [fs_get _ hj]
    simp only [List.getD_eq_getElem?_getD]
    by_cases hlt : j < at_
    · rw [List.getElem?_append_left (by simp [h.done]; omega), List.getElem?_append_left (by simp [h.done]; omega), List.getElem?_map]
      have h1 := h.fst hlt
      simp only [List.getD_eq_getElem?_getD] at h1
      have hj1 : j < (colsV P N len R c).1.length := by rw [h.done]; exact hlt
      rw [List.getElem?_eq_getElem hj1] at h1 ⊢
      simp only [Option.map_some, Option.getD_some] at h1 ⊢
      rw [h1, stepW, if_neg (by omega)]
      have e : up hs k (hs at_) j = hs j := up_ne _ _ (by omega)
      rw [e]
      exact hchg _ (h.len j hj) (h.lt j hj)
    · by_cases he : j = at_
      · subst he
        rw [List.getElem?_append_left (by simp [h.done]), List.getElem?_append_right (by simp [h.done])]
        simp [h.done, stepW]
      · rw [List.getElem?_append_right (by simp [h.done]; omega)]
        simp only [List.length_append, List.length_map, List.length_singleton, h.done, leftV, List.getElem?_map, List.getElem?_drop, List.getElem?_set]
        rw [show 1 + (j - (at_ + 1)) = j - at_ by omega, stepW, if_neg he, hchg _ (hup j hj).1 (hup j hj).2]
        have hr0 : rowAt (colsV P N len R c).2 0 = nth (hs at_) := by
          have := h.snd (j := at_) (Nat.le_refl _) hat
          rwa [Nat.sub_self] at this
        by_cases hjk : j = k
        · subst hjk
          rw [if_pos rfl, if_pos (by omega), Option.map_some, Option.getD_some, hr0, up_same]
        · rw [if_neg (by omega), List.getElem?_eq_getElem (by omega), Option.map_some, Option.getD_some, up_ne _ _ hjk]
          have h1 := h.snd (j := j) (by omega) hj
          rw [List.getD_eq_getElem?_getD, List.getElem?_eq_getElem (by omega), Option.getD_some] at h1
          rw [h1]
  · obtain ⟨u1, u2⟩ := hup j hj
    unfold stepW
    split
    · exact hql
    · split
      · exact u1
      · exact addW_len _ _ _ _ _
  · obtain ⟨u1, u2⟩ := hup j hj
    unfold stepW
    split
    · exact hqlt
    · split
      · exact u2
      · exact addW_lt hF u1 hql (u2 c) u2 hqlt
end

/-- The echelon form of rows, as a list of lists of numbers. -/
def echL (P N len : Nat) (rows : List (List Int)) : List (List Int) := (joinV P N len [] (rows.map fun r => nth (nats r))).map fun f => ints (lst f len)
theorem EC.last {m P N len : Nat} (hF : Fld m P N) {rows : List (List Int)} {n at_ : Nat} {hs : Nat → List Nat} (hR : ∀ r ∈ rows.map (fun r => nth (nats r)), InV N r ∧ OutV len r) (h : EC P N len (rows.map fun r => nth (nats r)) len n at_ hs) :
    echL P N len rows = (List.range at_).map fun j => ints (hs j) := by
  have e := colsV_eq hF hR
  rw [echL, ← e]
  refine List.ext_getElem (by simp [h.done]) (fun j h1 h2 => ?_)
  have hj : j < at_ := by simpa using h2
  have hjl : j < (colsV P N len (rows.map fun r => nth (nats r)) len).1.length := by rw [h.done]; exact hj
  have h3 := h.fst hj
  rw [List.getD_eq_getElem?_getD, List.getElem?_eq_getElem hjl, Option.getD_some] at h3
  simp only [List.getElem_map, List.getElem_range]
  rw [h3, ← lst_of (h.len j (by have := h.le; omega))]
theorem EC.first {P N len : Nat} {R : List (Nat → Nat)} {n : Nat} {hs : Nat → List Nat} (he : fs hs n = R) (hl : ∀ j, j < n → (hs j).length = len) (ht : ∀ j, j < n → ∀ i, nth (hs j) i < N) : EC P N len R 0 n 0 hs := ⟨by simpa [colsV] using he, by simp [colsV], hl, ht⟩
end Go.Proofs.Ytljaabmemjehpaa
namespace Go.Proofs.Ytljaabmemjehpaa
open Go.RowKit Go.Joins
set_option linter.unusedVariables false

structure HW (W : World) (B g len n : Nat) (hs : Nat → List Nat) (vs : Nat → Value) (b : Nat → Nat) : Prop where
  lt : g < W.heap.size
  low : B ≤ g
  cell : ∀ j, j < n → W.cell? ⟨g, j, none⟩ = some (vs j)
  free : ∀ j, W.frozen? ⟨g, j, none⟩ = false
  form : ∀ j, j < n → ∃ cj, vs j = .slice (some ⟨b j, 0, none⟩) len cj
  row : ∀ j, j < n → Rl W .i64 (some ⟨b j, 0, none⟩) len (hs j)
  own : ∀ j, j < n → B ≤ b j ∧ b j ≠ g ∧ b j < W.heap.size ∧ ∀ i, W.frozen? ⟨b j, i, none⟩ = false
theorem HW.below {W W' : World} {B g len n : Nat} {hs : Nat → List Nat} {vs : Nat → Value} {b : Nat → Nat} (h : HW W B g len n hs vs b) (hb : Below W.heap.size W W') : HW W' B g len n hs vs b :=
  ⟨Nat.lt_of_lt_of_le h.lt hb.size, h.low, fun j hj => (hb.cell (p := ⟨g, j, none⟩) h.lt).trans (h.cell j hj), fun j => (hb.frozen (p := ⟨g, j, none⟩) h.lt).trans (h.free j), h.form, fun j hj => (h.row j hj).below hb,
    fun j hj => by
      obtain ⟨h1, h2, h3, h4⟩ := h.own j hj
      exact ⟨h1, h2, Nat.lt_of_lt_of_le h3 hb.size, fun i => (hb.frozen (p := ⟨b j, i, none⟩) h3).trans (h4 i)⟩⟩
theorem Rl.other {W : World} {K : IntKind} {q g len : Nat} {p : List Nat} (h : Rl W K (some ⟨q, 0, none⟩) len p) (hne : q ≠ g) (i : Nat) (v : Value) : Rl (W.setCell ⟨g, i, none⟩ v) K (some ⟨q, 0, none⟩) len p :=
  ⟨h.len, fun h0 => by
    obtain ⟨x, e, hx, hc⟩ := h.row h0
    injection e with e; injection e with e
    subst e
    exact ⟨q, rfl, by rw [size_setCell_]; exact hx, fun j hj => by rw [World.cell?_setCell_other _ ⟨g, i, none⟩ ⟨q, j, none⟩ _ (fun e => hne (by injection e with e _ _; omega))]; exact hc j hj⟩⟩
theorem HW.set {W : World} {B g len n : Nat} {hs : Nat → List Nat} {vs : Nat → Value} {b : Nat → Nat} (h : HW W B g len n hs vs b) {i : Nat} (hi : i < n) {b' cj : Nat} {p : List Nat} (hR : Rl W .i64 (some ⟨b', 0, none⟩) len p) (h1 : B ≤ b') (h2 : b' ≠ g) (h3 : b' < W.heap.size) (h4 : ∀ i, W.frozen? ⟨b', i, none⟩ = false) :
    HW (W.setCell ⟨g, i, none⟩ (.slice (some ⟨b', 0, none⟩) len cj)) B g len n (up hs i p) (up vs i (.slice (some ⟨b', 0, none⟩) len cj)) (up b i b') := by
  refine ⟨by rw [size_setCell_]; exact h.lt, h.low, fun j hj => ?_, fun j => by rw [World.frozen?_setCell]; exact h.free j, fun j hj => ?_, fun j hj => ?_, fun j hj => ?_⟩
  · by_cases e : j = i
    · subst e; rw [up_same]; exact World.cell?_setCell_same' _ _ _ (by rw [h.cell j hj]; rfl)
    · rw [up_ne _ _ e, World.cell?_setCell_other _ ⟨g, i, none⟩ ⟨g, j, none⟩ _ (fun h => e (by injection h with _ h _; omega))]; exact h.cell j hj
  · by_cases e : j = i
    · subst e; rw [up_same, up_same]; exact ⟨_, rfl⟩
    · rw [up_ne _ _ e, up_ne _ _ e]; exact h.form j hj
  · by_cases e : j = i
    · subst e; rw [up_same, up_same]; exact hR.other h2 _ _
    · rw [up_ne _ _ e, up_ne _ _ e]; exact (h.row j hj).other (h.own j hj).2.1 _ _
  · by_cases e : j = i
    · subst e; rw [up_same]; exact ⟨h1, h2, by rw [size_setCell_]; exact h3, fun i => by rw [World.frozen?_setCell]; exact h4 i⟩
    · rw [up_ne _ _ e]
      obtain ⟨q1, q2, q3, q4⟩ := h.own j hj
      exact ⟨q1, q2, by rw [size_setCell_]; exact q3, fun i => by rw [World.frozen?_setCell]; exact q4 i⟩
theorem G1.set {w0 W : World} {vs : List Value} (h : G1 w0 vs W) {g : Nat} (hg : w0.heap.size < g) (i : Nat) (v : Value) : G1 w0 vs (W.setCell ⟨g, i, none⟩ v) :=
  ⟨h.b.setCell (p := ⟨g, i, none⟩) (Nat.le_of_lt hg) v, h.x.other (by omega) i v⟩
theorem EC.congr {P N len : Nat} {R : List (Nat → Nat)} {c n at_ : Nat} {hs hs' : Nat → List Nat} (h : EC P N len R c n at_ hs) (e : ∀ j, j < n → hs' j = hs j) : EC P N len R c n at_ hs' := by
  have e1 : fs hs' n = fs hs n := by
    unfold fs
    refine List.map_congr_left (fun j hj => ?_)
    rw [e j (List.mem_range.1 hj)]
  exact ⟨by rw [e1]; exact h.eq, h.done, fun j hj => by rw [e j hj]; exact h.len j hj, fun j hj => by rw [e j hj]; exact h.lt j hj⟩
/-- The rows up to the row k lie in blocks of which no two are the same. -/
def Inj (n : Nat) (b : Nat → Nat) : Prop := ∀ i j, i < n → j < n → i ≠ j → b i ≠ b j
theorem HW.rs {W : World} {B g len n k cap : Nat} {hs : Nat → List Nat} {vs : Nat → Value} {b : Nat → Nat} (h : HW W B g len n hs vs b) (hI : Inj n b) (hk : k ≤ n) (hk10 : k ≤ 10) (h5 : len ≤ 5) : RS W B W.heap.size (.slice (some ⟨g, 0, none⟩) k cap) ((List.range k).map fun j => ints (hs j)) := by
  have hrow : ∀ j, j < k → rw' ((List.range k).map fun j => ints (hs j)) j = ints (hs j) := fun j hj => by simp [rw', hj]
  have htot : ∀ i, i ≤ k → tot ((List.range k).map fun j => ints (hs j)) i ≤ i * 5 := by
    intro i
    induction i with
    | zero => intro _; exact Nat.zero_le _
    | succ i ih =>
      intro hi
      have h1 := ih (by omega)
      have h2 := (h.row i (by omega)).len
      simp only [tot]
      rw [hrow i (by omega), ints_length, h2]
      omega
  refine ⟨Nat.le_refl _, ?_, some ⟨g, 0, none⟩, cap, by simp, fun h0 => ⟨g, rfl, h.low, h.lt, vs, b, fun j hj => ?_, fun i j hij hj _ _ => ?_⟩⟩
  · have h1 := htot k (Nat.le_refl _)
    unfold total
    rw [show ((List.range k).map fun j => ints (hs j)).length = k by simp]
    omega
  · have hjk : j < k := by simpa using hj
    rw [hrow j hjk]
    obtain ⟨cj, hv⟩ := h.form j (by omega)
    obtain ⟨o1, o2, o3, o4⟩ := h.own j (by omega)
    have hr := h.row j (by omega)
    refine ⟨h.cell j (by omega), ?_, fun _ => ⟨o1, o3, o2⟩⟩
    rw [hv]
    refine .row (b j) len cj _ (Nat.le_refl _) (by omega) o3 (by rw [ints_length]; exact hr.len) (by omega) (fun i hi => ?_) (fun i _ => o4 i)
    obtain ⟨x, e, hx, hc⟩ := hr.row (by omega)
    injection e with e; injection e with e
    rw [e, hc i hi, ints_get]
  · have hjk : j < k := by simpa using hj
    exact hI i j (by omega) (by omega) (by omega)
end Go.Proofs.Ytljaabmemjehpaa
