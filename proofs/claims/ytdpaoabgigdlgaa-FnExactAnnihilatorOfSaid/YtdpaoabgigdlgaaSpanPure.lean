/- A row put among rows in echelon form, step by step. Pure, of no program. -/
import Derived.Test.YtdpaoabgigdlgaaRref
import Derived.Test.YtdpaoabgigdlgaaMatPure
namespace Go.Proofs.Ytdpaoabgigdlgaa
set_option linter.unusedVariables false

/-- What the first k rows leave of a row. -/
def restTo (L : List Nat) (r k : Nat) : Nat := rest (L.take k) r
theorem restTo_zero (L : List Nat) (r : Nat) : restTo L r 0 = r := rfl
theorem restTo_all (L : List Nat) (r : Nat) : restTo L r L.length = rest L r := by rw [restTo, List.take_length]
theorem restTo_succ {L : List Nat} {k : Nat} (r : Nat) (hk : k < L.length) : restTo L r (k + 1) = if (restTo L r k).testBit (ld (nth L k)) then restTo L r k ^^^ nth L k else restTo L r k := by
  rw [restTo, take_succ' hk, rest, List.foldl_append]; rfl
theorem restTo_lt {L : List Nat} {r b : Nat} (hr : r < 2 ^ b) (hL : ∀ j, nth L j < 2 ^ b) : ∀ k, k ≤ L.length → restTo L r k < 2 ^ b
  | 0, _ => hr
  | k + 1, hk => by
    rw [restTo_succ r (by omega)]
    have := restTo_lt hr hL k (by omega)
    split
    · exact Nat.xor_lt_two_pow this (hL k)
    · exact this
theorem rest_lt {L : List Nat} {r b : Nat} (hr : r < 2 ^ b) (hL : ∀ j, nth L j < 2 ^ b) : rest L r < 2 ^ b := by
  rw [← restTo_all]; exact restTo_lt hr hL _ (Nat.le_refl _)

theorem nth_map_chg (L : List Nat) (q j : Nat) : nth (L.map (chg q)) j = chg q (nth L j) := by
  simp only [nth, List.getD_eq_getElem?_getD, List.getElem?_map]
  cases L[j]? with
  | none => simp [chg]
  | some x => rfl
theorem nth_len {L : List Nat} {j : Nat} (h : L.length ≤ j) : nth L j = 0 := by
  simp [nth, List.getD_eq_getElem?_getD, List.getElem?_eq_none h]
theorem nth_put (A : List Nat) (p q j : Nat) (hp : p ≤ A.length) : nth (A.take p ++ q :: A.drop p) j = if j < p then nth A j else if j = p then q else nth A (j - 1) := by
  have hl : (A.take p).length = p := by rw [List.length_take]; omega
  simp only [nth, List.getD_eq_getElem?_getD, List.getElem?_append, hl]
  by_cases h1 : j < p
  · rw [if_pos h1, if_pos h1, List.getElem?_take, if_pos h1]
  · rw [if_neg h1, if_neg h1]
    by_cases h2 : j = p
    · subst h2; rw [if_pos rfl, Nat.sub_self]; rfl
    · rw [if_neg h2]
      obtain ⟨m, rfl⟩ : ∃ m, j = p + (m + 1) := ⟨j - p - 1, by omega⟩
      rw [show p + (m + 1) - p = m + 1 by omega, List.getElem?_cons_succ, List.getElem?_drop, show p + (m + 1) - 1 = p + m by omega]
theorem place_le (L : List Nat) (q : Nat) : place L q ≤ L.length := List.countP_le_length
theorem ins_len (L : List Nat) (q : Nat) : (ins L q).length = L.length + 1 := by
  have := place_le L q
  simp [ins]; omega
theorem nth_ins (L : List Nat) (q j : Nat) : nth (ins L q) j = if j < place L q then chg q (nth L j) else if j = place L q then q else chg q (nth L (j - 1)) := by
  rw [ins, nth_put _ _ _ _ (by simpa using place_le L q), nth_map_chg, nth_map_chg]
/-- The rows of which the first i have been changed. -/
def part (L : List Nat) (q i j : Nat) : Nat := if j < i then chg q (nth L j) else nth L j
/-- How many of the first i rows stand before q. -/
def placeTo (L : List Nat) (q i : Nat) : Nat := place (L.take i) q
theorem placeTo_zero (L : List Nat) (q : Nat) : placeTo L q 0 = 0 := rfl
theorem placeTo_all (L : List Nat) (q : Nat) : placeTo L q L.length = place L q := by rw [placeTo, List.take_length]
theorem placeTo_succ {L : List Nat} {i : Nat} (q : Nat) (h : i < L.length) : placeTo L q (i + 1) = if ld (nth L i) < ld q then placeTo L q i + 1 else placeTo L q i := by
  rw [placeTo, take_succ' h, place, List.countP_append]
  by_cases hb : ld (nth L i) < ld q
  · rw [if_pos hb]; simp [hb, placeTo, place]
  · rw [if_neg hb]; simp [hb, placeTo, place]
theorem placeTo_le {L : List Nat} {q i : Nat} (h : i ≤ L.length) : placeTo L q i ≤ i := by
  have := place_le (L.take i) q
  rw [List.length_take] at this; unfold placeTo; omega
theorem chg_lt {q s b : Nat} (hq : q < 2 ^ b) (hs : s < 2 ^ b) : chg q s < 2 ^ b := by
  unfold chg; split
  · exact Nat.xor_lt_two_pow hs hq
  · exact hs
theorem chg_zero (q : Nat) : chg q 0 = 0 := by simp [chg]
theorem nth_ne {L : List Nat} (h : Ech L) {j : Nat} (hj : j < L.length) : nth L j ≠ 0 := by
  have : nth L j = L[j] := by simp [nth, hj]
  rw [this]; exact h.ne _ (List.getElem_mem hj)
theorem nth_mem {L : List Nat} {j : Nat} (hj : j < L.length) : nth L j ∈ L := by
  have : nth L j = L[j] := by simp [nth, hj]
  rw [this]; exact List.getElem_mem hj
theorem ld_lt_of {b x : Nat} (h : x < 2 ^ b) (hx : x ≠ 0) : ld x < b := ld_lt h hx
theorem joined_snoc (L M : List Nat) (r : Nat) : joined L (M ++ [r]) = add (joined L M) r := by simp [joined, List.foldl_append]
theorem joined_take {L M : List Nat} {k : Nat} (hk : k < M.length) : joined L (M.take (k + 1)) = add (joined L (M.take k)) (nth M k) := by
  rw [take_succ' hk, joined_snoc]
theorem part_all (L : List Nat) (q j : Nat) : part L q L.length j = chg q (nth L j) := by
  unfold part
  by_cases h : j < L.length
  · rw [if_pos h]
  · rw [if_neg h, nth_len (by omega), chg_zero]
theorem part_zero (L : List Nat) (q j : Nat) : part L q 0 j = nth L j := by unfold part; rw [if_neg (by omega)]
theorem part_succ (L : List Nat) (q i j : Nat) : part L q (i + 1) j = if j = i then chg q (nth L i) else part L q i j := by
  unfold part
  by_cases h : j = i
  · subst h; rw [if_pos (by omega), if_pos rfl]
  · rw [if_neg h]
    by_cases h2 : j < i
    · rw [if_pos h2, if_pos (by omega)]
    · rw [if_neg h2, if_neg (by omega)]
theorem ins_fn (L : List Nat) (q j : Nat) : nth (ins L q) j = if j = place L q then q else if place L q < j ∧ j ≤ L.length then part L q L.length (j - 1) else part L q L.length j := by
  have hp := place_le L q
  rw [nth_ins, part_all, part_all]
  by_cases h1 : j < place L q
  · rw [if_pos h1, if_neg (by omega), if_neg (by omega)]
  · rw [if_neg h1]
    by_cases h2 : j = place L q
    · rw [if_pos h2, if_pos h2]
    · rw [if_neg h2, if_neg h2]
      by_cases h3 : j ≤ L.length
      · rw [if_pos ⟨by omega, h3⟩]
      · rw [if_neg (by omega), nth_len (show L.length ≤ j - 1 by omega), nth_len (show L.length ≤ j by omega)]
theorem add_zero_rest {L : List Nat} {r : Nat} (h : rest L r = 0) : add L r = L := by rw [add, if_pos h]
theorem add_rest {L : List Nat} {r : Nat} (h : rest L r ≠ 0) : add L r = ins L (rest L r) := by rw [add, if_neg h]
theorem nth_bound {L : List Nat} {b : Nat} (h : ∀ r ∈ L, r < 2 ^ b) (j : Nat) : nth L j < 2 ^ b := by
  rw [nth, List.getD_eq_getElem?_getD]
  cases e : L[j]? with
  | none => exact Nat.two_pow_pos b
  | some r => exact h r (List.mem_of_getElem? e)
theorem add_lt {C : Nat} {L : List Nat} {r : Nat} (hE : Ech L) (hL : ∀ s ∈ L, s < 2 ^ C) (hr : r < 2 ^ C) : ∀ s ∈ add L r, s < 2 ^ C :=
  joined_lt (M := [r]) hE hL (by intro s hs; simp at hs; rw [hs]; exact hr)
theorem span_len {C : Nat} {L : List Nat} {r : Nat} (hE : Ech L) (hL : ∀ s ∈ L, s < 2 ^ C) (hr : r < 2 ^ C) (h : rest L r ≠ 0) : L.length < C := by
  have h1 := (add_spec hE r).1.len (add_lt hE hL hr)
  rw [add_rest h, ins_len] at h1; omega
theorem take_lt {C : Nat} {M : List Nat} (hM : ∀ s ∈ M, s < 2 ^ C) (k : Nat) : ∀ s ∈ M.take k, s < 2 ^ C := fun s hs => hM s (List.mem_of_mem_take hs)
theorem lt20 {C : Nat} {L : List Nat} (hC : C ≤ 20) (hL : ∀ s ∈ L, s < 2 ^ C) (j : Nat) : nth L j < 2 ^ 20 := Nat.lt_of_lt_of_le (nth_bound hL j) (Nat.pow_le_pow_right (n := 2) (by omega) hC)
theorem lt32 {C : Nat} {L : List Nat} (hC : C ≤ 20) (hL : ∀ s ∈ L, s < 2 ^ C) (j : Nat) : nth L j < 4294967296 := Nat.lt_trans (lt20 hC hL j) (by omega)
end Go.Proofs.Ytdpaoabgigdlgaa
