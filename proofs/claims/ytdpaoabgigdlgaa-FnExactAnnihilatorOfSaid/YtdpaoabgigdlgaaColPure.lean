/- One column of the model's elimination, step by step. Pure, of no program. -/
import Derived.Test.YtdpaoabgigdlgaaSpanPure
namespace Go.Proofs.Ytdpaoabgigdlgaa
set_option linter.unusedVariables false

/-- A list of which the first i elements have been changed. -/
def upto (g : Nat → Nat) (A : List Nat) (i : Nat) : List Nat := (A.take i).map g ++ A.drop i
theorem upto_zero (g : Nat → Nat) (A : List Nat) : upto g A 0 = A := by simp [upto]
theorem upto_all (g : Nat → Nat) (A : List Nat) : upto g A A.length = A.map g := by simp [upto]
theorem upto_len (g : Nat → Nat) (A : List Nat) (i : Nat) : (upto g A i).length = A.length := by simp [upto]; omega
theorem upto_get (g : Nat → Nat) (A : List Nat) (i : Nat) (h : i < A.length) : nth (upto g A i) i = nth A i := by
  have hl : ((A.take i).map g).length = i := by simp; omega
  rw [upto, nth, nth, List.getD_eq_getElem?_getD, List.getD_eq_getElem?_getD, List.getElem?_append, hl, if_neg (Nat.lt_irrefl i), Nat.sub_self, List.getElem?_drop, Nat.add_zero]
theorem upto_succ (g : Nat → Nat) (A : List Nat) (i : Nat) (h : i < A.length) : upto g A (i + 1) = (upto g A i).set i (g (nth A i)) := by
  have hl : ((A.take i).map g).length = i := by simp; omega
  have e : A.drop i = nth A i :: A.drop (i + 1) := by
    rw [List.drop_eq_getElem_cons h]; simp [nth, h]
  rw [upto, upto, take_succ' h, List.map_append, List.set_append, hl, if_neg (Nat.lt_irrefl i), e, Nat.sub_self]
  simp
theorem set_nth (A : List Nat) (i : Nat) (h : i < A.length) : A.set i (nth A i) = A := by
  have : nth A i = A[i] := by simp [nth, h]
  rw [this, List.set_getElem_self]
theorem upto_same (g : Nat → Nat) (A : List Nat) (i : Nat) (h : i < A.length) (hg : g (nth A i) = nth A i) : upto g A (i + 1) = upto g A i := by
  rw [upto_succ g A i h, hg, ← upto_get g A i h]
  exact set_nth _ _ (by rw [upto_len]; exact h)
theorem ints_set (A : List Nat) (i x : Nat) : ints (A.set i x) = (ints A).set i (x : Int) := by simp [ints, List.map_set]
theorem ints_append (A B : List Nat) : ints (A ++ B) = ints A ++ ints B := by simp [ints]
theorem nth_set (A : List Nat) (a j x : Nat) (ha : a < A.length) : nth (A.set a x) j = if j = a then x else nth A j := by
  simp only [nth, List.getD_eq_getElem?_getD, List.getElem?_set]
  by_cases h : a = j
  · subst h; simp [ha]
  · rw [if_neg h, if_neg (fun e => h e.symm)]

/-- No row ahead of the place i has the bit k. -/
def noneTo (A : List Nat) (k i : Nat) : Prop := ∀ j, j < i → (nth A j).testBit k = false
theorem find_none {A : List Nat} {k : Nat} (h : noneTo A k A.length) : A.findIdx? (fun s => s.testBit k) = none := by
  rw [List.findIdx?_eq_none_iff]
  intro x hx
  obtain ⟨j, hj, rfl⟩ := List.mem_iff_getElem.1 hx
  have := h j hj
  simpa [nth, hj] using this
theorem find_some {A : List Nat} {k a : Nat} (ha : a < A.length) (h : noneTo A k a) (hb : (nth A a).testBit k = true) : A.findIdx? (fun s => s.testBit k) = some a := by
  rw [List.findIdx?_eq_some_iff_getElem]
  refine ⟨ha, by simpa [nth, ha] using hb, fun j hj => ?_⟩
  have := h j hj
  have hj' : j < A.length := by omega
  simpa [nth, hj'] using this
theorem colStep_none {k : Nat} {st : List Nat × List Nat} (h : noneTo st.1 k st.1.length) : colStep k st = st := by
  unfold colStep; rw [find_none h]
theorem colStep_some {k a : Nat} {st : List Nat × List Nat} (ha : a < st.1.length) (h : noneTo st.1 k a) (hb : (nth st.1 a).testBit k = true) :
    colStep k st = ((st.1.set a 0).map (clr k (nth st.1 a)), st.2.map (clr k (nth st.1 a)) ++ [nth st.1 a]) := by
  unfold colStep; rw [find_some ha h hb]; rfl
theorem clr_yes {k q s : Nat} (h : s.testBit k = true) : clr k q s = s ^^^ q := by rw [clr, if_pos h]
theorem clr_no {k q s : Nat} (h : s.testBit k = false) : clr k q s = s := by rw [clr, if_neg (by rw [h]; simp)]
theorem colStep_len (k : Nat) (st : List Nat × List Nat) : (colStep k st).1.length = st.1.length ∧ (colStep k st).2.length ≤ st.2.length + 1 := by
  unfold colStep
  cases st.1.findIdx? (fun s => s.testBit k) with
  | none => exact ⟨rfl, Nat.le_succ _⟩
  | some a => exact ⟨by simp, by simp⟩
theorem cols_len (L : List Nat) : ∀ k, (cols L k).1.length = L.length ∧ (cols L k).2.length ≤ k
  | 0 => ⟨rfl, Nat.le_refl _⟩
  | k + 1 => by
    have h := cols_len L k
    have e := colStep_len k (cols L k)
    rw [cols]; omega
theorem all_lt_of_mem {A : List Nat} {b : Nat} (hb : 0 < b) (h : ∀ r ∈ A, r < b) (j : Nat) : nth A j < b := by
  rw [nth, List.getD_eq_getElem?_getD]
  cases e : A[j]? with
  | none => exact hb
  | some r => exact h r (List.mem_of_getElem? e)
theorem colStep_lt {k b : Nat} {st : List Nat × List Nat} (h1 : ∀ r ∈ st.1, r < 2 ^ b) (h2 : ∀ r ∈ st.2, r < 2 ^ b) : (∀ r ∈ (colStep k st).1, r < 2 ^ b) ∧ ∀ r ∈ (colStep k st).2, r < 2 ^ b := by
  have hp : 0 < 2 ^ b := Nat.two_pow_pos b
  unfold colStep
  cases st.1.findIdx? (fun s => s.testBit k) with
  | none => exact ⟨h1, h2⟩
  | some a =>
    have hl : st.1.getD a 0 < 2 ^ b := all_lt_of_mem hp h1 a
    have hc : ∀ s, s < 2 ^ b → clr k (st.1.getD a 0) s < 2 ^ b := fun s hs => by
      unfold clr; split
      · exact Nat.xor_lt_two_pow hs hl
      · exact hs
    refine ⟨fun r hr => ?_, fun r hr => ?_⟩
    · obtain ⟨s, hs, rfl⟩ := List.mem_map.1 hr
      rcases List.mem_or_eq_of_mem_set hs with h | h
      · exact hc _ (h1 _ h)
      · exact hc _ (by omega)
    · rcases List.mem_append.1 hr with h | h
      · obtain ⟨s, hs, rfl⟩ := List.mem_map.1 h
        exact hc _ (h2 _ hs)
      · simp at h; rw [h]; exact hl
theorem cols_lt {L : List Nat} {b : Nat} (h : ∀ r ∈ L, r < 2 ^ b) : ∀ k, (∀ r ∈ (cols L k).1, r < 2 ^ b) ∧ ∀ r ∈ (cols L k).2, r < 2 ^ b
  | 0 => ⟨h, by simp [cols]⟩
  | k + 1 => colStep_lt (cols_lt h k).1 (cols_lt h k).2
theorem clr_lt {k q s b : Nat} (hq : q < 2 ^ b) (hs : s < 2 ^ b) : clr k q s < 2 ^ b := by
  unfold clr; split
  · exact Nat.xor_lt_two_pow hs hq
  · exact hs
end Go.Proofs.Ytdpaoabgigdlgaa
