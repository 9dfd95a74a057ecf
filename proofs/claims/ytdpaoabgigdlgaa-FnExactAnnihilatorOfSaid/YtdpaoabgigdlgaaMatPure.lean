/- Matrices of numbers, their rows as natural numbers, sums of rows and columns. Pure, of no program. -/
import Derived.Test.YtdpaoabgigdlgaaRref
namespace Go.Proofs.Ytdpaoabgigdlgaa
set_option linter.unusedVariables false

/-- The row with a number; 0 if there is none. -/
def nth (L : List Nat) (j : Nat) : Nat := L.getD j 0
/-- Whether numbers are the columns and rows of a valid matrix. -/
def okM (c : Int) (zs : List Int) : Bool := decide (1 ≤ c ∧ c ≤ 10 ∧ zs.length ≤ 10) && zs.all fun z => decide (0 ≤ z ∧ z < 2 ^ c.toNat)
/-- Rows as integers. -/
def ints (L : List Nat) : List Int := L.map fun (r : Nat) => (r : Int)
theorem ints_length (L : List Nat) : (ints L).length = L.length := by simp [ints]
theorem ints_get (L : List Nat) (j : Nat) : (ints L)[j]?.getD 0 = ((nth L j : Nat) : Int) := by
  rw [nth, List.getD_eq_getElem?_getD]
  simp only [ints, List.getElem?_map]
  cases L[j]? <;> rfl
structure OkM (C : Nat) (L : List Nat) : Prop where
  c1 : 1 ≤ C
  c10 : C ≤ 10
  n10 : L.length ≤ 10
  lt : ∀ r ∈ L, r < 2 ^ C
theorem OkM.get {C : Nat} {L : List Nat} (h : OkM C L) (j : Nat) : nth L j < 2 ^ C := by
  rw [nth, List.getD_eq_getElem?_getD]
  cases e : L[j]? with
  | none => exact Nat.two_pow_pos C
  | some r => exact h.lt r (List.mem_of_getElem? e)
theorem pow_le10 {C : Nat} (h : C ≤ 10) : 2 ^ C ≤ 1024 := Nat.pow_le_pow_right (n := 2) (by omega) h
theorem OkM.get' {C : Nat} {L : List Nat} (h : OkM C L) (j : Nat) : nth L j < 1024 := Nat.lt_of_lt_of_le (h.get j) (pow_le10 h.c10)
theorem okM_nat {c : Int} {zs : List Int} (h : okM c zs = true) : ∃ (C : Nat) (L : List Nat), c = C ∧ zs = ints L ∧ OkM C L := by
  simp only [okM, Bool.and_eq_true, decide_eq_true_eq, List.all_eq_true] at h
  obtain ⟨⟨h1, h2, h3⟩, h4⟩ := h
  refine ⟨c.toNat, zs.map Int.toNat, by omega, ?_, by omega, by omega, by simpa using h3, fun r hr => ?_⟩
  · have : ∀ (l : List Int), (∀ z ∈ l, 0 ≤ z) → l = ints (l.map Int.toNat) := by
      intro l
      induction l with
      | nil => intro _; rfl
      | cons z l ih =>
        intro hl
        have h0 := hl z (by simp)
        have h1 := ih (fun y hy => hl y (List.mem_cons_of_mem _ hy))
        simp only [ints, List.map_cons] at h1 ⊢
        rw [← h1, Int.toNat_of_nonneg h0]
    exact this zs (fun z hz => (h4 z hz).1)
  · obtain ⟨z, hz, rfl⟩ := List.mem_map.1 hr
    have := h4 z hz
    have e : ((2 ^ c.toNat : Nat) : Int) = 2 ^ c.toNat := by simp
    omega
theorem okM_ints {C : Nat} {L : List Nat} (h : OkM C L) : okM C (ints L) = true := by
  simp only [okM, Bool.and_eq_true, decide_eq_true_eq, List.all_eq_true]
  refine ⟨⟨by have := h.c1; omega, by have := h.c10; omega, by rw [ints_length]; exact h.n10⟩, fun z hz => ?_⟩
  obtain ⟨r, hr, rfl⟩ := List.mem_map.1 hz
  have := h.lt r hr
  have e : ((2 ^ C : Nat) : Int) = 2 ^ C := by simp
  simp only [Int.toNat_natCast]
  omega
theorem take_succ' {L : List Nat} {k : Nat} (h : k < L.length) : L.take (k + 1) = L.take k ++ [nth L k] := by
  rw [List.take_add_one, nth, List.getD_eq_getElem?_getD, List.getElem?_eq_getElem h]; rfl
/-- The sum of the first k of the rows that the bits of a number tell. -/
def tms (r : Nat) (L : List Nat) : Nat → Nat
  | 0 => 0
  | k + 1 => if r.testBit k then tms r L k ^^^ nth L k else tms r L k
theorem tms_lt {C : Nat} {L : List Nat} (h : ∀ j, nth L j < 2 ^ C) (r : Nat) : ∀ k, tms r L k < 2 ^ C
  | 0 => Nat.two_pow_pos C
  | k + 1 => by
    simp only [tms]
    split
    · exact Nat.xor_lt_two_pow (tms_lt h r k) (h k)
    · exact tms_lt h r k
/-- The first k elements of a column, as a row. -/
def colm (L : List Nat) (c : Nat) : Nat → Nat
  | 0 => 0
  | k + 1 => if (nth L k).testBit c then colm L c k ^^^ 2 ^ k else colm L c k
theorem colm_lt (L : List Nat) (c : Nat) : ∀ k, colm L c k < 2 ^ k
  | 0 => by simp [colm]
  | k + 1 => by
    have := colm_lt L c k
    simp only [colm]
    split
    · exact Nat.xor_lt_two_pow (Nat.lt_of_lt_of_le this (Nat.pow_le_pow_right (by omega) (by omega))) (Nat.pow_lt_pow_right (by omega) (by omega))
    · exact Nat.lt_of_lt_of_le this (Nat.pow_le_pow_right (by omega) (by omega))
theorem or_pow {x k : Nat} (h : x < 2 ^ k) : x ||| 2 ^ k = x ^^^ 2 ^ k := by
  apply Nat.eq_of_testBit_eq
  intro i
  rw [Nat.testBit_or, Nat.testBit_xor, Nat.testBit_two_pow]
  by_cases e : k = i
  · subst e; rw [Nat.testBit_lt_two_pow h]; simp
  · simp [e]
theorem range_succ_map {α : Type} (f : Nat → α) (k : Nat) : (List.range (k + 1)).map f = (List.range k).map f ++ [f k] := by
  rw [List.range_succ, List.map_append]; rfl
end Go.Proofs.Ytdpaoabgigdlgaa
