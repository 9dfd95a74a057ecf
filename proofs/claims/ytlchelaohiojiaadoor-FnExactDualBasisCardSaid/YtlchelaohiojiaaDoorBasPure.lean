/- Sums of those elements of a list that a number tells, and bases. Pure, of no program. -/
import Derived.Test.YtlchelaohiojiaaDoorDim2
namespace Go.Proofs.YtlchelaohiojiaaDoor
set_option linter.unusedVariables false

/-- Where nothing below N + 1 is taken twice, not all of it is below N. -/
theorem no_inj : ∀ (N : Nat) (f : Nat → Nat), (∀ i, i < N + 1 → f i < N) → (∀ i j, i < N + 1 → j < N + 1 → f i = f j → i = j) → False
  | 0, f, h, _ => by have := h 0 (by omega); omega
  | N + 1, f, h, hi => by
    refine no_inj N (fun i => if f (N + 1) < f i then f i - 1 else f i) (fun i hi' => ?_) (fun i j h1 h2 e => ?_)
    · have a := h i (by omega)
      have b := h (N + 1) (by omega)
      have c : f i ≠ f (N + 1) := fun e => by have := hi i (N + 1) (by omega) (by omega) e; omega
      try dsimp only
      split <;> omega
    · have c1 : f i ≠ f (N + 1) := fun e => by have := hi i (N + 1) (by omega) (by omega) e; omega
      have c2 : f j ≠ f (N + 1) := fun e => by have := hi j (N + 1) (by omega) (by omega) e; omega
      try dsimp only at e
      apply hi i j (by omega) (by omega)
      split at e <;> split at e <;> omega
theorem onto_of_inj {N : Nat} {f : Nat → Nat} (h : ∀ i, i < N → f i < N) (hi : ∀ i j, i < N → j < N → f i = f j → i = j) {y : Nat} (hy : y < N) : ∃ i, i < N ∧ f i = y := by
  refine Classical.byContradiction fun hno => ?_
  cases N with
  | zero => omega
  | succ N =>
    refine no_inj N (fun i => if y < f i then f i - 1 else f i) (fun i hi' => ?_) (fun i j h1 h2 e => ?_)
    · have a := h i hi'
      have c : f i ≠ y := fun e => hno ⟨i, hi', e⟩
      try dsimp only
      split <;> omega
    · have c1 : f i ≠ y := fun e => hno ⟨i, h1, e⟩
      have c2 : f j ≠ y := fun e => hno ⟨j, h2, e⟩
      try dsimp only at e
      apply hi i j h1 h2
      split at e <;> split at e <;> omega

theorem xor_self_iff {a b : Nat} (h : a ^^^ b = 0) : a = b := by
  have := xlx a b
  rw [h, Nat.xor_zero] at this
  exact this
theorem bit_of' {r j : Nat} : r.testBit j = true ↔ r / 2 ^ j % 2 = 1 := by simp [Nat.testBit_eq_decide_div_mod_eq]
theorem tms_zero (A : List Nat) : ∀ k, tms 0 A k = 0
  | 0 => rfl
  | k + 1 => by simp [tms, tms_zero A k]
/-- Of no number but 0 the elements have the sum 0. -/
structure Bas (m : Nat) (L : List Nat) : Prop where
  len : L.length = m
  ne : ∀ b, 0 < b → b < 2 ^ m → tms b L m ≠ 0
def basB (m : Nat) (L : List Nat) : Bool := decide (L.length = m) && (List.range (2 ^ m)).all fun b => b == 0 || tms b L m != 0
theorem basB_yes {m : Nat} {L : List Nat} (h : Bas m L) : basB m L = true := by
  simp only [basB, Bool.and_eq_true, decide_eq_true_eq, List.all_eq_true, List.mem_range, Bool.or_eq_true, beq_iff_eq, bne_iff_ne, ne_eq]
  exact ⟨h.len, fun b hb => by
    by_cases e : b = 0
    · exact .inl e
    · exact .inr (h.ne b (by omega) hb)⟩
theorem basB_bas {m : Nat} {L : List Nat} (h : basB m L = true) : Bas m L := by
  simp only [basB, Bool.and_eq_true, decide_eq_true_eq, List.all_eq_true, List.mem_range, Bool.or_eq_true, beq_iff_eq, bne_iff_ne, ne_eq] at h
  exact ⟨h.1, fun b h0 hb => (h.2 b hb).resolve_left (by omega)⟩
theorem basB_len {m : Nat} {L : List Nat} (h : L.length ≠ m) : basB m L = false := by simp [basB, h]
theorem basB_no {m : Nat} {L : List Nat} {b : Nat} (h0 : 0 < b) (hb : b < 2 ^ m) (h : tms b L m = 0) : basB m L = false := by
  cases hk : basB m L with
  | false => rfl
  | true => exact absurd h ((basB_bas hk).ne b h0 hb)
theorem basB_twice {m : Nat} {L : List Nat} {a b : Nat} (hab : a < b) (hb : b < 2 ^ m) (h : tms a L m = tms b L m) : basB m L = false := by
  refine basB_no (b := a ^^^ b) ?_ (Nat.xor_lt_two_pow (by omega) hb) (by rw [tms_xor, h, Nat.xor_self])
  rcases Nat.eq_zero_or_pos (a ^^^ b) with e | e
  · have := xor_self_iff e; omega
  · exact e
theorem basB_all {m : Nat} {L : List Nat} (hl : L.length = m) (h : ∀ a b, a < b → b < 2 ^ m → tms a L m ≠ tms b L m) : basB m L = true := by
  refine basB_yes ⟨hl, fun b h0 hb e => h 0 b h0 hb (by rw [tms_zero, e])⟩
theorem Bas.inj {m : Nat} {L : List Nat} (h : Bas m L) {a b : Nat} (ha : a < 2 ^ m) (hb : b < 2 ^ m) (e : tms a L m = tms b L m) : a = b := by
  rcases Nat.eq_zero_or_pos (a ^^^ b) with h0 | h0
  · exact xor_self_iff h0
  · exact absurd (by rw [tms_xor, e, Nat.xor_self]) (h.ne _ h0 (Nat.xor_lt_two_pow ha hb))
theorem Bas.onto {m : Nat} {L : List Nat} (h : Bas m L) (hL : ∀ j, nth L j < 2 ^ m) {x : Nat} (hx : x < 2 ^ m) : ∃ b, b < 2 ^ m ∧ tms b L m = x :=
  onto_of_inj (f := fun b => tms b L m) (fun b _ => tms_lt hL b m) (fun a b ha hb e => h.inj ha hb e) hx
/-- The number that tells the elements of a basis with this sum. -/
def crd (m : Nat) (L : List Nat) (x : Nat) : Nat := ((List.range (2 ^ m)).find? fun b => tms b L m == x).getD 0
theorem crd_eq {m : Nat} {L : List Nat} (h : Bas m L) {b x : Nat} (hb : b < 2 ^ m) (e : tms b L m = x) : crd m L x = b := by
  have : (List.range (2 ^ m)).find? (fun b => tms b L m == x) = some b := by
    rw [List.find?_range_eq_some]
    refine ⟨by simpa using e, List.mem_range.2 hb, fun j hj => ?_⟩
    have : tms j L m ≠ x := fun e2 => by have := h.inj (show j < 2 ^ m by omega) hb (by rw [e2, e]); omega
    simpa using this
  rw [crd, this]; rfl
theorem crd_lt {m : Nat} {L : List Nat} (h : Bas m L) (hL : ∀ j, nth L j < 2 ^ m) {x : Nat} (hx : x < 2 ^ m) : crd m L x < 2 ^ m := by
  obtain ⟨b, hb, e⟩ := h.onto hL hx
  rw [crd_eq h hb e]; exact hb
theorem crd_tms {m : Nat} {L : List Nat} (h : Bas m L) (hL : ∀ j, nth L j < 2 ^ m) {x : Nat} (hx : x < 2 ^ m) : tms (crd m L x) L m = x := by
  obtain ⟨b, hb, e⟩ := h.onto hL hx
  rw [crd_eq h hb e]; exact e
end Go.Proofs.YtlchelaohiojiaaDoor
