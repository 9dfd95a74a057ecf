/- The product of two rows: the model. · The kernel: the model's. -/
import Derived.Test.YtibennpdffgomaaDoorSp1
import Derived.Test.YtibennpdffgomaaDoorKern
import Derived.Test.YtibennpdffgomaaDoorEchelonOf
namespace Go.Proofs.YtibennpdffgomaaDoor
open Go.RowKit Go.Joins
set_option linter.unusedVariables false

/-- A truth as a number. -/
def b01 (b : Bool) : Nat := if b then 1 else 0
theorem b01_le (b : Bool) : b01 b ≤ 1 := by cases b <;> simp [b01]
theorem b01_xor (s : Bool) (y : Nat) : b01 s ^^^ (y % 2) = b01 (s ^^ (y % 2 == 1)) := by
  have : y % 2 = 0 ∨ y % 2 = 1 := by omega
  rcases this with h | h <;> rw [h] <;> cases s <;> rfl

end Go.Proofs.YtibennpdffgomaaDoor
namespace Go.Proofs.YtibennpdffgomaaDoor
open Go.RowKit Go.Joins
set_option linter.unusedVariables false

/-- The rows below x whose products with all rows are 0. -/
def anniTo (L : List Nat) (x : Nat) : List Nat := (List.range x).filter (fun x => L.all (fun r => !prd r x))
theorem anniTo_yes {L : List Nat} {x : Nat} (h : L.all (fun r => !prd r x) = true) : anniTo L (x + 1) = anniTo L x ++ [x] := by
  rw [anniTo, List.range_succ, List.filter_append, List.filter_cons, h]; rfl
theorem anniTo_no {L : List Nat} {x : Nat} (h : L.all (fun r => !prd r x) = false) : anniTo L (x + 1) = anniTo L x := by
  rw [anniTo, List.range_succ, List.filter_append, List.filter_cons, h]; simp [anniTo]
theorem anniTo_len (L : List Nat) (x : Nat) : (anniTo L x).length ≤ x := by
  have := List.length_filter_le (fun x => L.all (fun r => !prd r x)) (List.range x)
  rw [List.length_range] at this; exact this
theorem anniTo_lt (L : List Nat) (x : Nat) : ∀ r ∈ anniTo L x, r < x := fun r hr => List.mem_range.1 (List.mem_filter.1 hr).1
theorem anni_def (c : Nat) (L : List Nat) : anni c L = anniTo L (2 ^ c) := rfl
theorem OR.mt {W : World} {B g cap : Nat} {A : List Nat} (h : OR W B 2 g cap A) (hk : A.length ≤ 1048576) : Mt W g A.length (ints A) :=
  ⟨by rw [ints_length], hk, h.lt.2, fun j hj => by rw [ints_get]; exact h.cell j hj, fun j => h.free j⟩
theorem allTo_succ {L : List Nat} {x j : Nat} (hj : j < L.length) : (L.take (j + 1)).all (fun r => !prd r x) = ((L.take j).all (fun r => !prd r x) && !prd (nth L j) x) := by
  rw [take_succ' hj, List.all_append]; simp
theorem allTo_false {L : List Nat} {x j : Nat} (h : (L.take j).all (fun r => !prd r x) = false) : L.all (fun r => !prd r x) = false := by
  rw [← List.take_append_drop j L, List.all_append, h]; rfl

end Go.Proofs.YtibennpdffgomaaDoor
