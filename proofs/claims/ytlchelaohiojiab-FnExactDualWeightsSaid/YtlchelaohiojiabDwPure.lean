/- The numbers of a dual code's words: what both sides reckon. Of no program but the number of spaces. -/
import Derived.Test.YtlchelaohiojiabCountS
namespace Go.Proofs.Ytlchelaohiojiab
open Go.RowKit
set_option linter.unusedVariables false

/-- The exponent, the factor, the sign of a term; the sum of the first l terms for the rank i. -/
def shD (m j l : Nat) : Nat := m * l + (j - l) * (j - l - 1) / 2
def cfD (n m j i l : Nat) : Nat := gauss (n - l) (n - j) * gauss (n - i) l * 2 ^ shD m j l
def sgD (j l : Nat) (x : Int) : Int := if (j - l) % 2 = 1 then -x else x
def tD (n m j i : Nat) : Nat → Int
  | 0 => 0
  | l + 1 => tD n m j i l + sgD j l (cfD n m j i l : Nat)
def toD (n j i : Nat) : Nat := min j (n - i) + 1
theorem cf_all : ∀ n m j i l : Fin 6, n.val ≤ m.val → j.val ≤ n.val → i.val ≤ n.val → l.val ≤ j.val → l.val ≤ n.val - i.val → cfD n.val m.val j.val i.val l.val < 268435456 ∧ gauss (n.val - l.val) (n.val - j.val) < 1024 ∧ gauss (n.val - i.val) l.val < 1024 ∧ shD m.val j.val l.val < 32 := by decide +kernel
theorem tD_all : ∀ n m j i : Fin 6, ∀ l : Fin 7, n.val ≤ m.val → j.val ≤ n.val → i.val ≤ n.val → l.val ≤ toD n.val j.val i.val → -536870912 < tD n.val m.val j.val i.val l.val ∧ tD n.val m.val j.val i.val l.val < 536870912 := by decide +kernel
theorem cf_at {n m j i l : Nat} (hm : m ≤ 5) (hnm : n ≤ m) (hj : j ≤ n) (hi : i ≤ n) (h1 : l ≤ j) (h2 : l ≤ n - i) : cfD n m j i l < 268435456 ∧ gauss (n - l) (n - j) < 1024 ∧ gauss (n - i) l < 1024 ∧ shD m j l < 32 :=
  cf_all ⟨n, by omega⟩ ⟨m, by omega⟩ ⟨j, by omega⟩ ⟨i, by omega⟩ ⟨l, by omega⟩ hnm hj hi h1 h2
theorem tD_at {n m j i l : Nat} (hm : m ≤ 5) (hnm : n ≤ m) (hj : j ≤ n) (hi : i ≤ n) (hl : l ≤ toD n j i) : -536870912 < tD n m j i l ∧ tD n m j i l < 536870912 :=
  tD_all ⟨n, by omega⟩ ⟨m, by omega⟩ ⟨j, by omega⟩ ⟨i, by omega⟩ ⟨l, by unfold toD at hl; omega⟩ hnm hj hi hl
/-- A number of words at an index. -/
def wt (ws : List Int) (i : Nat) : Int := ws[i]?.getD 0
/-- The sum for the ranks below i. -/
def dsD (n m j : Nat) (ws : List Int) : Nat → Int
  | 0 => 0
  | i + 1 => dsD n m j ws i + wt ws i * tD n m j i (toD n j i)
theorem mul_two {w t C : Int} (h0 : 0 ≤ w) (h1 : w ≤ 33554432) (ht : -C < t ∧ t < C) (hC : 0 < C) : -(33554432 * C) ≤ w * t ∧ w * t ≤ 33554432 * C := by
  have a : w * t ≤ w * C := Int.mul_le_mul_of_nonneg_left (by omega) h0
  have b : w * C ≤ 33554432 * C := Int.mul_le_mul_of_nonneg_right h1 (by omega)
  have c : w * (-C) ≤ w * t := Int.mul_le_mul_of_nonneg_left (by omega) h0
  have d : w * (-C) = -(w * C) := by rw [Int.mul_neg]
  omega
theorem dsD_at {n m j : Nat} (hm : m ≤ 5) (hnm : n ≤ m) (hj : j ≤ n) {ws : List Int} (hw : ∀ i, 0 ≤ wt ws i ∧ wt ws i ≤ 33554432) : ∀ i, i ≤ n + 1 → -(18014398509481984 * i) ≤ dsD n m j ws i ∧ dsD n m j ws i ≤ 18014398509481984 * i
  | 0, _ => by simp [dsD]
  | i + 1, h => by
    have ih := dsD_at hm hnm hj hw i (by omega)
    have := mul_two (hw i).1 (hw i).2 (tD_at hm hnm hj (show i ≤ n by omega) (Nat.le_refl _)) (by omega)
    simp only [dsD]
    omega
/-- The sum of the numbers. -/
def smD (ws : List Int) : Nat → Int
  | 0 => 0
  | i + 1 => smD ws i + wt ws i
theorem smD_at {ws : List Int} (hw : ∀ i, 0 ≤ wt ws i ∧ wt ws i ≤ 33554432) : ∀ i, 0 ≤ smD ws i ∧ smD ws i ≤ 33554432 * i
  | 0 => by simp [smD]
  | i + 1 => by have ih := smD_at hw i; have := hw i; simp only [smD]; omega
/-- Whether a number may be one of words. -/
def okW (x : Int) : Bool := decide (0 ≤ x ∧ x ≤ 33554432)
/-- Whether the dual has a number for the rank j. -/
def okJ (n m : Nat) (ws : List Int) (j : Nat) : Bool := decide (0 ≤ dsD n m j ws (n + 1) ∧ dsD n m j ws (n + 1) % smD ws (n + 1) = 0)
def duW (n m : Nat) (ws : List Int) (k : Nat) : List Int := (List.range k).map fun j => dsD n m j ws (n + 1) / smD ws (n + 1)
theorem duW_succ (n m : Nat) (ws : List Int) (k : Nat) : duW n m ws (k + 1) = duW n m ws k ++ [dsD n m k ws (n + 1) / smD ws (n + 1)] := by simp [duW, List.range_succ]
/-- What DualWeights returns. -/
def fDualWeights (r c : Int) (ws : List Int) : List Int × Int :=
  if ¬ ((1 ≤ r ∧ r ≤ 5) ∧ (1 ≤ c ∧ c ≤ 5) ∧ (ws.length : Int) = r + 1 ∧ ws.all okW = true) then ([], 2)
  else if ¬ (r ≤ c ∧ wt ws 0 = 1) then ([], 4)
  else if (List.range (r.toNat + 1)).all (okJ r.toNat c.toNat ws) = true then (duW r.toNat c.toNat ws (r.toNat + 1), 0) else ([], 4)
end Go.Proofs.Ytlchelaohiojiab
