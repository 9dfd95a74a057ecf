/- The laws' own functions over matrices: measured, copied, equal, marked, held. · A row with one column alone: the program's. · Matrices that are valid: as numbers; where one lies. · Whether a matrix is valid: the model and the program. -/
import Derived.Test.YtlchelaohiojiaaThird
import Derived.Test.YtlchelaohiojiaaColPure
import Derived.Lib.SmallJoins
import Derived.Test.YtlchelaohiojiaaIn
namespace Go.Proofs.Ytlchelaohiojiaa
open Go.RowKit Go.Joins
set_option linter.unusedVariables false



end Go.Proofs.Ytlchelaohiojiaa
namespace Go.Proofs.Ytlchelaohiojiaa
open Go.RowKit Go.Joins
set_option linter.unusedVariables false

end Go.Proofs.Ytlchelaohiojiaa
namespace Go.Proofs.Ytlchelaohiojiaa
open Go.RowKit Go.Joins
set_option linter.unusedVariables false

/-- In the world W a matrix of c columns, with its rows at the block b, lies at the block q. -/
structure MAt (W : World) (q : Nat) (c : Int) (b n cap : Nat) : Prop where
  c0 : W.cell? ⟨q, 0, none⟩ = some (.int .i64 c)
  c1 : W.cell? ⟨q, 1, none⟩ = some (.slice (some ⟨b, 0, none⟩) n cap)
  lt : q < W.heap.size
theorem MAt.next {W W' : World} {q : Nat} {c : Int} {b n cap : Nat} (h : MAt W q c b n cap) (hb : Below W.heap.size W W') : MAt W' q c b n cap :=
  ⟨(hb.cell (p := ⟨q, 0, none⟩) h.lt).trans h.c0, (hb.cell (p := ⟨q, 1, none⟩) h.lt).trans h.c1, Nat.lt_of_lt_of_le h.lt hb.size⟩

/-- Whether the first k numbers are rows of c columns. -/
def okTo (c : Int) (xs : List Int) (k : Nat) : Prop := ∀ j, j < k → 0 ≤ xs[j]?.getD 0 ∧ xs[j]?.getD 0 < 2 ^ c.toNat
theorem okM_yes {c : Int} {xs : List Int} (h1 : 1 ≤ c) (h2 : c ≤ 10) (h3 : xs.length ≤ 10) (h : okTo c xs xs.length) : okM c xs = true := by
  simp only [okM, Bool.and_eq_true, decide_eq_true_eq, List.all_eq_true]
  refine ⟨⟨h1, h2, h3⟩, fun z hz => ?_⟩
  obtain ⟨j, hj, rfl⟩ := List.getElem_of_mem hz
  have := h j hj
  rwa [List.getElem?_eq_getElem hj] at this
theorem okM_no {c : Int} {xs : List Int} {k : Nat} (hk : k < xs.length) (h : ¬ (0 ≤ xs[k]?.getD 0 ∧ xs[k]?.getD 0 < 2 ^ c.toNat)) : okM c xs = false := by
  rw [Bool.eq_false_iff]
  intro hc
  simp only [okM, Bool.and_eq_true, decide_eq_true_eq, List.all_eq_true] at hc
  refine h ?_
  have := hc.2 xs[k] (List.getElem_mem hk)
  rwa [List.getElem?_eq_getElem hk]
theorem okM_no1 {c : Int} {xs : List Int} (h : ¬ (1 ≤ c ∧ c ≤ 10 ∧ xs.length ≤ 10)) : okM c xs = false := by
  rw [Bool.eq_false_iff]
  intro hc
  simp only [okM, Bool.and_eq_true, decide_eq_true_eq] at hc
  exact h hc.1
theorem int_pow (c : Nat) : ((2 ^ c : Nat) : Int) = 2 ^ c := by simp
end Go.Proofs.Ytlchelaohiojiaa
namespace Go.Proofs.Ytlchelaohiojiaa
open Go.RowKit Go.Joins
set_option linter.unusedVariables false



end Go.Proofs.Ytlchelaohiojiaa
