/- The model's trimming of a list. · The model's checks of elements and of linear polynomials. · The model's right linear polynomials and their values. · The model's sums and compositions of linear polynomials. -/
import Derived.Test.YtcdhdgflgdmhdaaDoorSv
import Derived.Test.YtcdhdgflgdmhdaaDoorWr
import Derived.Test.YtcdhdgflgdmhdaaDoorSpecMul
import Derived.Test.YtcdhdgflgdmhdaaDoorIn
import Derived.Test.YtcdhdgflgdmhdaaDoorDivPure
import Derived.Test.YtcdhdgflgdmhdaaDoorSquare
namespace Go.Proofs.YtcdhdgflgdmhdaaDoor
open Go.RowKit Go.Joins
set_option linter.unusedVariables false

end Go.Proofs.YtcdhdgflgdmhdaaDoor
namespace Go.Proofs.YtcdhdgflgdmhdaaDoor
open Go.RowKit Go.Joins
set_option linter.unusedVariables false

end Go.Proofs.YtcdhdgflgdmhdaaDoor
namespace Go.Proofs.YtcdhdgflgdmhdaaDoor
open Go.RowKit Go.Joins
set_option linter.unusedVariables false


/-- Whether a field and numbers are right. -/
def okFL (d p : Int) (zs : List Int) : Bool := fldI d p && okL (2 ^ d.toNat) zs
theorem okFL_no {d p : Int} {zs : List Int} (h : fldI d p = false) : okFL d p zs = false := by simp [okFL, h]
theorem okFL_yes {m P n : Nat} (hF : Fld m P n) (zs : List Int) : okFL m P zs = okL n zs := by
  rw [okFL, fldI_of hF.f, Bool.true_and, Int.toNat_natCast, hF.n]


end Go.Proofs.YtcdhdgflgdmhdaaDoor
namespace Go.Proofs.YtcdhdgflgdmhdaaDoor
open Go.RowKit Go.Joins
set_option linter.unusedVariables false

theorem nth_snoc0 (A : List Nat) (j : Nat) : nth (A ++ [0]) j = nth A j := by
  by_cases h : j < A.length
  · rw [nth, nth, List.getD_eq_getElem?_getD, List.getD_eq_getElem?_getD, List.getElem?_append_left h]
  · rw [nth_ge (p := A) (by omega)]
    by_cases e : j = A.length
    · subst e; rw [nth, List.getD_eq_getElem?_getD, List.getElem?_append_right (Nat.le_refl _)]; simp
    · rw [nth_ge (by simp; omega)]
theorem trim_congr {p q : List Nat} (h : ∀ j, nth p j = nth q j) : trim p = trim q :=
  trm_ext (trim_trm _) (trim_trm _) fun j => by rw [trim_nth, trim_nth, h]

def fValidLinear (d p : Int) (zs : List Int) : Bool := okFL d p zs
end Go.Proofs.YtcdhdgflgdmhdaaDoor
