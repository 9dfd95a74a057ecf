/- EchelonOf: the program and the model. -/
import Derived.Test.YtibennpdffgomaaDoorValid
import Derived.Test.YtibennpdffgomaaDoorGridFor
import Derived.Test.YtibennpdffgomaaDoorJoined
import Derived.Test.YtibennpdffgomaaDoorRankS
import Derived.Deep.RegionHeld3
namespace Go.Proofs.YtibennpdffgomaaDoor
open Go.RowKit Go.Joins
set_option linter.unusedVariables false

/-- The echelon form of a matrix, with ErrInvalid first. -/
def fEchelonOf (c : Int) (zs : List Int) : Int × List Int × Int := mk1 c zs fun C L => (C, ints (joined [] L), 0)
theorem OR.res {W : World} {B g cap : Nat} {A : List Nat} (h : OR W B 2 g cap A) (hk : A.length ≤ 1048576) {B' : Nat} (hB : B' ≤ B) : Res W B' W.heap.size (.slice (some ⟨g, 0, none⟩) A.length cap) (ints A) := own_res h.own hk hB
theorem joined_len {C : Nat} {L : List Nat} (hC : C ≤ 10) (hL : ∀ r ∈ L, r < 2 ^ C) : (joined [] L).length ≤ 10 := Nat.le_trans ((joined_spec L Ech.nil).1.len (joined_lt .nil (by simp) hL)) hC


end Go.Proofs.YtibennpdffgomaaDoor
