/- A slice of numbers among the arguments, opened. -/
import Derived.Test.YtlchelaohiojiaaMt
import Derived.OpenShut
import Derived.ChangeOld
import Derived.ChangeSlices
import Derived.Carry
namespace Go.Proofs.Ytlchelaohiojiaa
open Go.RowKit Go.Joins Go.ChangeShapes
set_option linter.unusedVariables false

theorem block_of_cell {W : World} {a : Addr} {v : Value} (h : W.cell? a = some v) : a.block < W.heap.size := by
  by_cases e : a.block < W.heap.size
  · exact e
  · have : W.heap[a.block]? = none := by simp; omega
    simp [World.cell?, this] at h

theorem arg_open {H : Type} {enc : TypeId × Value → H} {W : World} {base : Nat} {spare : Nat → Bool} {held : Bool} {fuel : Nat} {v : Value} {y : DataW H × List MemPlace}
    (h : DataW.trod enc Try.prog W base spare held fuel 39 [v] = some y) : ∃ A n cap zs, v = .slice A n cap ∧ Arg W A n zs := by
  rcases open_ints Try.underlying39 Try.underlying2 (by kernel_rfl) h with ⟨hcs, _⟩ | ⟨a, len, cap, zs, hcs, _, hl, hm, hz, _, hcell, hwz⟩
  · obtain rfl : v = .slice none 0 0 := by simpa using hcs
    exact ⟨none, 0, 0, [], rfl, rfl, by omega, fun h => by omega⟩
  · obtain rfl : v = .slice (some a) len cap := by simpa using hcs
    have hlz : len ≤ zs.length := by split at hz <;> omega
    have hm' : cap ≤ 9223372036854775807 := by unfold maxLen at hm; omega
    refine ⟨some a, len, cap, zs.take len, rfl, by simp; omega, by omega, fun hn => ?_⟩
    have h0 := hcell 0 (by omega)
    have hb := block_of_cell h0
    rw [addr_add_block] at hb
    refine ⟨a, rfl, hb, fun j hj => ?_⟩
    rw [hcell j (by omega), List.getElem?_take, if_pos hj, List.getD_eq_getElem?_getD]
end Go.Proofs.Ytlchelaohiojiaa
