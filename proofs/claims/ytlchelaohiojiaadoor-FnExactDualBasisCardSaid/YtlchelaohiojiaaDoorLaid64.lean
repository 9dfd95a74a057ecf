/- The listed64 table, opened: where the row's condition lays it. -/
import Derived.Test.YtlchelaohiojiaaDoorRows
import Derived.Test.YtlchelaohiojiaaDoorTz64
import Derived.ProofKit
import Derived.LaidMore
import Derived.OpenShut
import Derived.Stop.Joined
namespace Go.Proofs.YtlchelaohiojiaaDoor
open Go.ChangeShapes Go.WideShapes Go.ChangeAt Go.WideMaps Go.WideElems Go.RowKit

theorem gTab64 : Tryd.prog.globalNamed "math/bits.deBruijn64tab" = some 0 := by kernel_rfl
theorem tTab64 : (Tryd.prog.globals[0]?).map (·.type) = some 121 := by kernel_rfl
theorem cU864 : Tryd.prog.cellsOf 5 = 1 := by kernel_rfl
/-- What a row of this seat lists. -/
abbrev listed64 : List (String × DataW Unit) := [("math/bits.deBruijn64tab", Rows.laid_math_bits_deBruijn64tab)]
theorem listed64_eq : (Rows.laid_math_bits_deBruijn64tab : DataW Unit) = .agg (Lib.deBruijn64tab.map fun n => .lit (.int .u8 (n : Nat))) := by
  simp [Rows.laid_math_bits_deBruijn64tab, Lib.deBruijn64tab]

/-- The door's own heap meets the condition. -/
theorem door_met64 (os : Os) (args : Array Value) : laidMetH Tryd.prog listed64 ((World.doorLaid Tryd.prog 400 os).forCall (fun _ _ => 0) ⟨#[], args, []⟩).memory :=
  laidMetH_of_parts3 (fuel := 8) (laidMet_of_run' 8 (by kernel_rfl) (by kernel_rfl)) (by kernel_rfl) (by kernel_rfl)

theorem tab64_of_laid {W : World} (h : laidMetH Tryd.prog listed64 W) : Tab64 W := by
  rw [MakeChecks.laidMetH_plain _ _ _ (by kernel_rfl)] at h
  obtain ⟨ps, ⟨g0, t0, cs0, f0, p0, q0, hg0, ht0, hv0, hd0, _⟩, _⟩ := h
  obtain rfl := Option.some.inj (gTab64.symm.trans hg0)
  obtain rfl := Option.some.inj (tTab64.symm.trans ht0)
  obtain ⟨xs, m1, rfl, hx1, hlen, hn3, hel⟩ := DataW.trod_array Tryd.underlying121 hd0
  rw [listed64_eq] at hx1
  simp only [Prod.mk.injEq, DataW.agg.injEq] at hx1
  have hcell : ∀ j, j < 64 → W.cell? ⟨0, j, none⟩ = some (.int .u8 ((Lib.deBruijn64tab.getD j 0 : Nat) : Int)) := by
    intro j hj
    have h0 := hel j hj
    rw [cU864, Nat.mul_one, List.getElem?_eq_getElem (by omega)] at h0
    obtain ⟨k, e1, e2, _⟩ := DataW.trod_int Tryd.underlying5 h0
    have e3 : (xs.map (·.1))[j]? = some (.lit (.int .u8 k)) := by
      rw [List.getElem?_map, List.getElem?_eq_getElem (by omega), Option.map_some, e2]
    rw [← hx1.1, List.getElem?_map] at e3
    have hjt : j < Lib.deBruijn64tab.length := hj
    rw [List.getElem?_eq_getElem hjt, Option.map_some] at e3
    have ek : k = ((Lib.deBruijn64tab.getD j 0 : Nat) : Int) := by
      have e4 : Lib.deBruijn64tab.getD j 0 = Lib.deBruijn64tab[j] := by simp [List.getD_eq_getElem?_getD, List.getElem?_eq_getElem hjt]
      rw [e4]
      simpa using e3.symm
    subst ek
    rw [World.var?_cell hg0 hv0 j]
    have e5 : (cs0.toList.drop j)[0]? = some (.int .u8 ((Lib.deBruijn64tab.getD j 0 : Nat) : Int)) := by
      have : ((cs0.toList.drop j).take 1)[0]? = _ := congrArg (·[0]?) e1
      simpa using this
    simpa using e5
  exact ⟨fun j hj => hcell j hj, World.block_lt_of_cell? W ⟨0, 0, none⟩ (hcell 0 (by omega))⟩
end Go.Proofs.YtlchelaohiojiaaDoor
