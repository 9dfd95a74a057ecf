/-
  DERIVED. GIVEN WITH THE SEED: THE CARDS: each row of YtlchelaohiojiaaDoorRows.lean that lists a variable, with what it lists TIED to the program's text (the seventh form; the later family's looks); each row that meets fmt, with fmt's text TOLD by the authors' own Lean function (tested against real Go, not proved from fmt's source: count such statements apart). THE CARD IS WHAT COUNTS. Prove the row's statement (the work); the ties are given (YtlchelaohiojiaaDoorTie.lean); close each card by the builder's one call (the guide's Derived/Test/ToyasCard.lean, 'card_holds'). Laid BY PROGRAM, IN A SANDBOX (cutbox-door.mjs). By AI agents, Wed Nov 11 2026. No macro, syntax, notation, axiom, sorry.
-/
import Derived.Test.YtlchelaohiojiaaDoorRows
import GoSem.ClaimSeven
namespace Go.Proofs.YtlchelaohiojiaaDoor
namespace Rows

/-- THE TIED CARD OF 'laws.FnBases'. -/
def fnBasesCard : Claim7 := { stood := { row := fnBasesRow, standIns := [], harness := (true, "4e9a81b032eec2c3e7a53312a84115746a70c8caa209199f496e2dc5db7e4a65"), looks := false }, kinds := [], alts := [], laidByText := true, laidKinds := [.data], laidTests := true, laidLooks := .later }
def FnBasesCardSaid : Prop := Claim7.holds Tryd.pinned (.plain (OpenSpec.ofChange fnBasesSpec)) fnBasesCard

/-- THE TIED CARD OF 'laws.FnExactDualBasis'. -/
def fnExactDualBasisCard : Claim7 := { stood := { row := fnExactDualBasisRow, standIns := [], harness := (true, "4e9a81b032eec2c3e7a53312a84115746a70c8caa209199f496e2dc5db7e4a65"), looks := false }, kinds := [], alts := [], laidByText := true, laidKinds := [.data], laidTests := true, laidLooks := .later }
def FnExactDualBasisCardSaid : Prop := Claim7.holds Tryd.pinned (.plain (OpenSpec.ofChange fnExactDualBasisSpec)) fnExactDualBasisCard

/-- THE TIED CARD OF 'laws.FnExactVectorsOf'. -/
def fnExactVectorsOfCard : Claim7 := { stood := { row := fnExactVectorsOfRow, standIns := [], harness := (true, "4e9a81b032eec2c3e7a53312a84115746a70c8caa209199f496e2dc5db7e4a65"), looks := false }, kinds := [], alts := [], laidByText := true, laidKinds := [.data], laidTests := true, laidLooks := .later }
def FnExactVectorsOfCardSaid : Prop := Claim7.holds Tryd.pinned (.plain (OpenSpec.ofChange fnExactVectorsOfSpec)) fnExactVectorsOfCard

/-- THE SECOND FORM's CARD OF 'laws.FnBases'. -/
def fnBasesUptoCard : Claim7 := { stood := { row := fnBasesUptoRow, standIns := [], harness := (true, "4e9a81b032eec2c3e7a53312a84115746a70c8caa209199f496e2dc5db7e4a65"), looks := false }, kinds := [], alts := [], laidByText := true, laidKinds := [.data], laidTests := true, laidLooks := .later }
def FnBasesUptoCardSaid : Prop := Claim7.holds Tryd.pinned (.plain (OpenSpec.upto fnBasesSpec)) fnBasesUptoCard

/-- THE SECOND FORM's CARD OF 'laws.FnExactDualBasis'. -/
def fnExactDualBasisUptoCard : Claim7 := { stood := { row := fnExactDualBasisUptoRow, standIns := [], harness := (true, "4e9a81b032eec2c3e7a53312a84115746a70c8caa209199f496e2dc5db7e4a65"), looks := false }, kinds := [], alts := [], laidByText := true, laidKinds := [.data], laidTests := true, laidLooks := .later }
def FnExactDualBasisUptoCardSaid : Prop := Claim7.holds Tryd.pinned (.plain (OpenSpec.upto fnExactDualBasisSpec)) fnExactDualBasisUptoCard

/-- THE SECOND FORM's CARD OF 'laws.FnExactVectorsOf'. -/
def fnExactVectorsOfUptoCard : Claim7 := { stood := { row := fnExactVectorsOfUptoRow, standIns := [], harness := (true, "4e9a81b032eec2c3e7a53312a84115746a70c8caa209199f496e2dc5db7e4a65"), looks := false }, kinds := [], alts := [], laidByText := true, laidKinds := [.data], laidTests := true, laidLooks := .later }
def FnExactVectorsOfUptoCardSaid : Prop := Claim7.holds Tryd.pinned (.plain (OpenSpec.upto fnExactVectorsOfSpec)) fnExactVectorsOfUptoCard
end Rows
end Go.Proofs.YtlchelaohiojiaaDoor
