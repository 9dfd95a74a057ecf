/-
  DERIVED. GIVEN WITH THE SEED: THE CARDS: each row of YtcdhdgflgdmhdaaDoorRows.lean that lists a variable, with what it lists TIED to the program's text (the seventh form; the later family's looks); each row that meets fmt, with fmt's text TOLD by the authors' own Lean function (tested against real Go, not proved from fmt's source: count such statements apart). THE CARD IS WHAT COUNTS. Prove the row's statement (the work); the ties are given (YtcdhdgflgdmhdaaDoorTie.lean); close each card by the builder's one call (the guide's Derived/Test/ToyasCard.lean, 'card_holds'). Laid BY PROGRAM, IN A SANDBOX (cutbox-door.mjs). By AI agents, Wed Nov 11 2026. No macro, syntax, notation, axiom, sorry.
-/
import Derived.Test.YtcdhdgflgdmhdaaDoorRows
import GoSem.ClaimSeven
namespace Go.Proofs.YtcdhdgflgdmhdaaDoor
namespace Rows

/-- THE TIED CARD OF 'laws.FnExactValidGabidulin'. -/
def fnExactValidGabidulinCard : Claim7 := { stood := { row := fnExactValidGabidulinRow, standIns := [], harness := (true, "92478db1059b34cef851bdcc546a5c3d781a3abf63a7471709f97a6bcf808374"), looks := false }, kinds := [], alts := [], laidByText := true, laidKinds := [.data], laidTests := true, laidLooks := .later }
def FnExactValidGabidulinCardSaid : Prop := Claim7.holds Tryd.pinned (.plain (OpenSpec.ofChange fnExactValidGabidulinSpec)) fnExactValidGabidulinCard

/-- THE TIED CARD OF 'laws.FnExactRadiusOf'. -/
def fnExactRadiusOfCard : Claim7 := { stood := { row := fnExactRadiusOfRow, standIns := [], harness := (true, "92478db1059b34cef851bdcc546a5c3d781a3abf63a7471709f97a6bcf808374"), looks := false }, kinds := [], alts := [], laidByText := true, laidKinds := [.data], laidTests := true, laidLooks := .later }
def FnExactRadiusOfCardSaid : Prop := Claim7.holds Tryd.pinned (.plain (OpenSpec.ofChange fnExactRadiusOfSpec)) fnExactRadiusOfCard

/-- THE TIED CARD OF 'laws.FnExactEncodeGabidulin'. -/
def fnExactEncodeGabidulinCard : Claim7 := { stood := { row := fnExactEncodeGabidulinRow, standIns := [], harness := (true, "92478db1059b34cef851bdcc546a5c3d781a3abf63a7471709f97a6bcf808374"), looks := false }, kinds := [], alts := [], laidByText := true, laidKinds := [.data], laidTests := true, laidLooks := .later }
def FnExactEncodeGabidulinCardSaid : Prop := Claim7.holds Tryd.pinned (.plain (OpenSpec.ofChange fnExactEncodeGabidulinSpec)) fnExactEncodeGabidulinCard

/-- THE SECOND FORM's CARD OF 'laws.FnExactValidGabidulin'. -/
def fnExactValidGabidulinUptoCard : Claim7 := { stood := { row := fnExactValidGabidulinUptoRow, standIns := [], harness := (true, "92478db1059b34cef851bdcc546a5c3d781a3abf63a7471709f97a6bcf808374"), looks := false }, kinds := [], alts := [], laidByText := true, laidKinds := [.data], laidTests := true, laidLooks := .later }
def FnExactValidGabidulinUptoCardSaid : Prop := Claim7.holds Tryd.pinned (.plain (OpenSpec.upto fnExactValidGabidulinSpec)) fnExactValidGabidulinUptoCard

/-- THE SECOND FORM's CARD OF 'laws.FnExactRadiusOf'. -/
def fnExactRadiusOfUptoCard : Claim7 := { stood := { row := fnExactRadiusOfUptoRow, standIns := [], harness := (true, "92478db1059b34cef851bdcc546a5c3d781a3abf63a7471709f97a6bcf808374"), looks := false }, kinds := [], alts := [], laidByText := true, laidKinds := [.data], laidTests := true, laidLooks := .later }
def FnExactRadiusOfUptoCardSaid : Prop := Claim7.holds Tryd.pinned (.plain (OpenSpec.upto fnExactRadiusOfSpec)) fnExactRadiusOfUptoCard

/-- THE SECOND FORM's CARD OF 'laws.FnExactEncodeGabidulin'. -/
def fnExactEncodeGabidulinUptoCard : Claim7 := { stood := { row := fnExactEncodeGabidulinUptoRow, standIns := [], harness := (true, "92478db1059b34cef851bdcc546a5c3d781a3abf63a7471709f97a6bcf808374"), looks := false }, kinds := [], alts := [], laidByText := true, laidKinds := [.data], laidTests := true, laidLooks := .later }
def FnExactEncodeGabidulinUptoCardSaid : Prop := Claim7.holds Tryd.pinned (.plain (OpenSpec.upto fnExactEncodeGabidulinSpec)) fnExactEncodeGabidulinUptoCard
end Rows
end Go.Proofs.YtcdhdgflgdmhdaaDoor
