/-
  DERIVED. GIVEN WITH THE SEED: THE CARDS: each row of YtibennpdffgomaaDoorRows.lean that lists a variable, with what it lists TIED to the program's text (the seventh form; the later family's looks); each row that meets fmt, with fmt's text TOLD by the authors' own Lean function (tested against real Go, not proved from fmt's source: count such statements apart). THE CARD IS WHAT COUNTS. Prove the row's statement (the work); the ties are given (YtibennpdffgomaaDoorTie.lean); close each card by the builder's one call (the guide's Derived/Test/ToyasCard.lean, 'card_holds'). Laid BY PROGRAM, IN A SANDBOX (cutbox-door.mjs). By AI agents, Wed Nov 11 2026. No macro, syntax, notation, axiom, sorry.
-/
import Derived.Test.YtibennpdffgomaaDoorRows
import GoSem.ClaimSeven
namespace Go.Proofs.YtibennpdffgomaaDoor
namespace Rows

/-- THE TIED CARD OF 'laws.FnExactCodeOfGabidulin'. -/
def fnExactCodeOfGabidulinCard : Claim7 := { stood := { row := fnExactCodeOfGabidulinRow, standIns := [], harness := (true, "0b7dd53a67b3d8d95cb3efb16f1fcfbde9ea07dd6973987b4d8024ee2965c1bd"), looks := false }, kinds := [], alts := [], laidByText := true, laidKinds := [.data], laidTests := true, laidLooks := .later }
def FnExactCodeOfGabidulinCardSaid : Prop := Claim7.holds Tryd.pinned (.plain (OpenSpec.ofChange fnExactCodeOfGabidulinSpec)) fnExactCodeOfGabidulinCard

/-- THE TIED CARD OF 'laws.FnExactUnliftSpace'. -/
def fnExactUnliftSpaceCard : Claim7 := { stood := { row := fnExactUnliftSpaceRow, standIns := [], harness := (true, "0b7dd53a67b3d8d95cb3efb16f1fcfbde9ea07dd6973987b4d8024ee2965c1bd"), looks := false }, kinds := [], alts := [], laidByText := true, laidKinds := [.data], laidTests := true, laidLooks := .later }
def FnExactUnliftSpaceCardSaid : Prop := Claim7.holds Tryd.pinned (.plain (OpenSpec.ofChange fnExactUnliftSpaceSpec)) fnExactUnliftSpaceCard

/-- THE TIED CARD OF 'laws.FnExactMissedBy'. -/
def fnExactMissedByCard : Claim7 := { stood := { row := fnExactMissedByRow, standIns := [], harness := (true, "0b7dd53a67b3d8d95cb3efb16f1fcfbde9ea07dd6973987b4d8024ee2965c1bd"), looks := false }, kinds := [], alts := [], laidByText := true, laidKinds := [.data], laidTests := true, laidLooks := .later }
def FnExactMissedByCardSaid : Prop := Claim7.holds Tryd.pinned (.plain (OpenSpec.ofChange fnExactMissedBySpec)) fnExactMissedByCard

/-- THE TIED CARD OF 'laws.FnInverses'. -/
def fnInversesCard : Claim7 := { stood := { row := fnInversesRow, standIns := [], harness := (true, "0b7dd53a67b3d8d95cb3efb16f1fcfbde9ea07dd6973987b4d8024ee2965c1bd"), looks := false }, kinds := [], alts := [], laidByText := true, laidKinds := [.data], laidTests := true, laidLooks := .later }
def FnInversesCardSaid : Prop := Claim7.holds Tryd.pinned (.plain (OpenSpec.ofChange fnInversesSpec)) fnInversesCard

/-- THE SECOND FORM's CARD OF 'laws.FnExactCodeOfGabidulin'. -/
def fnExactCodeOfGabidulinUptoCard : Claim7 := { stood := { row := fnExactCodeOfGabidulinUptoRow, standIns := [], harness := (true, "0b7dd53a67b3d8d95cb3efb16f1fcfbde9ea07dd6973987b4d8024ee2965c1bd"), looks := false }, kinds := [], alts := [], laidByText := true, laidKinds := [.data], laidTests := true, laidLooks := .later }
def FnExactCodeOfGabidulinUptoCardSaid : Prop := Claim7.holds Tryd.pinned (.plain (OpenSpec.upto fnExactCodeOfGabidulinSpec)) fnExactCodeOfGabidulinUptoCard

/-- THE SECOND FORM's CARD OF 'laws.FnExactUnliftSpace'. -/
def fnExactUnliftSpaceUptoCard : Claim7 := { stood := { row := fnExactUnliftSpaceUptoRow, standIns := [], harness := (true, "0b7dd53a67b3d8d95cb3efb16f1fcfbde9ea07dd6973987b4d8024ee2965c1bd"), looks := false }, kinds := [], alts := [], laidByText := true, laidKinds := [.data], laidTests := true, laidLooks := .later }
def FnExactUnliftSpaceUptoCardSaid : Prop := Claim7.holds Tryd.pinned (.plain (OpenSpec.upto fnExactUnliftSpaceSpec)) fnExactUnliftSpaceUptoCard

/-- THE SECOND FORM's CARD OF 'laws.FnExactMissedBy'. -/
def fnExactMissedByUptoCard : Claim7 := { stood := { row := fnExactMissedByUptoRow, standIns := [], harness := (true, "0b7dd53a67b3d8d95cb3efb16f1fcfbde9ea07dd6973987b4d8024ee2965c1bd"), looks := false }, kinds := [], alts := [], laidByText := true, laidKinds := [.data], laidTests := true, laidLooks := .later }
def FnExactMissedByUptoCardSaid : Prop := Claim7.holds Tryd.pinned (.plain (OpenSpec.upto fnExactMissedBySpec)) fnExactMissedByUptoCard

/-- THE SECOND FORM's CARD OF 'laws.FnInverses'. -/
def fnInversesUptoCard : Claim7 := { stood := { row := fnInversesUptoRow, standIns := [], harness := (true, "0b7dd53a67b3d8d95cb3efb16f1fcfbde9ea07dd6973987b4d8024ee2965c1bd"), looks := false }, kinds := [], alts := [], laidByText := true, laidKinds := [.data], laidTests := true, laidLooks := .later }
def FnInversesUptoCardSaid : Prop := Claim7.holds Tryd.pinned (.plain (OpenSpec.upto fnInversesSpec)) fnInversesUptoCard
end Rows
end Go.Proofs.YtibennpdffgomaaDoor
