/-
  DERIVED. GIVEN WITH THE SEED: THE CARDS: each row of YtilghmfffdmnjaaDoorRows.lean that lists a variable, with what it lists TIED to the program's text (the seventh form; the later family's looks); each row that meets fmt, with fmt's text TOLD by the authors' own Lean function (tested against real Go, not proved from fmt's source: count such statements apart). THE CARD IS WHAT COUNTS. Prove the row's statement (the work); the ties are given (YtilghmfffdmnjaaDoorTie.lean); close each card by the builder's one call (the guide's Derived/Test/ToyasCard.lean, 'card_holds'). Laid BY PROGRAM, IN A SANDBOX (cutbox-door.mjs). By AI agents, Wed Nov 11 2026. No macro, syntax, notation, axiom, sorry.
-/
import Derived.Test.YtilghmfffdmnjaaDoorRows
import GoSem.ClaimSeven
namespace Go.Proofs.YtilghmfffdmnjaaDoor
namespace Rows

/-- THE TIED CARD OF 'laws.FnExactDualBasis'. -/
def fnExactDualBasisCard : Claim7 := { stood := { row := fnExactDualBasisRow, standIns := [], harness := (true, "9e46121d485f6b87d2d9695e71f3270df60373acd912ad56408c43c443b26647"), looks := false }, kinds := [], alts := [], laidByText := true, laidKinds := [.data], laidTests := true, laidLooks := .later }
def FnExactDualBasisCardSaid : Prop := Claim7.holds Tryd.pinned (.plain (OpenSpec.ofChange fnExactDualBasisSpec)) fnExactDualBasisCard

/-- THE TIED CARD OF 'laws.FnBases'. -/
def fnBasesCard : Claim7 := { stood := { row := fnBasesRow, standIns := [], harness := (true, "9e46121d485f6b87d2d9695e71f3270df60373acd912ad56408c43c443b26647"), looks := false }, kinds := [], alts := [], laidByText := true, laidKinds := [.data], laidTests := true, laidLooks := .later }
def FnBasesCardSaid : Prop := Claim7.holds Tryd.pinned (.plain (OpenSpec.ofChange fnBasesSpec)) fnBasesCard

/-- THE TIED CARD OF 'laws.FnInverses'. -/
def fnInversesCard : Claim7 := { stood := { row := fnInversesRow, standIns := [], harness := (true, "9e46121d485f6b87d2d9695e71f3270df60373acd912ad56408c43c443b26647"), looks := false }, kinds := [], alts := [], laidByText := true, laidKinds := [.data], laidTests := true, laidLooks := .later }
def FnInversesCardSaid : Prop := Claim7.holds Tryd.pinned (.plain (OpenSpec.ofChange fnInversesSpec)) fnInversesCard

/-- THE TIED CARD OF 'laws.FnKernels'. -/
def fnKernelsCard : Claim7 := { stood := { row := fnKernelsRow, standIns := [], harness := (true, "9e46121d485f6b87d2d9695e71f3270df60373acd912ad56408c43c443b26647"), looks := false }, kinds := [], alts := [], laidByText := true, laidKinds := [.data], laidTests := true, laidLooks := .later }
def FnKernelsCardSaid : Prop := Claim7.holds Tryd.pinned (.plain (OpenSpec.ofChange fnKernelsSpec)) fnKernelsCard

/-- THE TIED CARD OF 'laws.FnRanks'. -/
def fnRanksCard : Claim7 := { stood := { row := fnRanksRow, standIns := [], harness := (true, "9e46121d485f6b87d2d9695e71f3270df60373acd912ad56408c43c443b26647"), looks := false }, kinds := [], alts := [], laidByText := true, laidKinds := [.data], laidTests := true, laidLooks := .later }
def FnRanksCardSaid : Prop := Claim7.holds Tryd.pinned (.plain (OpenSpec.ofChange fnRanksSpec)) fnRanksCard

/-- THE TIED CARD OF 'laws.FnSumsAndMeets'. -/
def fnSumsAndMeetsCard : Claim7 := { stood := { row := fnSumsAndMeetsRow, standIns := [], harness := (true, "9e46121d485f6b87d2d9695e71f3270df60373acd912ad56408c43c443b26647"), looks := false }, kinds := [], alts := [], laidByText := true, laidKinds := [.data], laidTests := true, laidLooks := .later }
def FnSumsAndMeetsCardSaid : Prop := Claim7.holds Tryd.pinned (.plain (OpenSpec.ofChange fnSumsAndMeetsSpec)) fnSumsAndMeetsCard

/-- THE SECOND FORM's CARD OF 'laws.FnExactDualBasis'. -/
def fnExactDualBasisUptoCard : Claim7 := { stood := { row := fnExactDualBasisUptoRow, standIns := [], harness := (true, "9e46121d485f6b87d2d9695e71f3270df60373acd912ad56408c43c443b26647"), looks := false }, kinds := [], alts := [], laidByText := true, laidKinds := [.data], laidTests := true, laidLooks := .later }
def FnExactDualBasisUptoCardSaid : Prop := Claim7.holds Tryd.pinned (.plain (OpenSpec.upto fnExactDualBasisSpec)) fnExactDualBasisUptoCard

/-- THE SECOND FORM's CARD OF 'laws.FnBases'. -/
def fnBasesUptoCard : Claim7 := { stood := { row := fnBasesUptoRow, standIns := [], harness := (true, "9e46121d485f6b87d2d9695e71f3270df60373acd912ad56408c43c443b26647"), looks := false }, kinds := [], alts := [], laidByText := true, laidKinds := [.data], laidTests := true, laidLooks := .later }
def FnBasesUptoCardSaid : Prop := Claim7.holds Tryd.pinned (.plain (OpenSpec.upto fnBasesSpec)) fnBasesUptoCard

/-- THE SECOND FORM's CARD OF 'laws.FnInverses'. -/
def fnInversesUptoCard : Claim7 := { stood := { row := fnInversesUptoRow, standIns := [], harness := (true, "9e46121d485f6b87d2d9695e71f3270df60373acd912ad56408c43c443b26647"), looks := false }, kinds := [], alts := [], laidByText := true, laidKinds := [.data], laidTests := true, laidLooks := .later }
def FnInversesUptoCardSaid : Prop := Claim7.holds Tryd.pinned (.plain (OpenSpec.upto fnInversesSpec)) fnInversesUptoCard

/-- THE SECOND FORM's CARD OF 'laws.FnKernels'. -/
def fnKernelsUptoCard : Claim7 := { stood := { row := fnKernelsUptoRow, standIns := [], harness := (true, "9e46121d485f6b87d2d9695e71f3270df60373acd912ad56408c43c443b26647"), looks := false }, kinds := [], alts := [], laidByText := true, laidKinds := [.data], laidTests := true, laidLooks := .later }
def FnKernelsUptoCardSaid : Prop := Claim7.holds Tryd.pinned (.plain (OpenSpec.upto fnKernelsSpec)) fnKernelsUptoCard

/-- THE SECOND FORM's CARD OF 'laws.FnRanks'. -/
def fnRanksUptoCard : Claim7 := { stood := { row := fnRanksUptoRow, standIns := [], harness := (true, "9e46121d485f6b87d2d9695e71f3270df60373acd912ad56408c43c443b26647"), looks := false }, kinds := [], alts := [], laidByText := true, laidKinds := [.data], laidTests := true, laidLooks := .later }
def FnRanksUptoCardSaid : Prop := Claim7.holds Tryd.pinned (.plain (OpenSpec.upto fnRanksSpec)) fnRanksUptoCard

/-- THE SECOND FORM's CARD OF 'laws.FnSumsAndMeets'. -/
def fnSumsAndMeetsUptoCard : Claim7 := { stood := { row := fnSumsAndMeetsUptoRow, standIns := [], harness := (true, "9e46121d485f6b87d2d9695e71f3270df60373acd912ad56408c43c443b26647"), looks := false }, kinds := [], alts := [], laidByText := true, laidKinds := [.data], laidTests := true, laidLooks := .later }
def FnSumsAndMeetsUptoCardSaid : Prop := Claim7.holds Tryd.pinned (.plain (OpenSpec.upto fnSumsAndMeetsSpec)) fnSumsAndMeetsUptoCard
end Rows
end Go.Proofs.YtilghmfffdmnjaaDoor
