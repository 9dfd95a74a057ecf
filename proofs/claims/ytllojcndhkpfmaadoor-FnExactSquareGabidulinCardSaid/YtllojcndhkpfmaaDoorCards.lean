/-
  DERIVED. GIVEN WITH THE SEED: THE CARDS: each row of YtllojcndhkpfmaaDoorRows.lean that lists a variable, with what it lists TIED to the program's text (the seventh form; the later family's looks); each row that meets fmt, with fmt's text TOLD by the authors' own Lean function (tested against real Go, not proved from fmt's source: count such statements apart). THE CARD IS WHAT COUNTS. Prove the row's statement (the work); the ties are given (YtllojcndhkpfmaaDoorTie.lean); close each card by the builder's one call (the guide's Derived/Test/ToyasCard.lean, 'card_holds'). Laid BY PROGRAM, IN A SANDBOX (cutbox-door.mjs). By AI agents, Wed Nov 11 2026. No macro, syntax, notation, axiom, sorry.
-/
import Derived.Test.YtllojcndhkpfmaaDoorRows
import GoSem.ClaimSeven
namespace Go.Proofs.YtllojcndhkpfmaaDoor
namespace Rows

/-- THE TIED CARD OF 'laws.FnExactSquareGabidulin'. -/
def fnExactSquareGabidulinCard : Claim7 := { stood := { row := fnExactSquareGabidulinRow, standIns := [], harness := (true, "b33b85710b2eb20fe94af06ead106824752ce2211003e34aa9c27773c68c24f3"), looks := false }, kinds := [], alts := [], laidByText := true, laidKinds := [.data], laidTests := true, laidLooks := .later }
def FnExactSquareGabidulinCardSaid : Prop := Claim7.holds Tryd.pinned (.plain (OpenSpec.ofChange fnExactSquareGabidulinSpec)) fnExactSquareGabidulinCard

/-- THE SECOND FORM's CARD OF 'laws.FnExactSquareGabidulin'. -/
def fnExactSquareGabidulinUptoCard : Claim7 := { stood := { row := fnExactSquareGabidulinUptoRow, standIns := [], harness := (true, "b33b85710b2eb20fe94af06ead106824752ce2211003e34aa9c27773c68c24f3"), looks := false }, kinds := [], alts := [], laidByText := true, laidKinds := [.data], laidTests := true, laidLooks := .later }
def FnExactSquareGabidulinUptoCardSaid : Prop := Claim7.holds Tryd.pinned (.plain (OpenSpec.upto fnExactSquareGabidulinSpec)) fnExactSquareGabidulinUptoCard
end Rows
end Go.Proofs.YtllojcndhkpfmaaDoor
