/-
  DERIVED. GIVEN WITH THE SEED: THE CARDS: each row of YtfppacahjdpamaaDoorRows.lean that lists a variable, with what it lists TIED to the program's text (the seventh form; the later family's looks); each row that meets fmt, with fmt's text TOLD by the authors' own Lean function (tested against real Go, not proved from fmt's source: count such statements apart). THE CARD IS WHAT COUNTS. Prove the row's statement (the work); the ties are given (YtfppacahjdpamaaDoorTie.lean); close each card by the builder's one call (the guide's Derived/Test/ToyasCard.lean, 'card_holds'). Laid BY PROGRAM, IN A SANDBOX (cutbox-door.mjs). By AI agents, Wed Nov 11 2026. No macro, syntax, notation, axiom, sorry.
-/
import Derived.Test.YtfppacahjdpamaaDoorRows
import GoSem.ClaimSeven
namespace Go.Proofs.YtfppacahjdpamaaDoor
namespace Rows

/-- THE TIED CARD OF 'laws.FnExactDualBasis'. -/
def fnExactDualBasisCard : Claim7 := { stood := { row := fnExactDualBasisRow, standIns := [], harness := (true, "590e0e7c3e8bc783944921c4b225e9cd8a9327502c154309f247ead1d6dc3fb4"), looks := false }, kinds := [], alts := [], laidByText := true, laidKinds := [.data], laidTests := true, laidLooks := .later }
def FnExactDualBasisCardSaid : Prop := Claim7.holds Tryd.pinned (.plain (OpenSpec.ofChange fnExactDualBasisSpec)) fnExactDualBasisCard

/-- THE TIED CARD OF 'laws.FnExactRankOfLinear'. -/
def fnExactRankOfLinearCard : Claim7 := { stood := { row := fnExactRankOfLinearRow, standIns := [], harness := (true, "590e0e7c3e8bc783944921c4b225e9cd8a9327502c154309f247ead1d6dc3fb4"), looks := false }, kinds := [], alts := [], laidByText := true, laidKinds := [.data], laidTests := true, laidLooks := .later }
def FnExactRankOfLinearCardSaid : Prop := Claim7.holds Tryd.pinned (.plain (OpenSpec.ofChange fnExactRankOfLinearSpec)) fnExactRankOfLinearCard

/-- THE SECOND FORM's CARD OF 'laws.FnExactDualBasis'. -/
def fnExactDualBasisUptoCard : Claim7 := { stood := { row := fnExactDualBasisUptoRow, standIns := [], harness := (true, "590e0e7c3e8bc783944921c4b225e9cd8a9327502c154309f247ead1d6dc3fb4"), looks := false }, kinds := [], alts := [], laidByText := true, laidKinds := [.data], laidTests := true, laidLooks := .later }
def FnExactDualBasisUptoCardSaid : Prop := Claim7.holds Tryd.pinned (.plain (OpenSpec.upto fnExactDualBasisSpec)) fnExactDualBasisUptoCard

/-- THE SECOND FORM's CARD OF 'laws.FnExactRankOfLinear'. -/
def fnExactRankOfLinearUptoCard : Claim7 := { stood := { row := fnExactRankOfLinearUptoRow, standIns := [], harness := (true, "590e0e7c3e8bc783944921c4b225e9cd8a9327502c154309f247ead1d6dc3fb4"), looks := false }, kinds := [], alts := [], laidByText := true, laidKinds := [.data], laidTests := true, laidLooks := .later }
def FnExactRankOfLinearUptoCardSaid : Prop := Claim7.holds Tryd.pinned (.plain (OpenSpec.upto fnExactRankOfLinearSpec)) fnExactRankOfLinearUptoCard
end Rows
end Go.Proofs.YtfppacahjdpamaaDoor
