/-
  DERIVED. GIVEN WITH THE SEED: THE CARDS: each row of YtejpjcdnhboooaaDoorRows.lean that lists a variable, with what it lists TIED to the program's text (the seventh form; the later family's looks); each row that meets fmt, with fmt's text TOLD by the authors' own Lean function (tested against real Go, not proved from fmt's source: count such statements apart). THE CARD IS WHAT COUNTS. Prove the row's statement (the work); the ties are given (YtejpjcdnhboooaaDoorTie.lean); close each card by the builder's one call (the guide's Derived/Test/ToyasCard.lean, 'card_holds'). Laid BY PROGRAM, IN A SANDBOX (cutbox-door.mjs). By AI agents, Wed Nov 11 2026. No macro, syntax, notation, axiom, sorry.
-/
import Derived.Test.YtejpjcdnhboooaaDoorRows
import GoSem.ClaimSeven
namespace Go.Proofs.YtejpjcdnhboooaaDoor
namespace Rows

/-- THE TIED CARD OF 'laws.FnExactWordRank'. -/
def fnExactWordRankCard : Claim7 := { stood := { row := fnExactWordRankRow, standIns := [], harness := (true, "1c5ac6aec11d62e517238af06801b661621233373ba358d4f7ba4bc15a5de45e"), looks := false }, kinds := [], alts := [], laidByText := true, laidKinds := [.data], laidTests := true, laidLooks := .later }
def FnExactWordRankCardSaid : Prop := Claim7.holds Tryd.pinned (.plain (OpenSpec.ofChange fnExactWordRankSpec)) fnExactWordRankCard

/-- THE TIED CARD OF 'laws.FnExactWordDistance'. -/
def fnExactWordDistanceCard : Claim7 := { stood := { row := fnExactWordDistanceRow, standIns := [], harness := (true, "1c5ac6aec11d62e517238af06801b661621233373ba358d4f7ba4bc15a5de45e"), looks := false }, kinds := [], alts := [], laidByText := true, laidKinds := [.data], laidTests := true, laidLooks := .later }
def FnExactWordDistanceCardSaid : Prop := Claim7.holds Tryd.pinned (.plain (OpenSpec.ofChange fnExactWordDistanceSpec)) fnExactWordDistanceCard

/-- THE TIED CARD OF 'laws.FnExactRowSupport'. -/
def fnExactRowSupportCard : Claim7 := { stood := { row := fnExactRowSupportRow, standIns := [], harness := (true, "1c5ac6aec11d62e517238af06801b661621233373ba358d4f7ba4bc15a5de45e"), looks := false }, kinds := [], alts := [], laidByText := true, laidKinds := [.data], laidTests := true, laidLooks := .later }
def FnExactRowSupportCardSaid : Prop := Claim7.holds Tryd.pinned (.plain (OpenSpec.ofChange fnExactRowSupportSpec)) fnExactRowSupportCard

/-- THE TIED CARD OF 'laws.FnExactColumnSupport'. -/
def fnExactColumnSupportCard : Claim7 := { stood := { row := fnExactColumnSupportRow, standIns := [], harness := (true, "1c5ac6aec11d62e517238af06801b661621233373ba358d4f7ba4bc15a5de45e"), looks := false }, kinds := [], alts := [], laidByText := true, laidKinds := [.data], laidTests := true, laidLooks := .later }
def FnExactColumnSupportCardSaid : Prop := Claim7.holds Tryd.pinned (.plain (OpenSpec.ofChange fnExactColumnSupportSpec)) fnExactColumnSupportCard

/-- THE SECOND FORM's CARD OF 'laws.FnExactWordRank'. -/
def fnExactWordRankUptoCard : Claim7 := { stood := { row := fnExactWordRankUptoRow, standIns := [], harness := (true, "1c5ac6aec11d62e517238af06801b661621233373ba358d4f7ba4bc15a5de45e"), looks := false }, kinds := [], alts := [], laidByText := true, laidKinds := [.data], laidTests := true, laidLooks := .later }
def FnExactWordRankUptoCardSaid : Prop := Claim7.holds Tryd.pinned (.plain (OpenSpec.upto fnExactWordRankSpec)) fnExactWordRankUptoCard

/-- THE SECOND FORM's CARD OF 'laws.FnExactWordDistance'. -/
def fnExactWordDistanceUptoCard : Claim7 := { stood := { row := fnExactWordDistanceUptoRow, standIns := [], harness := (true, "1c5ac6aec11d62e517238af06801b661621233373ba358d4f7ba4bc15a5de45e"), looks := false }, kinds := [], alts := [], laidByText := true, laidKinds := [.data], laidTests := true, laidLooks := .later }
def FnExactWordDistanceUptoCardSaid : Prop := Claim7.holds Tryd.pinned (.plain (OpenSpec.upto fnExactWordDistanceSpec)) fnExactWordDistanceUptoCard

/-- THE SECOND FORM's CARD OF 'laws.FnExactRowSupport'. -/
def fnExactRowSupportUptoCard : Claim7 := { stood := { row := fnExactRowSupportUptoRow, standIns := [], harness := (true, "1c5ac6aec11d62e517238af06801b661621233373ba358d4f7ba4bc15a5de45e"), looks := false }, kinds := [], alts := [], laidByText := true, laidKinds := [.data], laidTests := true, laidLooks := .later }
def FnExactRowSupportUptoCardSaid : Prop := Claim7.holds Tryd.pinned (.plain (OpenSpec.upto fnExactRowSupportSpec)) fnExactRowSupportUptoCard

/-- THE SECOND FORM's CARD OF 'laws.FnExactColumnSupport'. -/
def fnExactColumnSupportUptoCard : Claim7 := { stood := { row := fnExactColumnSupportUptoRow, standIns := [], harness := (true, "1c5ac6aec11d62e517238af06801b661621233373ba358d4f7ba4bc15a5de45e"), looks := false }, kinds := [], alts := [], laidByText := true, laidKinds := [.data], laidTests := true, laidLooks := .later }
def FnExactColumnSupportUptoCardSaid : Prop := Claim7.holds Tryd.pinned (.plain (OpenSpec.upto fnExactColumnSupportSpec)) fnExactColumnSupportUptoCard
end Rows
end Go.Proofs.YtejpjcdnhboooaaDoor
