/-
  DERIVED. GIVEN WITH THE SEED: THE CARDS: each row of YtfhalaohegdbhaaDoorRows.lean that lists a variable, with what it lists TIED to the program's text (the seventh form; the later family's looks); each row that meets fmt, with fmt's text TOLD by the authors' own Lean function (tested against real Go, not proved from fmt's source: count such statements apart). THE CARD IS WHAT COUNTS. Prove the row's statement (the work); the ties are given (YtfhalaohegdbhaaDoorTie.lean); close each card by the builder's one call (the guide's Derived/Test/ToyasCard.lean, 'card_holds'). Laid BY PROGRAM, IN A SANDBOX (cutbox-door.mjs). By AI agents, Wed Nov 11 2026. No macro, syntax, notation, axiom, sorry.
-/
import Derived.Test.YtfhalaohegdbhaaDoorRows
import GoSem.ClaimSeven
namespace Go.Proofs.YtfhalaohegdbhaaDoor
namespace Rows

/-- THE TIED CARD OF 'laws.FnExactRankOf'. -/
def fnExactRankOfCard : Claim7 := { stood := { row := fnExactRankOfRow, standIns := [], harness := (true, "c514dba3c37d006d2143fe299226c33107728b2240b68f618a4e5be42c1e8d0e"), looks := false }, kinds := [], alts := [], laidByText := true, laidKinds := [.data], laidTests := true, laidLooks := .later }
def FnExactRankOfCardSaid : Prop := Claim7.holds Tryd.pinned (.plain (OpenSpec.ofChange fnExactRankOfSpec)) fnExactRankOfCard

/-- THE TIED CARD OF 'laws.FnExactEchelonOf'. -/
def fnExactEchelonOfCard : Claim7 := { stood := { row := fnExactEchelonOfRow, standIns := [], harness := (true, "c514dba3c37d006d2143fe299226c33107728b2240b68f618a4e5be42c1e8d0e"), looks := false }, kinds := [], alts := [], laidByText := true, laidKinds := [.data], laidTests := true, laidLooks := .later }
def FnExactEchelonOfCardSaid : Prop := Claim7.holds Tryd.pinned (.plain (OpenSpec.ofChange fnExactEchelonOfSpec)) fnExactEchelonOfCard

/-- THE TIED CARD OF 'laws.FnExactSpaceOf'. -/
def fnExactSpaceOfCard : Claim7 := { stood := { row := fnExactSpaceOfRow, standIns := [], harness := (true, "c514dba3c37d006d2143fe299226c33107728b2240b68f618a4e5be42c1e8d0e"), looks := false }, kinds := [], alts := [], laidByText := true, laidKinds := [.data], laidTests := true, laidLooks := .later }
def FnExactSpaceOfCardSaid : Prop := Claim7.holds Tryd.pinned (.plain (OpenSpec.ofChange fnExactSpaceOfSpec)) fnExactSpaceOfCard

/-- THE TIED CARD OF 'laws.FnExactKernelOf'. -/
def fnExactKernelOfCard : Claim7 := { stood := { row := fnExactKernelOfRow, standIns := [], harness := (true, "c514dba3c37d006d2143fe299226c33107728b2240b68f618a4e5be42c1e8d0e"), looks := false }, kinds := [], alts := [], laidByText := true, laidKinds := [.data], laidTests := true, laidLooks := .later }
def FnExactKernelOfCardSaid : Prop := Claim7.holds Tryd.pinned (.plain (OpenSpec.ofChange fnExactKernelOfSpec)) fnExactKernelOfCard

/-- THE TIED CARD OF 'laws.FnExactIsSpace'. -/
def fnExactIsSpaceCard : Claim7 := { stood := { row := fnExactIsSpaceRow, standIns := [], harness := (true, "c514dba3c37d006d2143fe299226c33107728b2240b68f618a4e5be42c1e8d0e"), looks := false }, kinds := [], alts := [], laidByText := true, laidKinds := [.data], laidTests := true, laidLooks := .later }
def FnExactIsSpaceCardSaid : Prop := Claim7.holds Tryd.pinned (.plain (OpenSpec.ofChange fnExactIsSpaceSpec)) fnExactIsSpaceCard

/-- THE TIED CARD OF 'laws.FnExactDualSpace'. -/
def fnExactDualSpaceCard : Claim7 := { stood := { row := fnExactDualSpaceRow, standIns := [], harness := (true, "c514dba3c37d006d2143fe299226c33107728b2240b68f618a4e5be42c1e8d0e"), looks := false }, kinds := [], alts := [], laidByText := true, laidKinds := [.data], laidTests := true, laidLooks := .later }
def FnExactDualSpaceCardSaid : Prop := Claim7.holds Tryd.pinned (.plain (OpenSpec.ofChange fnExactDualSpaceSpec)) fnExactDualSpaceCard

/-- THE TIED CARD OF 'laws.FnExactContains'. -/
def fnExactContainsCard : Claim7 := { stood := { row := fnExactContainsRow, standIns := [], harness := (true, "c514dba3c37d006d2143fe299226c33107728b2240b68f618a4e5be42c1e8d0e"), looks := false }, kinds := [], alts := [], laidByText := true, laidKinds := [.data], laidTests := true, laidLooks := .later }
def FnExactContainsCardSaid : Prop := Claim7.holds Tryd.pinned (.plain (OpenSpec.ofChange fnExactContainsSpec)) fnExactContainsCard

/-- THE TIED CARD OF 'laws.FnExactSumOf'. -/
def fnExactSumOfCard : Claim7 := { stood := { row := fnExactSumOfRow, standIns := [], harness := (true, "c514dba3c37d006d2143fe299226c33107728b2240b68f618a4e5be42c1e8d0e"), looks := false }, kinds := [], alts := [], laidByText := true, laidKinds := [.data], laidTests := true, laidLooks := .later }
def FnExactSumOfCardSaid : Prop := Claim7.holds Tryd.pinned (.plain (OpenSpec.ofChange fnExactSumOfSpec)) fnExactSumOfCard

/-- THE TIED CARD OF 'laws.FnExactMeetOf'. -/
def fnExactMeetOfCard : Claim7 := { stood := { row := fnExactMeetOfRow, standIns := [], harness := (true, "c514dba3c37d006d2143fe299226c33107728b2240b68f618a4e5be42c1e8d0e"), looks := false }, kinds := [], alts := [], laidByText := true, laidKinds := [.data], laidTests := true, laidLooks := .later }
def FnExactMeetOfCardSaid : Prop := Claim7.holds Tryd.pinned (.plain (OpenSpec.ofChange fnExactMeetOfSpec)) fnExactMeetOfCard

/-- THE TIED CARD OF 'laws.FnExactDistanceOf'. -/
def fnExactDistanceOfCard : Claim7 := { stood := { row := fnExactDistanceOfRow, standIns := [], harness := (true, "c514dba3c37d006d2143fe299226c33107728b2240b68f618a4e5be42c1e8d0e"), looks := false }, kinds := [], alts := [], laidByText := true, laidKinds := [.data], laidTests := true, laidLooks := .later }
def FnExactDistanceOfCardSaid : Prop := Claim7.holds Tryd.pinned (.plain (OpenSpec.ofChange fnExactDistanceOfSpec)) fnExactDistanceOfCard

/-- THE TIED CARD OF 'laws.FnExactInverseMatrix'. -/
def fnExactInverseMatrixCard : Claim7 := { stood := { row := fnExactInverseMatrixRow, standIns := [], harness := (true, "c514dba3c37d006d2143fe299226c33107728b2240b68f618a4e5be42c1e8d0e"), looks := false }, kinds := [], alts := [], laidByText := true, laidKinds := [.data], laidTests := true, laidLooks := .later }
def FnExactInverseMatrixCardSaid : Prop := Claim7.holds Tryd.pinned (.plain (OpenSpec.ofChange fnExactInverseMatrixSpec)) fnExactInverseMatrixCard

/-- THE TIED CARD OF 'laws.FnExactRowSupport'. -/
def fnExactRowSupportCard : Claim7 := { stood := { row := fnExactRowSupportRow, standIns := [], harness := (true, "c514dba3c37d006d2143fe299226c33107728b2240b68f618a4e5be42c1e8d0e"), looks := false }, kinds := [], alts := [], laidByText := true, laidKinds := [.data], laidTests := true, laidLooks := .later }
def FnExactRowSupportCardSaid : Prop := Claim7.holds Tryd.pinned (.plain (OpenSpec.ofChange fnExactRowSupportSpec)) fnExactRowSupportCard

/-- THE TIED CARD OF 'laws.FnExactColumnSupport'. -/
def fnExactColumnSupportCard : Claim7 := { stood := { row := fnExactColumnSupportRow, standIns := [], harness := (true, "c514dba3c37d006d2143fe299226c33107728b2240b68f618a4e5be42c1e8d0e"), looks := false }, kinds := [], alts := [], laidByText := true, laidKinds := [.data], laidTests := true, laidLooks := .later }
def FnExactColumnSupportCardSaid : Prop := Claim7.holds Tryd.pinned (.plain (OpenSpec.ofChange fnExactColumnSupportSpec)) fnExactColumnSupportCard

/-- THE SECOND FORM's CARD OF 'laws.FnExactRankOf'. -/
def fnExactRankOfUptoCard : Claim7 := { stood := { row := fnExactRankOfUptoRow, standIns := [], harness := (true, "c514dba3c37d006d2143fe299226c33107728b2240b68f618a4e5be42c1e8d0e"), looks := false }, kinds := [], alts := [], laidByText := true, laidKinds := [.data], laidTests := true, laidLooks := .later }
def FnExactRankOfUptoCardSaid : Prop := Claim7.holds Tryd.pinned (.plain (OpenSpec.upto fnExactRankOfSpec)) fnExactRankOfUptoCard

/-- THE SECOND FORM's CARD OF 'laws.FnExactEchelonOf'. -/
def fnExactEchelonOfUptoCard : Claim7 := { stood := { row := fnExactEchelonOfUptoRow, standIns := [], harness := (true, "c514dba3c37d006d2143fe299226c33107728b2240b68f618a4e5be42c1e8d0e"), looks := false }, kinds := [], alts := [], laidByText := true, laidKinds := [.data], laidTests := true, laidLooks := .later }
def FnExactEchelonOfUptoCardSaid : Prop := Claim7.holds Tryd.pinned (.plain (OpenSpec.upto fnExactEchelonOfSpec)) fnExactEchelonOfUptoCard

/-- THE SECOND FORM's CARD OF 'laws.FnExactSpaceOf'. -/
def fnExactSpaceOfUptoCard : Claim7 := { stood := { row := fnExactSpaceOfUptoRow, standIns := [], harness := (true, "c514dba3c37d006d2143fe299226c33107728b2240b68f618a4e5be42c1e8d0e"), looks := false }, kinds := [], alts := [], laidByText := true, laidKinds := [.data], laidTests := true, laidLooks := .later }
def FnExactSpaceOfUptoCardSaid : Prop := Claim7.holds Tryd.pinned (.plain (OpenSpec.upto fnExactSpaceOfSpec)) fnExactSpaceOfUptoCard

/-- THE SECOND FORM's CARD OF 'laws.FnExactKernelOf'. -/
def fnExactKernelOfUptoCard : Claim7 := { stood := { row := fnExactKernelOfUptoRow, standIns := [], harness := (true, "c514dba3c37d006d2143fe299226c33107728b2240b68f618a4e5be42c1e8d0e"), looks := false }, kinds := [], alts := [], laidByText := true, laidKinds := [.data], laidTests := true, laidLooks := .later }
def FnExactKernelOfUptoCardSaid : Prop := Claim7.holds Tryd.pinned (.plain (OpenSpec.upto fnExactKernelOfSpec)) fnExactKernelOfUptoCard

/-- THE SECOND FORM's CARD OF 'laws.FnExactIsSpace'. -/
def fnExactIsSpaceUptoCard : Claim7 := { stood := { row := fnExactIsSpaceUptoRow, standIns := [], harness := (true, "c514dba3c37d006d2143fe299226c33107728b2240b68f618a4e5be42c1e8d0e"), looks := false }, kinds := [], alts := [], laidByText := true, laidKinds := [.data], laidTests := true, laidLooks := .later }
def FnExactIsSpaceUptoCardSaid : Prop := Claim7.holds Tryd.pinned (.plain (OpenSpec.upto fnExactIsSpaceSpec)) fnExactIsSpaceUptoCard

/-- THE SECOND FORM's CARD OF 'laws.FnExactDualSpace'. -/
def fnExactDualSpaceUptoCard : Claim7 := { stood := { row := fnExactDualSpaceUptoRow, standIns := [], harness := (true, "c514dba3c37d006d2143fe299226c33107728b2240b68f618a4e5be42c1e8d0e"), looks := false }, kinds := [], alts := [], laidByText := true, laidKinds := [.data], laidTests := true, laidLooks := .later }
def FnExactDualSpaceUptoCardSaid : Prop := Claim7.holds Tryd.pinned (.plain (OpenSpec.upto fnExactDualSpaceSpec)) fnExactDualSpaceUptoCard

/-- THE SECOND FORM's CARD OF 'laws.FnExactContains'. -/
def fnExactContainsUptoCard : Claim7 := { stood := { row := fnExactContainsUptoRow, standIns := [], harness := (true, "c514dba3c37d006d2143fe299226c33107728b2240b68f618a4e5be42c1e8d0e"), looks := false }, kinds := [], alts := [], laidByText := true, laidKinds := [.data], laidTests := true, laidLooks := .later }
def FnExactContainsUptoCardSaid : Prop := Claim7.holds Tryd.pinned (.plain (OpenSpec.upto fnExactContainsSpec)) fnExactContainsUptoCard

/-- THE SECOND FORM's CARD OF 'laws.FnExactSumOf'. -/
def fnExactSumOfUptoCard : Claim7 := { stood := { row := fnExactSumOfUptoRow, standIns := [], harness := (true, "c514dba3c37d006d2143fe299226c33107728b2240b68f618a4e5be42c1e8d0e"), looks := false }, kinds := [], alts := [], laidByText := true, laidKinds := [.data], laidTests := true, laidLooks := .later }
def FnExactSumOfUptoCardSaid : Prop := Claim7.holds Tryd.pinned (.plain (OpenSpec.upto fnExactSumOfSpec)) fnExactSumOfUptoCard

/-- THE SECOND FORM's CARD OF 'laws.FnExactMeetOf'. -/
def fnExactMeetOfUptoCard : Claim7 := { stood := { row := fnExactMeetOfUptoRow, standIns := [], harness := (true, "c514dba3c37d006d2143fe299226c33107728b2240b68f618a4e5be42c1e8d0e"), looks := false }, kinds := [], alts := [], laidByText := true, laidKinds := [.data], laidTests := true, laidLooks := .later }
def FnExactMeetOfUptoCardSaid : Prop := Claim7.holds Tryd.pinned (.plain (OpenSpec.upto fnExactMeetOfSpec)) fnExactMeetOfUptoCard

/-- THE SECOND FORM's CARD OF 'laws.FnExactDistanceOf'. -/
def fnExactDistanceOfUptoCard : Claim7 := { stood := { row := fnExactDistanceOfUptoRow, standIns := [], harness := (true, "c514dba3c37d006d2143fe299226c33107728b2240b68f618a4e5be42c1e8d0e"), looks := false }, kinds := [], alts := [], laidByText := true, laidKinds := [.data], laidTests := true, laidLooks := .later }
def FnExactDistanceOfUptoCardSaid : Prop := Claim7.holds Tryd.pinned (.plain (OpenSpec.upto fnExactDistanceOfSpec)) fnExactDistanceOfUptoCard

/-- THE SECOND FORM's CARD OF 'laws.FnExactInverseMatrix'. -/
def fnExactInverseMatrixUptoCard : Claim7 := { stood := { row := fnExactInverseMatrixUptoRow, standIns := [], harness := (true, "c514dba3c37d006d2143fe299226c33107728b2240b68f618a4e5be42c1e8d0e"), looks := false }, kinds := [], alts := [], laidByText := true, laidKinds := [.data], laidTests := true, laidLooks := .later }
def FnExactInverseMatrixUptoCardSaid : Prop := Claim7.holds Tryd.pinned (.plain (OpenSpec.upto fnExactInverseMatrixSpec)) fnExactInverseMatrixUptoCard

/-- THE SECOND FORM's CARD OF 'laws.FnExactRowSupport'. -/
def fnExactRowSupportUptoCard : Claim7 := { stood := { row := fnExactRowSupportUptoRow, standIns := [], harness := (true, "c514dba3c37d006d2143fe299226c33107728b2240b68f618a4e5be42c1e8d0e"), looks := false }, kinds := [], alts := [], laidByText := true, laidKinds := [.data], laidTests := true, laidLooks := .later }
def FnExactRowSupportUptoCardSaid : Prop := Claim7.holds Tryd.pinned (.plain (OpenSpec.upto fnExactRowSupportSpec)) fnExactRowSupportUptoCard

/-- THE SECOND FORM's CARD OF 'laws.FnExactColumnSupport'. -/
def fnExactColumnSupportUptoCard : Claim7 := { stood := { row := fnExactColumnSupportUptoRow, standIns := [], harness := (true, "c514dba3c37d006d2143fe299226c33107728b2240b68f618a4e5be42c1e8d0e"), looks := false }, kinds := [], alts := [], laidByText := true, laidKinds := [.data], laidTests := true, laidLooks := .later }
def FnExactColumnSupportUptoCardSaid : Prop := Claim7.holds Tryd.pinned (.plain (OpenSpec.upto fnExactColumnSupportSpec)) fnExactColumnSupportUptoCard
end Rows
end Go.Proofs.YtfhalaohegdbhaaDoor
