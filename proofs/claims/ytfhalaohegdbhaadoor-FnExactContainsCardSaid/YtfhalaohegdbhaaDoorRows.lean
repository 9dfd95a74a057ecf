/-
  NARROWER THAN 'FOR EVERY INPUT', by the rows' own cells (each row's printed sentence says how): FnExactRankOf: laid · FnExactEchelonOf: laid · FnExactSpaceOf: laid · FnExactKernelOf: laid · FnExactIsSpace: laid · FnExactDualSpace: laid · FnExactContains: laid · FnExactSumOf: laid · FnExactMeetOf: laid · FnExactDistanceOf: laid · FnExactInverseMatrix: laid · FnExactRowSupport: laid · FnExactColumnSupport: laid.
  DERIVED. THE GIVEN ROWS OF THIS SEAT. 13 by the template 'for every input the law returns true; each argument reads behind the call as it read before'; 0 by the template 'total and deterministic' (their statements: YtfhalaohegdbhaaDoorTotals.lean).
  GIVEN WITH THE SEED: the statements are not yours to turn. If you find one false, say at which input.
  Laid BY PROGRAM, IN A SANDBOX (cutbox-rows.mjs): the forced cells as the released guide's own fill.sh prints them over the translation c8d19b1b7a3d64c9… (all of the seat's roots in one cut). By AI agents, Wed Nov 11 2026. No macro, syntax, notation, axiom, sorry.
-/
import Derived.Test.YtfhalaohegdbhaaDoorChecked
import GoSem.Claim
import GoSem.ClaimJoined
import GoSem.ClaimMapViews
import Derived.JoinedTies
import Derived.KernelRfl
namespace Go.Proofs.YtfhalaohegdbhaaDoor
/- THE CELL 'sum', in the pinned program and in every row, IS THE sha256 OF THE DUMP (.gsa) THAT YtfhalaohegdbhaaDoorProg.lean LOADS. Nothing in Lean hashes anything: it is a label: what it is worth is what the hold of that sum in a sandbox is worth. -/
noncomputable def Tryd.pinned : Pinned := { name := "ytfhalaohegdbhaadoor", sum := "c8d19b1b7a3d64c99eecf19232b4a2cdfb0be5cd0d728c38cd127ea07299a38e", checked := Tryd.checked }
namespace Rows
def none {H : Type} : Left H := { results := [], args := [] }

/- WHAT THE LISTED PACKAGE-LEVEL VARIABLES READ AS WHEN THE CALL BEGINS. Each datum BY PROGRAM (the guide's laid-datum.mjs) off the statement by which the dump's own 'gosem.cut.vars' lays the variable. In a bare row this is a premise. The card (YtfhalaohegdbhaaDoorCards.lean) ties it to the program's text. -/
def laid_math_bits_deBruijn32tab {H : Type} : DataW H := .agg [.lit (.int .u8 0), .lit (.int .u8 1), .lit (.int .u8 28), .lit (.int .u8 2), .lit (.int .u8 29), .lit (.int .u8 14), .lit (.int .u8 24), .lit (.int .u8 3), .lit (.int .u8 30), .lit (.int .u8 22), .lit (.int .u8 20), .lit (.int .u8 15), .lit (.int .u8 25), .lit (.int .u8 17), .lit (.int .u8 4), .lit (.int .u8 8), .lit (.int .u8 31), .lit (.int .u8 27), .lit (.int .u8 13), .lit (.int .u8 23), .lit (.int .u8 21), .lit (.int .u8 19), .lit (.int .u8 16), .lit (.int .u8 7), .lit (.int .u8 26), .lit (.int .u8 12), .lit (.int .u8 18), .lit (.int .u8 6), .lit (.int .u8 11), .lit (.int .u8 5), .lit (.int .u8 10), .lit (.int .u8 9)]

/-- 'laws.FnExactRankOf': WHATEVER THE INPUT: true; the input reads as it did. -/
def fnExactRankOfSpec : ChangeSpec := { name := "fnExactRankOf", fn := fun _ => fun
  | [d] => { results := [.lit (.bool true)], args := [d] }
  | _ => none }
def fnExactRankOfRow : OpenClaim := { program := "ytfhalaohegdbhaadoor", sum := "c8d19b1b7a3d64c99eecf19232b4a2cdfb0be5cd0d728c38cd127ea07299a38e", func := "loop.example/g01144/laws.FnExactRankOf", spec := "fnExactRankOf", named := ["math/bits.deBruijn32tab"], apart := false, laid := [("math/bits.deBruijn32tab", laid_math_bits_deBruijn32tab)] }
def FnExactRankOfSaid : Prop := fnExactRankOfRow.holds Tryd.pinned (OpenSpec.ofChange fnExactRankOfSpec)

/-- ITS FALSE NEIGHBOUR: 'it returns false'. Refute it at one input. -/
def fnExactRankOfWrong : ChangeSpec := { name := "fnExactRankOf", fn := fun _ => fun
  | [d] => { results := [.lit (.bool false)], args := [d] }
  | _ => none }
def FnExactRankOfWrongFalsely : Prop := fnExactRankOfRow.holds Tryd.pinned (OpenSpec.ofChange fnExactRankOfWrong)

/-- 'laws.FnExactEchelonOf': WHATEVER THE INPUT: true; the input reads as it did. -/
def fnExactEchelonOfSpec : ChangeSpec := { name := "fnExactEchelonOf", fn := fun _ => fun
  | [d] => { results := [.lit (.bool true)], args := [d] }
  | _ => none }
def fnExactEchelonOfRow : OpenClaim := { program := "ytfhalaohegdbhaadoor", sum := "c8d19b1b7a3d64c99eecf19232b4a2cdfb0be5cd0d728c38cd127ea07299a38e", func := "loop.example/g01144/laws.FnExactEchelonOf", spec := "fnExactEchelonOf", named := ["math/bits.deBruijn32tab"], apart := false, laid := [("math/bits.deBruijn32tab", laid_math_bits_deBruijn32tab)] }
def FnExactEchelonOfSaid : Prop := fnExactEchelonOfRow.holds Tryd.pinned (OpenSpec.ofChange fnExactEchelonOfSpec)

/-- ITS FALSE NEIGHBOUR: 'it returns false'. Refute it at one input. -/
def fnExactEchelonOfWrong : ChangeSpec := { name := "fnExactEchelonOf", fn := fun _ => fun
  | [d] => { results := [.lit (.bool false)], args := [d] }
  | _ => none }
def FnExactEchelonOfWrongFalsely : Prop := fnExactEchelonOfRow.holds Tryd.pinned (OpenSpec.ofChange fnExactEchelonOfWrong)

/-- 'laws.FnExactSpaceOf': WHATEVER THE INPUT: true; the input reads as it did. -/
def fnExactSpaceOfSpec : ChangeSpec := { name := "fnExactSpaceOf", fn := fun _ => fun
  | [d] => { results := [.lit (.bool true)], args := [d] }
  | _ => none }
def fnExactSpaceOfRow : OpenClaim := { program := "ytfhalaohegdbhaadoor", sum := "c8d19b1b7a3d64c99eecf19232b4a2cdfb0be5cd0d728c38cd127ea07299a38e", func := "loop.example/g01144/laws.FnExactSpaceOf", spec := "fnExactSpaceOf", named := ["math/bits.deBruijn32tab"], apart := false, laid := [("math/bits.deBruijn32tab", laid_math_bits_deBruijn32tab)] }
def FnExactSpaceOfSaid : Prop := fnExactSpaceOfRow.holds Tryd.pinned (OpenSpec.ofChange fnExactSpaceOfSpec)

/-- ITS FALSE NEIGHBOUR: 'it returns false'. Refute it at one input. -/
def fnExactSpaceOfWrong : ChangeSpec := { name := "fnExactSpaceOf", fn := fun _ => fun
  | [d] => { results := [.lit (.bool false)], args := [d] }
  | _ => none }
def FnExactSpaceOfWrongFalsely : Prop := fnExactSpaceOfRow.holds Tryd.pinned (OpenSpec.ofChange fnExactSpaceOfWrong)

/-- 'laws.FnExactKernelOf': WHATEVER THE INPUT: true; the input reads as it did. -/
def fnExactKernelOfSpec : ChangeSpec := { name := "fnExactKernelOf", fn := fun _ => fun
  | [d] => { results := [.lit (.bool true)], args := [d] }
  | _ => none }
def fnExactKernelOfRow : OpenClaim := { program := "ytfhalaohegdbhaadoor", sum := "c8d19b1b7a3d64c99eecf19232b4a2cdfb0be5cd0d728c38cd127ea07299a38e", func := "loop.example/g01144/laws.FnExactKernelOf", spec := "fnExactKernelOf", named := ["math/bits.deBruijn32tab"], apart := false, laid := [("math/bits.deBruijn32tab", laid_math_bits_deBruijn32tab)] }
def FnExactKernelOfSaid : Prop := fnExactKernelOfRow.holds Tryd.pinned (OpenSpec.ofChange fnExactKernelOfSpec)

/-- ITS FALSE NEIGHBOUR: 'it returns false'. Refute it at one input. -/
def fnExactKernelOfWrong : ChangeSpec := { name := "fnExactKernelOf", fn := fun _ => fun
  | [d] => { results := [.lit (.bool false)], args := [d] }
  | _ => none }
def FnExactKernelOfWrongFalsely : Prop := fnExactKernelOfRow.holds Tryd.pinned (OpenSpec.ofChange fnExactKernelOfWrong)

/-- 'laws.FnExactIsSpace': WHATEVER THE INPUT: true; the input reads as it did. -/
def fnExactIsSpaceSpec : ChangeSpec := { name := "fnExactIsSpace", fn := fun _ => fun
  | [d] => { results := [.lit (.bool true)], args := [d] }
  | _ => none }
def fnExactIsSpaceRow : OpenClaim := { program := "ytfhalaohegdbhaadoor", sum := "c8d19b1b7a3d64c99eecf19232b4a2cdfb0be5cd0d728c38cd127ea07299a38e", func := "loop.example/g01144/laws.FnExactIsSpace", spec := "fnExactIsSpace", named := ["math/bits.deBruijn32tab"], apart := false, laid := [("math/bits.deBruijn32tab", laid_math_bits_deBruijn32tab)] }
def FnExactIsSpaceSaid : Prop := fnExactIsSpaceRow.holds Tryd.pinned (OpenSpec.ofChange fnExactIsSpaceSpec)

/-- ITS FALSE NEIGHBOUR: 'it returns false'. Refute it at one input. -/
def fnExactIsSpaceWrong : ChangeSpec := { name := "fnExactIsSpace", fn := fun _ => fun
  | [d] => { results := [.lit (.bool false)], args := [d] }
  | _ => none }
def FnExactIsSpaceWrongFalsely : Prop := fnExactIsSpaceRow.holds Tryd.pinned (OpenSpec.ofChange fnExactIsSpaceWrong)

/-- 'laws.FnExactDualSpace': WHATEVER THE INPUT: true; the input reads as it did. -/
def fnExactDualSpaceSpec : ChangeSpec := { name := "fnExactDualSpace", fn := fun _ => fun
  | [d] => { results := [.lit (.bool true)], args := [d] }
  | _ => none }
def fnExactDualSpaceRow : OpenClaim := { program := "ytfhalaohegdbhaadoor", sum := "c8d19b1b7a3d64c99eecf19232b4a2cdfb0be5cd0d728c38cd127ea07299a38e", func := "loop.example/g01144/laws.FnExactDualSpace", spec := "fnExactDualSpace", named := ["math/bits.deBruijn32tab"], apart := false, laid := [("math/bits.deBruijn32tab", laid_math_bits_deBruijn32tab)] }
def FnExactDualSpaceSaid : Prop := fnExactDualSpaceRow.holds Tryd.pinned (OpenSpec.ofChange fnExactDualSpaceSpec)

/-- ITS FALSE NEIGHBOUR: 'it returns false'. Refute it at one input. -/
def fnExactDualSpaceWrong : ChangeSpec := { name := "fnExactDualSpace", fn := fun _ => fun
  | [d] => { results := [.lit (.bool false)], args := [d] }
  | _ => none }
def FnExactDualSpaceWrongFalsely : Prop := fnExactDualSpaceRow.holds Tryd.pinned (OpenSpec.ofChange fnExactDualSpaceWrong)

/-- 'laws.FnExactContains': WHATEVER THE INPUT: true; the input reads as it did. -/
def fnExactContainsSpec : ChangeSpec := { name := "fnExactContains", fn := fun _ => fun
  | [d1, d2] => { results := [.lit (.bool true)], args := [d1, d2] }
  | _ => none }
def fnExactContainsRow : OpenClaim := { program := "ytfhalaohegdbhaadoor", sum := "c8d19b1b7a3d64c99eecf19232b4a2cdfb0be5cd0d728c38cd127ea07299a38e", func := "loop.example/g01144/laws.FnExactContains", spec := "fnExactContains", named := ["math/bits.deBruijn32tab"], apart := false, laid := [("math/bits.deBruijn32tab", laid_math_bits_deBruijn32tab)] }
def FnExactContainsSaid : Prop := fnExactContainsRow.holds Tryd.pinned (OpenSpec.ofChange fnExactContainsSpec)

/-- ITS FALSE NEIGHBOUR: 'it returns false'. Refute it at one input. -/
def fnExactContainsWrong : ChangeSpec := { name := "fnExactContains", fn := fun _ => fun
  | [d1, d2] => { results := [.lit (.bool false)], args := [d1, d2] }
  | _ => none }
def FnExactContainsWrongFalsely : Prop := fnExactContainsRow.holds Tryd.pinned (OpenSpec.ofChange fnExactContainsWrong)

/-- 'laws.FnExactSumOf': WHATEVER THE INPUT: true; the input reads as it did. -/
def fnExactSumOfSpec : ChangeSpec := { name := "fnExactSumOf", fn := fun _ => fun
  | [d1, d2] => { results := [.lit (.bool true)], args := [d1, d2] }
  | _ => none }
def fnExactSumOfRow : OpenClaim := { program := "ytfhalaohegdbhaadoor", sum := "c8d19b1b7a3d64c99eecf19232b4a2cdfb0be5cd0d728c38cd127ea07299a38e", func := "loop.example/g01144/laws.FnExactSumOf", spec := "fnExactSumOf", named := ["math/bits.deBruijn32tab"], apart := false, laid := [("math/bits.deBruijn32tab", laid_math_bits_deBruijn32tab)] }
def FnExactSumOfSaid : Prop := fnExactSumOfRow.holds Tryd.pinned (OpenSpec.ofChange fnExactSumOfSpec)

/-- ITS FALSE NEIGHBOUR: 'it returns false'. Refute it at one input. -/
def fnExactSumOfWrong : ChangeSpec := { name := "fnExactSumOf", fn := fun _ => fun
  | [d1, d2] => { results := [.lit (.bool false)], args := [d1, d2] }
  | _ => none }
def FnExactSumOfWrongFalsely : Prop := fnExactSumOfRow.holds Tryd.pinned (OpenSpec.ofChange fnExactSumOfWrong)

/-- 'laws.FnExactMeetOf': WHATEVER THE INPUT: true; the input reads as it did. -/
def fnExactMeetOfSpec : ChangeSpec := { name := "fnExactMeetOf", fn := fun _ => fun
  | [d1, d2] => { results := [.lit (.bool true)], args := [d1, d2] }
  | _ => none }
def fnExactMeetOfRow : OpenClaim := { program := "ytfhalaohegdbhaadoor", sum := "c8d19b1b7a3d64c99eecf19232b4a2cdfb0be5cd0d728c38cd127ea07299a38e", func := "loop.example/g01144/laws.FnExactMeetOf", spec := "fnExactMeetOf", named := ["math/bits.deBruijn32tab"], apart := false, laid := [("math/bits.deBruijn32tab", laid_math_bits_deBruijn32tab)] }
def FnExactMeetOfSaid : Prop := fnExactMeetOfRow.holds Tryd.pinned (OpenSpec.ofChange fnExactMeetOfSpec)

/-- ITS FALSE NEIGHBOUR: 'it returns false'. Refute it at one input. -/
def fnExactMeetOfWrong : ChangeSpec := { name := "fnExactMeetOf", fn := fun _ => fun
  | [d1, d2] => { results := [.lit (.bool false)], args := [d1, d2] }
  | _ => none }
def FnExactMeetOfWrongFalsely : Prop := fnExactMeetOfRow.holds Tryd.pinned (OpenSpec.ofChange fnExactMeetOfWrong)

/-- 'laws.FnExactDistanceOf': WHATEVER THE INPUT: true; the input reads as it did. -/
def fnExactDistanceOfSpec : ChangeSpec := { name := "fnExactDistanceOf", fn := fun _ => fun
  | [d1, d2] => { results := [.lit (.bool true)], args := [d1, d2] }
  | _ => none }
def fnExactDistanceOfRow : OpenClaim := { program := "ytfhalaohegdbhaadoor", sum := "c8d19b1b7a3d64c99eecf19232b4a2cdfb0be5cd0d728c38cd127ea07299a38e", func := "loop.example/g01144/laws.FnExactDistanceOf", spec := "fnExactDistanceOf", named := ["math/bits.deBruijn32tab"], apart := false, laid := [("math/bits.deBruijn32tab", laid_math_bits_deBruijn32tab)] }
def FnExactDistanceOfSaid : Prop := fnExactDistanceOfRow.holds Tryd.pinned (OpenSpec.ofChange fnExactDistanceOfSpec)

/-- ITS FALSE NEIGHBOUR: 'it returns false'. Refute it at one input. -/
def fnExactDistanceOfWrong : ChangeSpec := { name := "fnExactDistanceOf", fn := fun _ => fun
  | [d1, d2] => { results := [.lit (.bool false)], args := [d1, d2] }
  | _ => none }
def FnExactDistanceOfWrongFalsely : Prop := fnExactDistanceOfRow.holds Tryd.pinned (OpenSpec.ofChange fnExactDistanceOfWrong)

/-- 'laws.FnExactInverseMatrix': WHATEVER THE INPUT: true; the input reads as it did. -/
def fnExactInverseMatrixSpec : ChangeSpec := { name := "fnExactInverseMatrix", fn := fun _ => fun
  | [d] => { results := [.lit (.bool true)], args := [d] }
  | _ => none }
def fnExactInverseMatrixRow : OpenClaim := { program := "ytfhalaohegdbhaadoor", sum := "c8d19b1b7a3d64c99eecf19232b4a2cdfb0be5cd0d728c38cd127ea07299a38e", func := "loop.example/g01144/laws.FnExactInverseMatrix", spec := "fnExactInverseMatrix", named := ["math/bits.deBruijn32tab"], apart := false, laid := [("math/bits.deBruijn32tab", laid_math_bits_deBruijn32tab)] }
def FnExactInverseMatrixSaid : Prop := fnExactInverseMatrixRow.holds Tryd.pinned (OpenSpec.ofChange fnExactInverseMatrixSpec)

/-- ITS FALSE NEIGHBOUR: 'it returns false'. Refute it at one input. -/
def fnExactInverseMatrixWrong : ChangeSpec := { name := "fnExactInverseMatrix", fn := fun _ => fun
  | [d] => { results := [.lit (.bool false)], args := [d] }
  | _ => none }
def FnExactInverseMatrixWrongFalsely : Prop := fnExactInverseMatrixRow.holds Tryd.pinned (OpenSpec.ofChange fnExactInverseMatrixWrong)

/-- 'laws.FnExactRowSupport': WHATEVER THE INPUT: true; the input reads as it did. -/
def fnExactRowSupportSpec : ChangeSpec := { name := "fnExactRowSupport", fn := fun _ => fun
  | [d1, d2] => { results := [.lit (.bool true)], args := [d1, d2] }
  | _ => none }
def fnExactRowSupportRow : OpenClaim := { program := "ytfhalaohegdbhaadoor", sum := "c8d19b1b7a3d64c99eecf19232b4a2cdfb0be5cd0d728c38cd127ea07299a38e", func := "loop.example/g01144/laws.FnExactRowSupport", spec := "fnExactRowSupport", unfollowed := true, recurses := true, named := ["math/bits.deBruijn32tab"], apart := false, laid := [("math/bits.deBruijn32tab", laid_math_bits_deBruijn32tab)] }
def FnExactRowSupportSaid : Prop := fnExactRowSupportRow.holds Tryd.pinned (OpenSpec.ofChange fnExactRowSupportSpec)

/-- ITS FALSE NEIGHBOUR: 'it returns false'. Refute it at one input. -/
def fnExactRowSupportWrong : ChangeSpec := { name := "fnExactRowSupport", fn := fun _ => fun
  | [d1, d2] => { results := [.lit (.bool false)], args := [d1, d2] }
  | _ => none }
def FnExactRowSupportWrongFalsely : Prop := fnExactRowSupportRow.holds Tryd.pinned (OpenSpec.ofChange fnExactRowSupportWrong)

/-- 'laws.FnExactColumnSupport': WHATEVER THE INPUT: true; the input reads as it did. -/
def fnExactColumnSupportSpec : ChangeSpec := { name := "fnExactColumnSupport", fn := fun _ => fun
  | [d1, d2] => { results := [.lit (.bool true)], args := [d1, d2] }
  | _ => none }
def fnExactColumnSupportRow : OpenClaim := { program := "ytfhalaohegdbhaadoor", sum := "c8d19b1b7a3d64c99eecf19232b4a2cdfb0be5cd0d728c38cd127ea07299a38e", func := "loop.example/g01144/laws.FnExactColumnSupport", spec := "fnExactColumnSupport", unfollowed := true, recurses := true, named := ["math/bits.deBruijn32tab"], apart := false, laid := [("math/bits.deBruijn32tab", laid_math_bits_deBruijn32tab)] }
def FnExactColumnSupportSaid : Prop := fnExactColumnSupportRow.holds Tryd.pinned (OpenSpec.ofChange fnExactColumnSupportSpec)

/-- ITS FALSE NEIGHBOUR: 'it returns false'. Refute it at one input. -/
def fnExactColumnSupportWrong : ChangeSpec := { name := "fnExactColumnSupport", fn := fun _ => fun
  | [d1, d2] => { results := [.lit (.bool false)], args := [d1, d2] }
  | _ => none }
def FnExactColumnSupportWrongFalsely : Prop := fnExactColumnSupportRow.holds Tryd.pinned (OpenSpec.ofChange fnExactColumnSupportWrong)

/- THE SECOND FORM. 'bulk': how many values and letters a reading holds, each counted each time it is reached (what is shared counts as often as it is met; a slice's spare places count too). A statement '..UptoSaid' is the law's where the arguments, and the package variables that the reading takes, are together of bulk at most 1048576: NARROWER than '..Said'. Prove '..Said' where nothing that the law and all that it calls make is longer than what came in: it says more and counts as full. Else prove '..UptoSaid'. A law counts once. -/
mutual
def uptoBulk {H : Type} : DataW H → Nat
  | .lit (.string bytes) => bytes.length + 1
  | .lit _ => 1
  | .nil => 1
  | .ptr d => uptoBulk d + 1
  | .slice elems spare => uptoBulkAll elems + uptoBulkAll spare + 1
  | .agg parts => uptoBulkAll parts + 1
  | .iface _ d => uptoBulk d + 1
  | .map entries => uptoBulkEntries entries + 1
  | .held _ => 1
def uptoBulkAll {H : Type} : List (DataW H) → Nat
  | [] => 0
  | d :: r => uptoBulk d + uptoBulkAll r
def uptoBulkEntries {H : Type} : List (Lit × DataW H) → Nat
  | [] => 0
  | x :: r => uptoBulkEntry x + uptoBulkEntries r
def uptoBulkEntry {H : Type} : Lit × DataW H → Nat
  | (.string bytes, d) => bytes.length + uptoBulk d + 1
  | (_, d) => uptoBulk d + 1
 end
def uptoSmall : (H : Type) → List (DataW H) → Bool := fun _ ds => decide (uptoBulkAll ds ≤ 1048576)
def OpenSpec.upto (s : _root_.Go.ChangeSpec) : _root_.Go.OpenSpec := { _root_.Go.OpenSpec.ofChange s with cond := some uptoSmall }

/-- 'laws.FnExactRankOf', WHERE WHAT IT READS IS OF BULK AT MOST 1048576: true; the input reads as it did. -/
def fnExactRankOfUptoRow : OpenClaim := { program := "ytfhalaohegdbhaadoor", sum := "c8d19b1b7a3d64c99eecf19232b4a2cdfb0be5cd0d728c38cd127ea07299a38e", func := "loop.example/g01144/laws.FnExactRankOf", spec := "fnExactRankOf", named := ["math/bits.deBruijn32tab"], apart := false, laid := [("math/bits.deBruijn32tab", laid_math_bits_deBruijn32tab)], narrowed := true }
def FnExactRankOfUptoSaid : Prop := fnExactRankOfUptoRow.holds Tryd.pinned (OpenSpec.upto fnExactRankOfSpec)

/-- 'laws.FnExactEchelonOf', WHERE WHAT IT READS IS OF BULK AT MOST 1048576: true; the input reads as it did. -/
def fnExactEchelonOfUptoRow : OpenClaim := { program := "ytfhalaohegdbhaadoor", sum := "c8d19b1b7a3d64c99eecf19232b4a2cdfb0be5cd0d728c38cd127ea07299a38e", func := "loop.example/g01144/laws.FnExactEchelonOf", spec := "fnExactEchelonOf", named := ["math/bits.deBruijn32tab"], apart := false, laid := [("math/bits.deBruijn32tab", laid_math_bits_deBruijn32tab)], narrowed := true }
def FnExactEchelonOfUptoSaid : Prop := fnExactEchelonOfUptoRow.holds Tryd.pinned (OpenSpec.upto fnExactEchelonOfSpec)

/-- 'laws.FnExactSpaceOf', WHERE WHAT IT READS IS OF BULK AT MOST 1048576: true; the input reads as it did. -/
def fnExactSpaceOfUptoRow : OpenClaim := { program := "ytfhalaohegdbhaadoor", sum := "c8d19b1b7a3d64c99eecf19232b4a2cdfb0be5cd0d728c38cd127ea07299a38e", func := "loop.example/g01144/laws.FnExactSpaceOf", spec := "fnExactSpaceOf", named := ["math/bits.deBruijn32tab"], apart := false, laid := [("math/bits.deBruijn32tab", laid_math_bits_deBruijn32tab)], narrowed := true }
def FnExactSpaceOfUptoSaid : Prop := fnExactSpaceOfUptoRow.holds Tryd.pinned (OpenSpec.upto fnExactSpaceOfSpec)

/-- 'laws.FnExactKernelOf', WHERE WHAT IT READS IS OF BULK AT MOST 1048576: true; the input reads as it did. -/
def fnExactKernelOfUptoRow : OpenClaim := { program := "ytfhalaohegdbhaadoor", sum := "c8d19b1b7a3d64c99eecf19232b4a2cdfb0be5cd0d728c38cd127ea07299a38e", func := "loop.example/g01144/laws.FnExactKernelOf", spec := "fnExactKernelOf", named := ["math/bits.deBruijn32tab"], apart := false, laid := [("math/bits.deBruijn32tab", laid_math_bits_deBruijn32tab)], narrowed := true }
def FnExactKernelOfUptoSaid : Prop := fnExactKernelOfUptoRow.holds Tryd.pinned (OpenSpec.upto fnExactKernelOfSpec)

/-- 'laws.FnExactIsSpace', WHERE WHAT IT READS IS OF BULK AT MOST 1048576: true; the input reads as it did. -/
def fnExactIsSpaceUptoRow : OpenClaim := { program := "ytfhalaohegdbhaadoor", sum := "c8d19b1b7a3d64c99eecf19232b4a2cdfb0be5cd0d728c38cd127ea07299a38e", func := "loop.example/g01144/laws.FnExactIsSpace", spec := "fnExactIsSpace", named := ["math/bits.deBruijn32tab"], apart := false, laid := [("math/bits.deBruijn32tab", laid_math_bits_deBruijn32tab)], narrowed := true }
def FnExactIsSpaceUptoSaid : Prop := fnExactIsSpaceUptoRow.holds Tryd.pinned (OpenSpec.upto fnExactIsSpaceSpec)

/-- 'laws.FnExactDualSpace', WHERE WHAT IT READS IS OF BULK AT MOST 1048576: true; the input reads as it did. -/
def fnExactDualSpaceUptoRow : OpenClaim := { program := "ytfhalaohegdbhaadoor", sum := "c8d19b1b7a3d64c99eecf19232b4a2cdfb0be5cd0d728c38cd127ea07299a38e", func := "loop.example/g01144/laws.FnExactDualSpace", spec := "fnExactDualSpace", named := ["math/bits.deBruijn32tab"], apart := false, laid := [("math/bits.deBruijn32tab", laid_math_bits_deBruijn32tab)], narrowed := true }
def FnExactDualSpaceUptoSaid : Prop := fnExactDualSpaceUptoRow.holds Tryd.pinned (OpenSpec.upto fnExactDualSpaceSpec)

/-- 'laws.FnExactContains', WHERE WHAT IT READS IS OF BULK AT MOST 1048576: true; the input reads as it did. -/
def fnExactContainsUptoRow : OpenClaim := { program := "ytfhalaohegdbhaadoor", sum := "c8d19b1b7a3d64c99eecf19232b4a2cdfb0be5cd0d728c38cd127ea07299a38e", func := "loop.example/g01144/laws.FnExactContains", spec := "fnExactContains", named := ["math/bits.deBruijn32tab"], apart := false, laid := [("math/bits.deBruijn32tab", laid_math_bits_deBruijn32tab)], narrowed := true }
def FnExactContainsUptoSaid : Prop := fnExactContainsUptoRow.holds Tryd.pinned (OpenSpec.upto fnExactContainsSpec)

/-- 'laws.FnExactSumOf', WHERE WHAT IT READS IS OF BULK AT MOST 1048576: true; the input reads as it did. -/
def fnExactSumOfUptoRow : OpenClaim := { program := "ytfhalaohegdbhaadoor", sum := "c8d19b1b7a3d64c99eecf19232b4a2cdfb0be5cd0d728c38cd127ea07299a38e", func := "loop.example/g01144/laws.FnExactSumOf", spec := "fnExactSumOf", named := ["math/bits.deBruijn32tab"], apart := false, laid := [("math/bits.deBruijn32tab", laid_math_bits_deBruijn32tab)], narrowed := true }
def FnExactSumOfUptoSaid : Prop := fnExactSumOfUptoRow.holds Tryd.pinned (OpenSpec.upto fnExactSumOfSpec)

/-- 'laws.FnExactMeetOf', WHERE WHAT IT READS IS OF BULK AT MOST 1048576: true; the input reads as it did. -/
def fnExactMeetOfUptoRow : OpenClaim := { program := "ytfhalaohegdbhaadoor", sum := "c8d19b1b7a3d64c99eecf19232b4a2cdfb0be5cd0d728c38cd127ea07299a38e", func := "loop.example/g01144/laws.FnExactMeetOf", spec := "fnExactMeetOf", named := ["math/bits.deBruijn32tab"], apart := false, laid := [("math/bits.deBruijn32tab", laid_math_bits_deBruijn32tab)], narrowed := true }
def FnExactMeetOfUptoSaid : Prop := fnExactMeetOfUptoRow.holds Tryd.pinned (OpenSpec.upto fnExactMeetOfSpec)

/-- 'laws.FnExactDistanceOf', WHERE WHAT IT READS IS OF BULK AT MOST 1048576: true; the input reads as it did. -/
def fnExactDistanceOfUptoRow : OpenClaim := { program := "ytfhalaohegdbhaadoor", sum := "c8d19b1b7a3d64c99eecf19232b4a2cdfb0be5cd0d728c38cd127ea07299a38e", func := "loop.example/g01144/laws.FnExactDistanceOf", spec := "fnExactDistanceOf", named := ["math/bits.deBruijn32tab"], apart := false, laid := [("math/bits.deBruijn32tab", laid_math_bits_deBruijn32tab)], narrowed := true }
def FnExactDistanceOfUptoSaid : Prop := fnExactDistanceOfUptoRow.holds Tryd.pinned (OpenSpec.upto fnExactDistanceOfSpec)

/-- 'laws.FnExactInverseMatrix', WHERE WHAT IT READS IS OF BULK AT MOST 1048576: true; the input reads as it did. -/
def fnExactInverseMatrixUptoRow : OpenClaim := { program := "ytfhalaohegdbhaadoor", sum := "c8d19b1b7a3d64c99eecf19232b4a2cdfb0be5cd0d728c38cd127ea07299a38e", func := "loop.example/g01144/laws.FnExactInverseMatrix", spec := "fnExactInverseMatrix", named := ["math/bits.deBruijn32tab"], apart := false, laid := [("math/bits.deBruijn32tab", laid_math_bits_deBruijn32tab)], narrowed := true }
def FnExactInverseMatrixUptoSaid : Prop := fnExactInverseMatrixUptoRow.holds Tryd.pinned (OpenSpec.upto fnExactInverseMatrixSpec)

/-- 'laws.FnExactRowSupport', WHERE WHAT IT READS IS OF BULK AT MOST 1048576: true; the input reads as it did. -/
def fnExactRowSupportUptoRow : OpenClaim := { program := "ytfhalaohegdbhaadoor", sum := "c8d19b1b7a3d64c99eecf19232b4a2cdfb0be5cd0d728c38cd127ea07299a38e", func := "loop.example/g01144/laws.FnExactRowSupport", spec := "fnExactRowSupport", unfollowed := true, recurses := true, named := ["math/bits.deBruijn32tab"], apart := false, laid := [("math/bits.deBruijn32tab", laid_math_bits_deBruijn32tab)], narrowed := true }
def FnExactRowSupportUptoSaid : Prop := fnExactRowSupportUptoRow.holds Tryd.pinned (OpenSpec.upto fnExactRowSupportSpec)

/-- 'laws.FnExactColumnSupport', WHERE WHAT IT READS IS OF BULK AT MOST 1048576: true; the input reads as it did. -/
def fnExactColumnSupportUptoRow : OpenClaim := { program := "ytfhalaohegdbhaadoor", sum := "c8d19b1b7a3d64c99eecf19232b4a2cdfb0be5cd0d728c38cd127ea07299a38e", func := "loop.example/g01144/laws.FnExactColumnSupport", spec := "fnExactColumnSupport", unfollowed := true, recurses := true, named := ["math/bits.deBruijn32tab"], apart := false, laid := [("math/bits.deBruijn32tab", laid_math_bits_deBruijn32tab)], narrowed := true }
def FnExactColumnSupportUptoSaid : Prop := fnExactColumnSupportUptoRow.holds Tryd.pinned (OpenSpec.upto fnExactColumnSupportSpec)

end Rows
end Go.Proofs.YtfhalaohegdbhaaDoor
