/-
  No cell of these rows narrows 'for every input' (looked for: loops, veiled, ifaces, maps, wideKeys, modest, calm, conditions, laid).
  DERIVED. THE GIVEN ROWS OF THIS SEAT. 11 by the template 'for every input the law returns true; each argument reads behind the call as it read before'; 0 by the template 'total and deterministic' (their statements: YtbnjmafkcfjmeabTotals.lean).
  GIVEN WITH THE SEED: the statements are not yours to turn. If you find one false, say at which input.
  Laid BY PROGRAM, IN A SANDBOX (cutbox-rows.mjs): the forced cells as the released guide's own fill.sh prints them over the translation 7c306d60c5174bc1… (all of the seat's roots in one cut). By AI agents, Wed Nov 11 2026. No macro, syntax, notation, axiom, sorry.
-/
import Derived.Test.YtbnjmafkcfjmeabChecked
import GoSem.Claim
import GoSem.ClaimJoined
import GoSem.ClaimMapViews
import Derived.JoinedTies
import Derived.KernelRfl
namespace Go.Proofs.Ytbnjmafkcfjmeab
/- THE CELL 'sum', in the pinned program and in every row, IS THE sha256 OF THE DUMP (.gsa) THAT YtbnjmafkcfjmeabProg.lean LOADS. Nothing in Lean hashes anything: it is a label: what it is worth is what the hold of that sum in a sandbox is worth. -/
noncomputable def Try.pinned : Pinned := { name := "ytbnjmafkcfjmeab", sum := "7c306d60c5174bc180249ce9f087471a43091efd094b19785a18dddf6c449e8d", checked := Try.checked }
namespace Rows
def none {H : Type} : Left H := { results := [], args := [] }

/-- 'laws.FnExactSquareTimes': WHATEVER THE INPUT: true; the input reads as it did. -/
def fnExactSquareTimesSpec : ChangeSpec := { name := "fnExactSquareTimes", fn := fun _ => fun
  | [d1, d2, d3] => { results := [.lit (.bool true)], args := [d1, d2, d3] }
  | _ => none }
def fnExactSquareTimesRow : OpenClaim := { program := "ytbnjmafkcfjmeab", sum := "7c306d60c5174bc180249ce9f087471a43091efd094b19785a18dddf6c449e8d", func := "loop.example/g01144/laws.FnExactSquareTimes", spec := "fnExactSquareTimes", unfollowed := true, recurses := true, apart := false }
def FnExactSquareTimesSaid : Prop := fnExactSquareTimesRow.holds Try.pinned (OpenSpec.ofChange fnExactSquareTimesSpec)

/-- ITS FALSE NEIGHBOUR: 'it returns false'. Refute it at one input. -/
def fnExactSquareTimesWrong : ChangeSpec := { name := "fnExactSquareTimes", fn := fun _ => fun
  | [d1, d2, d3] => { results := [.lit (.bool false)], args := [d1, d2, d3] }
  | _ => none }
def FnExactSquareTimesWrongFalsely : Prop := fnExactSquareTimesRow.holds Try.pinned (OpenSpec.ofChange fnExactSquareTimesWrong)

/-- 'laws.FnExactRootTimes': WHATEVER THE INPUT: true; the input reads as it did. -/
def fnExactRootTimesSpec : ChangeSpec := { name := "fnExactRootTimes", fn := fun _ => fun
  | [d1, d2, d3] => { results := [.lit (.bool true)], args := [d1, d2, d3] }
  | _ => none }
def fnExactRootTimesRow : OpenClaim := { program := "ytbnjmafkcfjmeab", sum := "7c306d60c5174bc180249ce9f087471a43091efd094b19785a18dddf6c449e8d", func := "loop.example/g01144/laws.FnExactRootTimes", spec := "fnExactRootTimes", unfollowed := true, recurses := true, apart := false }
def FnExactRootTimesSaid : Prop := fnExactRootTimesRow.holds Try.pinned (OpenSpec.ofChange fnExactRootTimesSpec)

/-- ITS FALSE NEIGHBOUR: 'it returns false'. Refute it at one input. -/
def fnExactRootTimesWrong : ChangeSpec := { name := "fnExactRootTimes", fn := fun _ => fun
  | [d1, d2, d3] => { results := [.lit (.bool false)], args := [d1, d2, d3] }
  | _ => none }
def FnExactRootTimesWrongFalsely : Prop := fnExactRootTimesRow.holds Try.pinned (OpenSpec.ofChange fnExactRootTimesWrong)

/-- 'laws.FnExactOrderIn': WHATEVER THE INPUT: true; the input reads as it did. -/
def fnExactOrderInSpec : ChangeSpec := { name := "fnExactOrderIn", fn := fun _ => fun
  | [d1, d2] => { results := [.lit (.bool true)], args := [d1, d2] }
  | _ => none }
def fnExactOrderInRow : OpenClaim := { program := "ytbnjmafkcfjmeab", sum := "7c306d60c5174bc180249ce9f087471a43091efd094b19785a18dddf6c449e8d", func := "loop.example/g01144/laws.FnExactOrderIn", spec := "fnExactOrderIn", unfollowed := true, recurses := true, apart := false }
def FnExactOrderInSaid : Prop := fnExactOrderInRow.holds Try.pinned (OpenSpec.ofChange fnExactOrderInSpec)

/-- ITS FALSE NEIGHBOUR: 'it returns false'. Refute it at one input. -/
def fnExactOrderInWrong : ChangeSpec := { name := "fnExactOrderIn", fn := fun _ => fun
  | [d1, d2] => { results := [.lit (.bool false)], args := [d1, d2] }
  | _ => none }
def FnExactOrderInWrongFalsely : Prop := fnExactOrderInRow.holds Try.pinned (OpenSpec.ofChange fnExactOrderInWrong)

/-- 'laws.FnExactFirstPrimitive': WHATEVER THE INPUT: true; the input reads as it did. -/
def fnExactFirstPrimitiveSpec : ChangeSpec := { name := "fnExactFirstPrimitive", fn := fun _ => fun
  | [d] => { results := [.lit (.bool true)], args := [d] }
  | _ => none }
def fnExactFirstPrimitiveRow : OpenClaim := { program := "ytbnjmafkcfjmeab", sum := "7c306d60c5174bc180249ce9f087471a43091efd094b19785a18dddf6c449e8d", func := "loop.example/g01144/laws.FnExactFirstPrimitive", spec := "fnExactFirstPrimitive", unfollowed := true, recurses := true, apart := false }
def FnExactFirstPrimitiveSaid : Prop := fnExactFirstPrimitiveRow.holds Try.pinned (OpenSpec.ofChange fnExactFirstPrimitiveSpec)

/-- ITS FALSE NEIGHBOUR: 'it returns false'. Refute it at one input. -/
def fnExactFirstPrimitiveWrong : ChangeSpec := { name := "fnExactFirstPrimitive", fn := fun _ => fun
  | [d] => { results := [.lit (.bool false)], args := [d] }
  | _ => none }
def FnExactFirstPrimitiveWrongFalsely : Prop := fnExactFirstPrimitiveRow.holds Try.pinned (OpenSpec.ofChange fnExactFirstPrimitiveWrong)

/-- 'laws.FnExactLogIn': WHATEVER THE INPUT: true; the input reads as it did. -/
def fnExactLogInSpec : ChangeSpec := { name := "fnExactLogIn", fn := fun _ => fun
  | [d1, d2, d3] => { results := [.lit (.bool true)], args := [d1, d2, d3] }
  | _ => none }
def fnExactLogInRow : OpenClaim := { program := "ytbnjmafkcfjmeab", sum := "7c306d60c5174bc180249ce9f087471a43091efd094b19785a18dddf6c449e8d", func := "loop.example/g01144/laws.FnExactLogIn", spec := "fnExactLogIn", unfollowed := true, recurses := true, apart := false }
def FnExactLogInSaid : Prop := fnExactLogInRow.holds Try.pinned (OpenSpec.ofChange fnExactLogInSpec)

/-- ITS FALSE NEIGHBOUR: 'it returns false'. Refute it at one input. -/
def fnExactLogInWrong : ChangeSpec := { name := "fnExactLogIn", fn := fun _ => fun
  | [d1, d2, d3] => { results := [.lit (.bool false)], args := [d1, d2, d3] }
  | _ => none }
def FnExactLogInWrongFalsely : Prop := fnExactLogInRow.holds Try.pinned (OpenSpec.ofChange fnExactLogInWrong)

/-- 'laws.FnExactTraceIn': WHATEVER THE INPUT: true; the input reads as it did. -/
def fnExactTraceInSpec : ChangeSpec := { name := "fnExactTraceIn", fn := fun _ => fun
  | [d1, d2] => { results := [.lit (.bool true)], args := [d1, d2] }
  | _ => none }
def fnExactTraceInRow : OpenClaim := { program := "ytbnjmafkcfjmeab", sum := "7c306d60c5174bc180249ce9f087471a43091efd094b19785a18dddf6c449e8d", func := "loop.example/g01144/laws.FnExactTraceIn", spec := "fnExactTraceIn", unfollowed := true, recurses := true, apart := false }
def FnExactTraceInSaid : Prop := fnExactTraceInRow.holds Try.pinned (OpenSpec.ofChange fnExactTraceInSpec)

/-- ITS FALSE NEIGHBOUR: 'it returns false'. Refute it at one input. -/
def fnExactTraceInWrong : ChangeSpec := { name := "fnExactTraceIn", fn := fun _ => fun
  | [d1, d2] => { results := [.lit (.bool false)], args := [d1, d2] }
  | _ => none }
def FnExactTraceInWrongFalsely : Prop := fnExactTraceInRow.holds Try.pinned (OpenSpec.ofChange fnExactTraceInWrong)

/-- 'laws.FnExactMinimalPoly': WHATEVER THE INPUT: true; the input reads as it did. -/
def fnExactMinimalPolySpec : ChangeSpec := { name := "fnExactMinimalPoly", fn := fun _ => fun
  | [d1, d2] => { results := [.lit (.bool true)], args := [d1, d2] }
  | _ => none }
def fnExactMinimalPolyRow : OpenClaim := { program := "ytbnjmafkcfjmeab", sum := "7c306d60c5174bc180249ce9f087471a43091efd094b19785a18dddf6c449e8d", func := "loop.example/g01144/laws.FnExactMinimalPoly", spec := "fnExactMinimalPoly", unfollowed := true, recurses := true, apart := false }
def FnExactMinimalPolySaid : Prop := fnExactMinimalPolyRow.holds Try.pinned (OpenSpec.ofChange fnExactMinimalPolySpec)

/-- ITS FALSE NEIGHBOUR: 'it returns false'. Refute it at one input. -/
def fnExactMinimalPolyWrong : ChangeSpec := { name := "fnExactMinimalPoly", fn := fun _ => fun
  | [d1, d2] => { results := [.lit (.bool false)], args := [d1, d2] }
  | _ => none }
def FnExactMinimalPolyWrongFalsely : Prop := fnExactMinimalPolyRow.holds Try.pinned (OpenSpec.ofChange fnExactMinimalPolyWrong)

/-- 'laws.FnExactConjugatesIn': WHATEVER THE INPUT: true; the input reads as it did. -/
def fnExactConjugatesInSpec : ChangeSpec := { name := "fnExactConjugatesIn", fn := fun _ => fun
  | [d1, d2] => { results := [.lit (.bool true)], args := [d1, d2] }
  | _ => none }
def fnExactConjugatesInRow : OpenClaim := { program := "ytbnjmafkcfjmeab", sum := "7c306d60c5174bc180249ce9f087471a43091efd094b19785a18dddf6c449e8d", func := "loop.example/g01144/laws.FnExactConjugatesIn", spec := "fnExactConjugatesIn", unfollowed := true, recurses := true, apart := false }
def FnExactConjugatesInSaid : Prop := fnExactConjugatesInRow.holds Try.pinned (OpenSpec.ofChange fnExactConjugatesInSpec)

/-- ITS FALSE NEIGHBOUR: 'it returns false'. Refute it at one input. -/
def fnExactConjugatesInWrong : ChangeSpec := { name := "fnExactConjugatesIn", fn := fun _ => fun
  | [d1, d2] => { results := [.lit (.bool false)], args := [d1, d2] }
  | _ => none }
def FnExactConjugatesInWrongFalsely : Prop := fnExactConjugatesInRow.holds Try.pinned (OpenSpec.ofChange fnExactConjugatesInWrong)

/-- 'laws.FnExactSubfieldIn': WHATEVER THE INPUT: true; the input reads as it did. -/
def fnExactSubfieldInSpec : ChangeSpec := { name := "fnExactSubfieldIn", fn := fun _ => fun
  | [d1, d2] => { results := [.lit (.bool true)], args := [d1, d2] }
  | _ => none }
def fnExactSubfieldInRow : OpenClaim := { program := "ytbnjmafkcfjmeab", sum := "7c306d60c5174bc180249ce9f087471a43091efd094b19785a18dddf6c449e8d", func := "loop.example/g01144/laws.FnExactSubfieldIn", spec := "fnExactSubfieldIn", unfollowed := true, recurses := true, apart := false }
def FnExactSubfieldInSaid : Prop := fnExactSubfieldInRow.holds Try.pinned (OpenSpec.ofChange fnExactSubfieldInSpec)

/-- ITS FALSE NEIGHBOUR: 'it returns false'. Refute it at one input. -/
def fnExactSubfieldInWrong : ChangeSpec := { name := "fnExactSubfieldIn", fn := fun _ => fun
  | [d1, d2] => { results := [.lit (.bool false)], args := [d1, d2] }
  | _ => none }
def FnExactSubfieldInWrongFalsely : Prop := fnExactSubfieldInRow.holds Try.pinned (OpenSpec.ofChange fnExactSubfieldInWrong)

/-- 'laws.FnExactIsBasis': WHATEVER THE INPUT: true; the input reads as it did. -/
def fnExactIsBasisSpec : ChangeSpec := { name := "fnExactIsBasis", fn := fun _ => fun
  | [d1, d2] => { results := [.lit (.bool true)], args := [d1, d2] }
  | _ => none }
def fnExactIsBasisRow : OpenClaim := { program := "ytbnjmafkcfjmeab", sum := "7c306d60c5174bc180249ce9f087471a43091efd094b19785a18dddf6c449e8d", func := "loop.example/g01144/laws.FnExactIsBasis", spec := "fnExactIsBasis", unfollowed := true, recurses := true, apart := false }
def FnExactIsBasisSaid : Prop := fnExactIsBasisRow.holds Try.pinned (OpenSpec.ofChange fnExactIsBasisSpec)

/-- ITS FALSE NEIGHBOUR: 'it returns false'. Refute it at one input. -/
def fnExactIsBasisWrong : ChangeSpec := { name := "fnExactIsBasis", fn := fun _ => fun
  | [d1, d2] => { results := [.lit (.bool false)], args := [d1, d2] }
  | _ => none }
def FnExactIsBasisWrongFalsely : Prop := fnExactIsBasisRow.holds Try.pinned (OpenSpec.ofChange fnExactIsBasisWrong)

/-- 'laws.FnExactCoordinatesIn': WHATEVER THE INPUT: true; the input reads as it did. -/
def fnExactCoordinatesInSpec : ChangeSpec := { name := "fnExactCoordinatesIn", fn := fun _ => fun
  | [d1, d2, d3] => { results := [.lit (.bool true)], args := [d1, d2, d3] }
  | _ => none }
def fnExactCoordinatesInRow : OpenClaim := { program := "ytbnjmafkcfjmeab", sum := "7c306d60c5174bc180249ce9f087471a43091efd094b19785a18dddf6c449e8d", func := "loop.example/g01144/laws.FnExactCoordinatesIn", spec := "fnExactCoordinatesIn", unfollowed := true, recurses := true, apart := false }
def FnExactCoordinatesInSaid : Prop := fnExactCoordinatesInRow.holds Try.pinned (OpenSpec.ofChange fnExactCoordinatesInSpec)

/-- ITS FALSE NEIGHBOUR: 'it returns false'. Refute it at one input. -/
def fnExactCoordinatesInWrong : ChangeSpec := { name := "fnExactCoordinatesIn", fn := fun _ => fun
  | [d1, d2, d3] => { results := [.lit (.bool false)], args := [d1, d2, d3] }
  | _ => none }
def FnExactCoordinatesInWrongFalsely : Prop := fnExactCoordinatesInRow.holds Try.pinned (OpenSpec.ofChange fnExactCoordinatesInWrong)

/- THE SECOND FORM. 'bulk': how many values and letters a reading holds, each counted each time it is reached (what is shared counts as often as it is met; a slice's spare places count too). A statement '..UptoSaid' is the law's where the arguments, and the package variables that the reading takes, are together of bulk at most 1048576: NARROWER than '..Said'. Prove '..Said' where nothing that the law and all that it calls make is longer than what came in: it says more and counts as full. Else prove '..UptoSaid'. A law counts once. -/
mutual
def uptoBulk {H : Type} : DataW H → Nat
  | .lit (.string bytes) => bytes.length + 1
  | .lit _ => 1
  | .nil => 1
  | .ptr d => uptoBulk d + 1
  | .slice elems spare => uptoBulkAll elems + uptoBulkAll spare + 1
  | .agg parts => uptoBulkAll parts + 1
  | .iface _ d => uptoBulk d + 1
  | .map entries => uptoBulkEntries entries + 1
  | .held _ => 1
def uptoBulkAll {H : Type} : List (DataW H) → Nat
  | [] => 0
  | d :: r => uptoBulk d + uptoBulkAll r
def uptoBulkEntries {H : Type} : List (Lit × DataW H) → Nat
  | [] => 0
  | x :: r => uptoBulkEntry x + uptoBulkEntries r
def uptoBulkEntry {H : Type} : Lit × DataW H → Nat
  | (.string bytes, d) => bytes.length + uptoBulk d + 1
  | (_, d) => uptoBulk d + 1
 end
def uptoSmall : (H : Type) → List (DataW H) → Bool := fun _ ds => decide (uptoBulkAll ds ≤ 1048576)
def OpenSpec.upto (s : _root_.Go.ChangeSpec) : _root_.Go.OpenSpec := { _root_.Go.OpenSpec.ofChange s with cond := some uptoSmall }

/-- 'laws.FnExactSquareTimes', WHERE WHAT IT READS IS OF BULK AT MOST 1048576: true; the input reads as it did. -/
def fnExactSquareTimesUptoRow : OpenClaim := { program := "ytbnjmafkcfjmeab", sum := "7c306d60c5174bc180249ce9f087471a43091efd094b19785a18dddf6c449e8d", func := "loop.example/g01144/laws.FnExactSquareTimes", spec := "fnExactSquareTimes", unfollowed := true, recurses := true, apart := false, narrowed := true }
def FnExactSquareTimesUptoSaid : Prop := fnExactSquareTimesUptoRow.holds Try.pinned (OpenSpec.upto fnExactSquareTimesSpec)

/-- 'laws.FnExactRootTimes', WHERE WHAT IT READS IS OF BULK AT MOST 1048576: true; the input reads as it did. -/
def fnExactRootTimesUptoRow : OpenClaim := { program := "ytbnjmafkcfjmeab", sum := "7c306d60c5174bc180249ce9f087471a43091efd094b19785a18dddf6c449e8d", func := "loop.example/g01144/laws.FnExactRootTimes", spec := "fnExactRootTimes", unfollowed := true, recurses := true, apart := false, narrowed := true }
def FnExactRootTimesUptoSaid : Prop := fnExactRootTimesUptoRow.holds Try.pinned (OpenSpec.upto fnExactRootTimesSpec)

/-- 'laws.FnExactOrderIn', WHERE WHAT IT READS IS OF BULK AT MOST 1048576: true; the input reads as it did. -/
def fnExactOrderInUptoRow : OpenClaim := { program := "ytbnjmafkcfjmeab", sum := "7c306d60c5174bc180249ce9f087471a43091efd094b19785a18dddf6c449e8d", func := "loop.example/g01144/laws.FnExactOrderIn", spec := "fnExactOrderIn", unfollowed := true, recurses := true, apart := false, narrowed := true }
def FnExactOrderInUptoSaid : Prop := fnExactOrderInUptoRow.holds Try.pinned (OpenSpec.upto fnExactOrderInSpec)

/-- 'laws.FnExactFirstPrimitive', WHERE WHAT IT READS IS OF BULK AT MOST 1048576: true; the input reads as it did. -/
def fnExactFirstPrimitiveUptoRow : OpenClaim := { program := "ytbnjmafkcfjmeab", sum := "7c306d60c5174bc180249ce9f087471a43091efd094b19785a18dddf6c449e8d", func := "loop.example/g01144/laws.FnExactFirstPrimitive", spec := "fnExactFirstPrimitive", unfollowed := true, recurses := true, apart := false, narrowed := true }
def FnExactFirstPrimitiveUptoSaid : Prop := fnExactFirstPrimitiveUptoRow.holds Try.pinned (OpenSpec.upto fnExactFirstPrimitiveSpec)

/-- 'laws.FnExactLogIn', WHERE WHAT IT READS IS OF BULK AT MOST 1048576: true; the input reads as it did. -/
def fnExactLogInUptoRow : OpenClaim := { program := "ytbnjmafkcfjmeab", sum := "7c306d60c5174bc180249ce9f087471a43091efd094b19785a18dddf6c449e8d", func := "loop.example/g01144/laws.FnExactLogIn", spec := "fnExactLogIn", unfollowed := true, recurses := true, apart := false, narrowed := true }
def FnExactLogInUptoSaid : Prop := fnExactLogInUptoRow.holds Try.pinned (OpenSpec.upto fnExactLogInSpec)

/-- 'laws.FnExactTraceIn', WHERE WHAT IT READS IS OF BULK AT MOST 1048576: true; the input reads as it did. -/
def fnExactTraceInUptoRow : OpenClaim := { program := "ytbnjmafkcfjmeab", sum := "7c306d60c5174bc180249ce9f087471a43091efd094b19785a18dddf6c449e8d", func := "loop.example/g01144/laws.FnExactTraceIn", spec := "fnExactTraceIn", unfollowed := true, recurses := true, apart := false, narrowed := true }
def FnExactTraceInUptoSaid : Prop := fnExactTraceInUptoRow.holds Try.pinned (OpenSpec.upto fnExactTraceInSpec)

/-- 'laws.FnExactMinimalPoly', WHERE WHAT IT READS IS OF BULK AT MOST 1048576: true; the input reads as it did. -/
def fnExactMinimalPolyUptoRow : OpenClaim := { program := "ytbnjmafkcfjmeab", sum := "7c306d60c5174bc180249ce9f087471a43091efd094b19785a18dddf6c449e8d", func := "loop.example/g01144/laws.FnExactMinimalPoly", spec := "fnExactMinimalPoly", unfollowed := true, recurses := true, apart := false, narrowed := true }
def FnExactMinimalPolyUptoSaid : Prop := fnExactMinimalPolyUptoRow.holds Try.pinned (OpenSpec.upto fnExactMinimalPolySpec)

/-- 'laws.FnExactConjugatesIn', WHERE WHAT IT READS IS OF BULK AT MOST 1048576: true; the input reads as it did. -/
def fnExactConjugatesInUptoRow : OpenClaim := { program := "ytbnjmafkcfjmeab", sum := "7c306d60c5174bc180249ce9f087471a43091efd094b19785a18dddf6c449e8d", func := "loop.example/g01144/laws.FnExactConjugatesIn", spec := "fnExactConjugatesIn", unfollowed := true, recurses := true, apart := false, narrowed := true }
def FnExactConjugatesInUptoSaid : Prop := fnExactConjugatesInUptoRow.holds Try.pinned (OpenSpec.upto fnExactConjugatesInSpec)

/-- 'laws.FnExactSubfieldIn', WHERE WHAT IT READS IS OF BULK AT MOST 1048576: true; the input reads as it did. -/
def fnExactSubfieldInUptoRow : OpenClaim := { program := "ytbnjmafkcfjmeab", sum := "7c306d60c5174bc180249ce9f087471a43091efd094b19785a18dddf6c449e8d", func := "loop.example/g01144/laws.FnExactSubfieldIn", spec := "fnExactSubfieldIn", unfollowed := true, recurses := true, apart := false, narrowed := true }
def FnExactSubfieldInUptoSaid : Prop := fnExactSubfieldInUptoRow.holds Try.pinned (OpenSpec.upto fnExactSubfieldInSpec)

/-- 'laws.FnExactIsBasis', WHERE WHAT IT READS IS OF BULK AT MOST 1048576: true; the input reads as it did. -/
def fnExactIsBasisUptoRow : OpenClaim := { program := "ytbnjmafkcfjmeab", sum := "7c306d60c5174bc180249ce9f087471a43091efd094b19785a18dddf6c449e8d", func := "loop.example/g01144/laws.FnExactIsBasis", spec := "fnExactIsBasis", unfollowed := true, recurses := true, apart := false, narrowed := true }
def FnExactIsBasisUptoSaid : Prop := fnExactIsBasisUptoRow.holds Try.pinned (OpenSpec.upto fnExactIsBasisSpec)

/-- 'laws.FnExactCoordinatesIn', WHERE WHAT IT READS IS OF BULK AT MOST 1048576: true; the input reads as it did. -/
def fnExactCoordinatesInUptoRow : OpenClaim := { program := "ytbnjmafkcfjmeab", sum := "7c306d60c5174bc180249ce9f087471a43091efd094b19785a18dddf6c449e8d", func := "loop.example/g01144/laws.FnExactCoordinatesIn", spec := "fnExactCoordinatesIn", unfollowed := true, recurses := true, apart := false, narrowed := true }
def FnExactCoordinatesInUptoSaid : Prop := fnExactCoordinatesInUptoRow.holds Try.pinned (OpenSpec.upto fnExactCoordinatesInSpec)

end Rows
end Go.Proofs.Ytbnjmafkcfjmeab
