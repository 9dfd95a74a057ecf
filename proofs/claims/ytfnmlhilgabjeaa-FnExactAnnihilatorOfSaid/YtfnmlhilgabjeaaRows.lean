/-
  No cell of these rows narrows 'for every input' (looked for: loops, veiled, ifaces, maps, wideKeys, modest, calm, conditions, laid).
  DERIVED. THE GIVEN ROWS OF THIS SEAT. 10 by the template 'for every input the law returns true; each argument reads behind the call as it read before'; 0 by the template 'total and deterministic' (their statements: YtfnmlhilgabjeaaTotals.lean).
  GIVEN WITH THE SEED: the statements are not yours to turn. If you find one false, say at which input.
  Laid BY PROGRAM, IN A SANDBOX (cutbox-rows.mjs): the forced cells as the released guide's own fill.sh prints them over the translation 28e2e362d8233e44… (all of the seat's roots in one cut). By AI agents, Wed Nov 11 2026. No macro, syntax, notation, axiom, sorry.
-/
import Derived.Test.YtfnmlhilgabjeaaChecked
import GoSem.Claim
import GoSem.ClaimJoined
import GoSem.ClaimMapViews
import Derived.JoinedTies
import Derived.KernelRfl
namespace Go.Proofs.Ytfnmlhilgabjeaa
/- THE CELL 'sum', in the pinned program and in every row, IS THE sha256 OF THE DUMP (.gsa) THAT YtfnmlhilgabjeaaProg.lean LOADS. Nothing in Lean hashes anything: it is a label: what it is worth is what the hold of that sum in a sandbox is worth. -/
noncomputable def Try.pinned : Pinned := { name := "ytfnmlhilgabjeaa", sum := "28e2e362d8233e44a8fe8792a0bec5ac04ceaf899c4df5d2cc685f9bd105a6a7", checked := Try.checked }
namespace Rows
def none {H : Type} : Left H := { results := [], args := [] }

/-- 'laws.FnExactValidLinear': WHATEVER THE INPUT: true; the input reads as it did. -/
def fnExactValidLinearSpec : ChangeSpec := { name := "fnExactValidLinear", fn := fun _ => fun
  | [d1, d2] => { results := [.lit (.bool true)], args := [d1, d2] }
  | _ => none }
def fnExactValidLinearRow : OpenClaim := { program := "ytfnmlhilgabjeaa", sum := "28e2e362d8233e44a8fe8792a0bec5ac04ceaf899c4df5d2cc685f9bd105a6a7", func := "loop.example/g01144/laws.FnExactValidLinear", spec := "fnExactValidLinear", unfollowed := true, recurses := true, apart := false }
def FnExactValidLinearSaid : Prop := fnExactValidLinearRow.holds Try.pinned (OpenSpec.ofChange fnExactValidLinearSpec)

/-- ITS FALSE NEIGHBOUR: 'it returns false'. Refute it at one input. -/
def fnExactValidLinearWrong : ChangeSpec := { name := "fnExactValidLinear", fn := fun _ => fun
  | [d1, d2] => { results := [.lit (.bool false)], args := [d1, d2] }
  | _ => none }
def FnExactValidLinearWrongFalsely : Prop := fnExactValidLinearRow.holds Try.pinned (OpenSpec.ofChange fnExactValidLinearWrong)

/-- 'laws.FnExactValueOf': WHATEVER THE INPUT: true; the input reads as it did. -/
def fnExactValueOfSpec : ChangeSpec := { name := "fnExactValueOf", fn := fun _ => fun
  | [d1, d2, d3] => { results := [.lit (.bool true)], args := [d1, d2, d3] }
  | _ => none }
def fnExactValueOfRow : OpenClaim := { program := "ytfnmlhilgabjeaa", sum := "28e2e362d8233e44a8fe8792a0bec5ac04ceaf899c4df5d2cc685f9bd105a6a7", func := "loop.example/g01144/laws.FnExactValueOf", spec := "fnExactValueOf", unfollowed := true, recurses := true, apart := false }
def FnExactValueOfSaid : Prop := fnExactValueOfRow.holds Try.pinned (OpenSpec.ofChange fnExactValueOfSpec)

/-- ITS FALSE NEIGHBOUR: 'it returns false'. Refute it at one input. -/
def fnExactValueOfWrong : ChangeSpec := { name := "fnExactValueOf", fn := fun _ => fun
  | [d1, d2, d3] => { results := [.lit (.bool false)], args := [d1, d2, d3] }
  | _ => none }
def FnExactValueOfWrongFalsely : Prop := fnExactValueOfRow.holds Try.pinned (OpenSpec.ofChange fnExactValueOfWrong)

/-- 'laws.FnExactSumLinear': WHATEVER THE INPUT: true; the input reads as it did. -/
def fnExactSumLinearSpec : ChangeSpec := { name := "fnExactSumLinear", fn := fun _ => fun
  | [d1, d2, d3] => { results := [.lit (.bool true)], args := [d1, d2, d3] }
  | _ => none }
def fnExactSumLinearRow : OpenClaim := { program := "ytfnmlhilgabjeaa", sum := "28e2e362d8233e44a8fe8792a0bec5ac04ceaf899c4df5d2cc685f9bd105a6a7", func := "loop.example/g01144/laws.FnExactSumLinear", spec := "fnExactSumLinear", unfollowed := true, recurses := true, apart := false }
def FnExactSumLinearSaid : Prop := fnExactSumLinearRow.holds Try.pinned (OpenSpec.ofChange fnExactSumLinearSpec)

/-- ITS FALSE NEIGHBOUR: 'it returns false'. Refute it at one input. -/
def fnExactSumLinearWrong : ChangeSpec := { name := "fnExactSumLinear", fn := fun _ => fun
  | [d1, d2, d3] => { results := [.lit (.bool false)], args := [d1, d2, d3] }
  | _ => none }
def FnExactSumLinearWrongFalsely : Prop := fnExactSumLinearRow.holds Try.pinned (OpenSpec.ofChange fnExactSumLinearWrong)

/-- 'laws.FnExactComposeLinear': WHATEVER THE INPUT: true; the input reads as it did. -/
def fnExactComposeLinearSpec : ChangeSpec := { name := "fnExactComposeLinear", fn := fun _ => fun
  | [d1, d2, d3] => { results := [.lit (.bool true)], args := [d1, d2, d3] }
  | _ => none }
def fnExactComposeLinearRow : OpenClaim := { program := "ytfnmlhilgabjeaa", sum := "28e2e362d8233e44a8fe8792a0bec5ac04ceaf899c4df5d2cc685f9bd105a6a7", func := "loop.example/g01144/laws.FnExactComposeLinear", spec := "fnExactComposeLinear", unfollowed := true, recurses := true, apart := false }
def FnExactComposeLinearSaid : Prop := fnExactComposeLinearRow.holds Try.pinned (OpenSpec.ofChange fnExactComposeLinearSpec)

/-- ITS FALSE NEIGHBOUR: 'it returns false'. Refute it at one input. -/
def fnExactComposeLinearWrong : ChangeSpec := { name := "fnExactComposeLinear", fn := fun _ => fun
  | [d1, d2, d3] => { results := [.lit (.bool false)], args := [d1, d2, d3] }
  | _ => none }
def FnExactComposeLinearWrongFalsely : Prop := fnExactComposeLinearRow.holds Try.pinned (OpenSpec.ofChange fnExactComposeLinearWrong)

/-- 'laws.FnExactRootsOf': WHATEVER THE INPUT: true; the input reads as it did. -/
def fnExactRootsOfSpec : ChangeSpec := { name := "fnExactRootsOf", fn := fun _ => fun
  | [d1, d2] => { results := [.lit (.bool true)], args := [d1, d2] }
  | _ => none }
def fnExactRootsOfRow : OpenClaim := { program := "ytfnmlhilgabjeaa", sum := "28e2e362d8233e44a8fe8792a0bec5ac04ceaf899c4df5d2cc685f9bd105a6a7", func := "loop.example/g01144/laws.FnExactRootsOf", spec := "fnExactRootsOf", unfollowed := true, recurses := true, apart := false }
def FnExactRootsOfSaid : Prop := fnExactRootsOfRow.holds Try.pinned (OpenSpec.ofChange fnExactRootsOfSpec)

/-- ITS FALSE NEIGHBOUR: 'it returns false'. Refute it at one input. -/
def fnExactRootsOfWrong : ChangeSpec := { name := "fnExactRootsOf", fn := fun _ => fun
  | [d1, d2] => { results := [.lit (.bool false)], args := [d1, d2] }
  | _ => none }
def FnExactRootsOfWrongFalsely : Prop := fnExactRootsOfRow.holds Try.pinned (OpenSpec.ofChange fnExactRootsOfWrong)

/-- 'laws.FnExactAnnihilatorOf': WHATEVER THE INPUT: true; the input reads as it did. -/
def fnExactAnnihilatorOfSpec : ChangeSpec := { name := "fnExactAnnihilatorOf", fn := fun _ => fun
  | [d1, d2] => { results := [.lit (.bool true)], args := [d1, d2] }
  | _ => none }
def fnExactAnnihilatorOfRow : OpenClaim := { program := "ytfnmlhilgabjeaa", sum := "28e2e362d8233e44a8fe8792a0bec5ac04ceaf899c4df5d2cc685f9bd105a6a7", func := "loop.example/g01144/laws.FnExactAnnihilatorOf", spec := "fnExactAnnihilatorOf", unfollowed := true, recurses := true, apart := false }
def FnExactAnnihilatorOfSaid : Prop := fnExactAnnihilatorOfRow.holds Try.pinned (OpenSpec.ofChange fnExactAnnihilatorOfSpec)

/-- ITS FALSE NEIGHBOUR: 'it returns false'. Refute it at one input. -/
def fnExactAnnihilatorOfWrong : ChangeSpec := { name := "fnExactAnnihilatorOf", fn := fun _ => fun
  | [d1, d2] => { results := [.lit (.bool false)], args := [d1, d2] }
  | _ => none }
def FnExactAnnihilatorOfWrongFalsely : Prop := fnExactAnnihilatorOfRow.holds Try.pinned (OpenSpec.ofChange fnExactAnnihilatorOfWrong)

/-- 'laws.FnExactInterpolateLinear': WHATEVER THE INPUT: true; the input reads as it did. -/
def fnExactInterpolateLinearSpec : ChangeSpec := { name := "fnExactInterpolateLinear", fn := fun _ => fun
  | [d1, d2, d3] => { results := [.lit (.bool true)], args := [d1, d2, d3] }
  | _ => none }
def fnExactInterpolateLinearRow : OpenClaim := { program := "ytfnmlhilgabjeaa", sum := "28e2e362d8233e44a8fe8792a0bec5ac04ceaf899c4df5d2cc685f9bd105a6a7", func := "loop.example/g01144/laws.FnExactInterpolateLinear", spec := "fnExactInterpolateLinear", unfollowed := true, recurses := true, apart := false }
def FnExactInterpolateLinearSaid : Prop := fnExactInterpolateLinearRow.holds Try.pinned (OpenSpec.ofChange fnExactInterpolateLinearSpec)

/-- ITS FALSE NEIGHBOUR: 'it returns false'. Refute it at one input. -/
def fnExactInterpolateLinearWrong : ChangeSpec := { name := "fnExactInterpolateLinear", fn := fun _ => fun
  | [d1, d2, d3] => { results := [.lit (.bool false)], args := [d1, d2, d3] }
  | _ => none }
def FnExactInterpolateLinearWrongFalsely : Prop := fnExactInterpolateLinearRow.holds Try.pinned (OpenSpec.ofChange fnExactInterpolateLinearWrong)

/-- 'laws.FnExactPowerIn': WHATEVER THE INPUT: true; the input reads as it did. -/
def fnExactPowerInSpec : ChangeSpec := { name := "fnExactPowerIn", fn := fun _ => fun
  | [d1, d2, d3] => { results := [.lit (.bool true)], args := [d1, d2, d3] }
  | _ => none }
def fnExactPowerInRow : OpenClaim := { program := "ytfnmlhilgabjeaa", sum := "28e2e362d8233e44a8fe8792a0bec5ac04ceaf899c4df5d2cc685f9bd105a6a7", func := "loop.example/g01144/laws.FnExactPowerIn", spec := "fnExactPowerIn", unfollowed := true, recurses := true, apart := false }
def FnExactPowerInSaid : Prop := fnExactPowerInRow.holds Try.pinned (OpenSpec.ofChange fnExactPowerInSpec)

/-- ITS FALSE NEIGHBOUR: 'it returns false'. Refute it at one input. -/
def fnExactPowerInWrong : ChangeSpec := { name := "fnExactPowerIn", fn := fun _ => fun
  | [d1, d2, d3] => { results := [.lit (.bool false)], args := [d1, d2, d3] }
  | _ => none }
def FnExactPowerInWrongFalsely : Prop := fnExactPowerInRow.holds Try.pinned (OpenSpec.ofChange fnExactPowerInWrong)

/-- 'laws.FnExactSquareTimes': WHATEVER THE INPUT: true; the input reads as it did. -/
def fnExactSquareTimesSpec : ChangeSpec := { name := "fnExactSquareTimes", fn := fun _ => fun
  | [d1, d2, d3] => { results := [.lit (.bool true)], args := [d1, d2, d3] }
  | _ => none }
def fnExactSquareTimesRow : OpenClaim := { program := "ytfnmlhilgabjeaa", sum := "28e2e362d8233e44a8fe8792a0bec5ac04ceaf899c4df5d2cc685f9bd105a6a7", func := "loop.example/g01144/laws.FnExactSquareTimes", spec := "fnExactSquareTimes", unfollowed := true, recurses := true, apart := false }
def FnExactSquareTimesSaid : Prop := fnExactSquareTimesRow.holds Try.pinned (OpenSpec.ofChange fnExactSquareTimesSpec)

/-- ITS FALSE NEIGHBOUR: 'it returns false'. Refute it at one input. -/
def fnExactSquareTimesWrong : ChangeSpec := { name := "fnExactSquareTimes", fn := fun _ => fun
  | [d1, d2, d3] => { results := [.lit (.bool false)], args := [d1, d2, d3] }
  | _ => none }
def FnExactSquareTimesWrongFalsely : Prop := fnExactSquareTimesRow.holds Try.pinned (OpenSpec.ofChange fnExactSquareTimesWrong)

/-- 'laws.FnExactRootTimes': WHATEVER THE INPUT: true; the input reads as it did. -/
def fnExactRootTimesSpec : ChangeSpec := { name := "fnExactRootTimes", fn := fun _ => fun
  | [d1, d2, d3] => { results := [.lit (.bool true)], args := [d1, d2, d3] }
  | _ => none }
def fnExactRootTimesRow : OpenClaim := { program := "ytfnmlhilgabjeaa", sum := "28e2e362d8233e44a8fe8792a0bec5ac04ceaf899c4df5d2cc685f9bd105a6a7", func := "loop.example/g01144/laws.FnExactRootTimes", spec := "fnExactRootTimes", unfollowed := true, recurses := true, apart := false }
def FnExactRootTimesSaid : Prop := fnExactRootTimesRow.holds Try.pinned (OpenSpec.ofChange fnExactRootTimesSpec)

/-- ITS FALSE NEIGHBOUR: 'it returns false'. Refute it at one input. -/
def fnExactRootTimesWrong : ChangeSpec := { name := "fnExactRootTimes", fn := fun _ => fun
  | [d1, d2, d3] => { results := [.lit (.bool false)], args := [d1, d2, d3] }
  | _ => none }
def FnExactRootTimesWrongFalsely : Prop := fnExactRootTimesRow.holds Try.pinned (OpenSpec.ofChange fnExactRootTimesWrong)

/- THE SECOND FORM. 'bulk': how many values and letters a reading holds, each counted each time it is reached (what is shared counts as often as it is met; a slice's spare places count too). A statement '..UptoSaid' is the law's where the arguments, and the package variables that the reading takes, are together of bulk at most 1048576: NARROWER than '..Said'. Prove '..Said' where nothing that the law and all that it calls make is longer than what came in: it says more and counts as full. Else prove '..UptoSaid'. A law counts once. -/
mutual
def uptoBulk {H : Type} : DataW H → Nat
  | .lit (.string bytes) => bytes.length + 1
  | .lit _ => 1
  | .nil => 1
  | .ptr d => uptoBulk d + 1
  | .slice elems spare => uptoBulkAll elems + uptoBulkAll spare + 1
  | .agg parts => uptoBulkAll parts + 1
  | .iface _ d => uptoBulk d + 1
  | .map entries => uptoBulkEntries entries + 1
  | .held _ => 1
def uptoBulkAll {H : Type} : List (DataW H) → Nat
  | [] => 0
  | d :: r => uptoBulk d + uptoBulkAll r
def uptoBulkEntries {H : Type} : List (Lit × DataW H) → Nat
  | [] => 0
  | x :: r => uptoBulkEntry x + uptoBulkEntries r
def uptoBulkEntry {H : Type} : Lit × DataW H → Nat
  | (.string bytes, d) => bytes.length + uptoBulk d + 1
  | (_, d) => uptoBulk d + 1
 end
def uptoSmall : (H : Type) → List (DataW H) → Bool := fun _ ds => decide (uptoBulkAll ds ≤ 1048576)
def OpenSpec.upto (s : _root_.Go.ChangeSpec) : _root_.Go.OpenSpec := { _root_.Go.OpenSpec.ofChange s with cond := some uptoSmall }

/-- 'laws.FnExactValidLinear', WHERE WHAT IT READS IS OF BULK AT MOST 1048576: true; the input reads as it did. -/
def fnExactValidLinearUptoRow : OpenClaim := { program := "ytfnmlhilgabjeaa", sum := "28e2e362d8233e44a8fe8792a0bec5ac04ceaf899c4df5d2cc685f9bd105a6a7", func := "loop.example/g01144/laws.FnExactValidLinear", spec := "fnExactValidLinear", unfollowed := true, recurses := true, apart := false, narrowed := true }
def FnExactValidLinearUptoSaid : Prop := fnExactValidLinearUptoRow.holds Try.pinned (OpenSpec.upto fnExactValidLinearSpec)

/-- 'laws.FnExactValueOf', WHERE WHAT IT READS IS OF BULK AT MOST 1048576: true; the input reads as it did. -/
def fnExactValueOfUptoRow : OpenClaim := { program := "ytfnmlhilgabjeaa", sum := "28e2e362d8233e44a8fe8792a0bec5ac04ceaf899c4df5d2cc685f9bd105a6a7", func := "loop.example/g01144/laws.FnExactValueOf", spec := "fnExactValueOf", unfollowed := true, recurses := true, apart := false, narrowed := true }
def FnExactValueOfUptoSaid : Prop := fnExactValueOfUptoRow.holds Try.pinned (OpenSpec.upto fnExactValueOfSpec)

/-- 'laws.FnExactSumLinear', WHERE WHAT IT READS IS OF BULK AT MOST 1048576: true; the input reads as it did. -/
def fnExactSumLinearUptoRow : OpenClaim := { program := "ytfnmlhilgabjeaa", sum := "28e2e362d8233e44a8fe8792a0bec5ac04ceaf899c4df5d2cc685f9bd105a6a7", func := "loop.example/g01144/laws.FnExactSumLinear", spec := "fnExactSumLinear", unfollowed := true, recurses := true, apart := false, narrowed := true }
def FnExactSumLinearUptoSaid : Prop := fnExactSumLinearUptoRow.holds Try.pinned (OpenSpec.upto fnExactSumLinearSpec)

/-- 'laws.FnExactComposeLinear', WHERE WHAT IT READS IS OF BULK AT MOST 1048576: true; the input reads as it did. -/
def fnExactComposeLinearUptoRow : OpenClaim := { program := "ytfnmlhilgabjeaa", sum := "28e2e362d8233e44a8fe8792a0bec5ac04ceaf899c4df5d2cc685f9bd105a6a7", func := "loop.example/g01144/laws.FnExactComposeLinear", spec := "fnExactComposeLinear", unfollowed := true, recurses := true, apart := false, narrowed := true }
def FnExactComposeLinearUptoSaid : Prop := fnExactComposeLinearUptoRow.holds Try.pinned (OpenSpec.upto fnExactComposeLinearSpec)

/-- 'laws.FnExactRootsOf', WHERE WHAT IT READS IS OF BULK AT MOST 1048576: true; the input reads as it did. -/
def fnExactRootsOfUptoRow : OpenClaim := { program := "ytfnmlhilgabjeaa", sum := "28e2e362d8233e44a8fe8792a0bec5ac04ceaf899c4df5d2cc685f9bd105a6a7", func := "loop.example/g01144/laws.FnExactRootsOf", spec := "fnExactRootsOf", unfollowed := true, recurses := true, apart := false, narrowed := true }
def FnExactRootsOfUptoSaid : Prop := fnExactRootsOfUptoRow.holds Try.pinned (OpenSpec.upto fnExactRootsOfSpec)

/-- 'laws.FnExactAnnihilatorOf', WHERE WHAT IT READS IS OF BULK AT MOST 1048576: true; the input reads as it did. -/
def fnExactAnnihilatorOfUptoRow : OpenClaim := { program := "ytfnmlhilgabjeaa", sum := "28e2e362d8233e44a8fe8792a0bec5ac04ceaf899c4df5d2cc685f9bd105a6a7", func := "loop.example/g01144/laws.FnExactAnnihilatorOf", spec := "fnExactAnnihilatorOf", unfollowed := true, recurses := true, apart := false, narrowed := true }
def FnExactAnnihilatorOfUptoSaid : Prop := fnExactAnnihilatorOfUptoRow.holds Try.pinned (OpenSpec.upto fnExactAnnihilatorOfSpec)

/-- 'laws.FnExactInterpolateLinear', WHERE WHAT IT READS IS OF BULK AT MOST 1048576: true; the input reads as it did. -/
def fnExactInterpolateLinearUptoRow : OpenClaim := { program := "ytfnmlhilgabjeaa", sum := "28e2e362d8233e44a8fe8792a0bec5ac04ceaf899c4df5d2cc685f9bd105a6a7", func := "loop.example/g01144/laws.FnExactInterpolateLinear", spec := "fnExactInterpolateLinear", unfollowed := true, recurses := true, apart := false, narrowed := true }
def FnExactInterpolateLinearUptoSaid : Prop := fnExactInterpolateLinearUptoRow.holds Try.pinned (OpenSpec.upto fnExactInterpolateLinearSpec)

/-- 'laws.FnExactPowerIn', WHERE WHAT IT READS IS OF BULK AT MOST 1048576: true; the input reads as it did. -/
def fnExactPowerInUptoRow : OpenClaim := { program := "ytfnmlhilgabjeaa", sum := "28e2e362d8233e44a8fe8792a0bec5ac04ceaf899c4df5d2cc685f9bd105a6a7", func := "loop.example/g01144/laws.FnExactPowerIn", spec := "fnExactPowerIn", unfollowed := true, recurses := true, apart := false, narrowed := true }
def FnExactPowerInUptoSaid : Prop := fnExactPowerInUptoRow.holds Try.pinned (OpenSpec.upto fnExactPowerInSpec)

/-- 'laws.FnExactSquareTimes', WHERE WHAT IT READS IS OF BULK AT MOST 1048576: true; the input reads as it did. -/
def fnExactSquareTimesUptoRow : OpenClaim := { program := "ytfnmlhilgabjeaa", sum := "28e2e362d8233e44a8fe8792a0bec5ac04ceaf899c4df5d2cc685f9bd105a6a7", func := "loop.example/g01144/laws.FnExactSquareTimes", spec := "fnExactSquareTimes", unfollowed := true, recurses := true, apart := false, narrowed := true }
def FnExactSquareTimesUptoSaid : Prop := fnExactSquareTimesUptoRow.holds Try.pinned (OpenSpec.upto fnExactSquareTimesSpec)

/-- 'laws.FnExactRootTimes', WHERE WHAT IT READS IS OF BULK AT MOST 1048576: true; the input reads as it did. -/
def fnExactRootTimesUptoRow : OpenClaim := { program := "ytfnmlhilgabjeaa", sum := "28e2e362d8233e44a8fe8792a0bec5ac04ceaf899c4df5d2cc685f9bd105a6a7", func := "loop.example/g01144/laws.FnExactRootTimes", spec := "fnExactRootTimes", unfollowed := true, recurses := true, apart := false, narrowed := true }
def FnExactRootTimesUptoSaid : Prop := fnExactRootTimesUptoRow.holds Try.pinned (OpenSpec.upto fnExactRootTimesSpec)

end Rows
end Go.Proofs.Ytfnmlhilgabjeaa
