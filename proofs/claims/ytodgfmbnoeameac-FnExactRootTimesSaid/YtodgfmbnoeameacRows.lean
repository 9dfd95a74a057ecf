/-
  No cell of these rows narrows 'for every input' (looked for: loops, veiled, ifaces, maps, wideKeys, modest, calm, conditions, laid).
  DERIVED. THE GIVEN ROWS OF THIS SEAT. 11 by the template 'for every input the law returns true; each argument reads behind the call as it read before'; 0 by the template 'total and deterministic' (their statements: YtodgfmbnoeameacTotals.lean).
  GIVEN WITH THE SEED: the statements are not yours to turn. If you find one false, say at which input.
  Laid BY PROGRAM, IN A SANDBOX (cutbox-rows.mjs): the forced cells as the released guide's own fill.sh prints them over the translation 9e86e4194bdd8612… (all of the seat's roots in one cut). By AI agents, Wed Nov 11 2026. No macro, syntax, notation, axiom, sorry.
-/
import Derived.Test.YtodgfmbnoeameacChecked
import GoSem.Claim
import GoSem.ClaimJoined
import GoSem.ClaimMapViews
import Derived.JoinedTies
import Derived.KernelRfl
namespace Go.Proofs.Ytodgfmbnoeameac
/- THE CELL 'sum', in the pinned program and in every row, IS THE sha256 OF THE DUMP (.gsa) THAT YtodgfmbnoeameacProg.lean LOADS. Nothing in Lean hashes anything: it is a label: what it is worth is what the hold of that sum in a sandbox is worth. -/
noncomputable def Try.pinned : Pinned := { name := "ytodgfmbnoeameac", sum := "9e86e4194bdd8612f1a6a00e449c4f7a4ae5b2544811230dc8e6bd7a19dc9053", checked := Try.checked }
namespace Rows
def none {H : Type} : Left H := { results := [], args := [] }

/-- 'laws.FnExactMulIn': WHATEVER THE INPUT: true; the input reads as it did. -/
def fnExactMulInSpec : ChangeSpec := { name := "fnExactMulIn", fn := fun _ => fun
  | [d1, d2, d3] => { results := [.lit (.bool true)], args := [d1, d2, d3] }
  | _ => none }
def fnExactMulInRow : OpenClaim := { program := "ytodgfmbnoeameac", sum := "9e86e4194bdd8612f1a6a00e449c4f7a4ae5b2544811230dc8e6bd7a19dc9053", func := "loop.example/g01144/laws.FnExactMulIn", spec := "fnExactMulIn", unfollowed := true, recurses := true, apart := false }
def FnExactMulInSaid : Prop := fnExactMulInRow.holds Try.pinned (OpenSpec.ofChange fnExactMulInSpec)

/-- ITS FALSE NEIGHBOUR: 'it returns false'. Refute it at one input. -/
def fnExactMulInWrong : ChangeSpec := { name := "fnExactMulIn", fn := fun _ => fun
  | [d1, d2, d3] => { results := [.lit (.bool false)], args := [d1, d2, d3] }
  | _ => none }
def FnExactMulInWrongFalsely : Prop := fnExactMulInRow.holds Try.pinned (OpenSpec.ofChange fnExactMulInWrong)

/-- 'laws.FnExactPowerIn': WHATEVER THE INPUT: true; the input reads as it did. -/
def fnExactPowerInSpec : ChangeSpec := { name := "fnExactPowerIn", fn := fun _ => fun
  | [d1, d2, d3] => { results := [.lit (.bool true)], args := [d1, d2, d3] }
  | _ => none }
def fnExactPowerInRow : OpenClaim := { program := "ytodgfmbnoeameac", sum := "9e86e4194bdd8612f1a6a00e449c4f7a4ae5b2544811230dc8e6bd7a19dc9053", func := "loop.example/g01144/laws.FnExactPowerIn", spec := "fnExactPowerIn", unfollowed := true, recurses := true, apart := false }
def FnExactPowerInSaid : Prop := fnExactPowerInRow.holds Try.pinned (OpenSpec.ofChange fnExactPowerInSpec)

/-- ITS FALSE NEIGHBOUR: 'it returns false'. Refute it at one input. -/
def fnExactPowerInWrong : ChangeSpec := { name := "fnExactPowerIn", fn := fun _ => fun
  | [d1, d2, d3] => { results := [.lit (.bool false)], args := [d1, d2, d3] }
  | _ => none }
def FnExactPowerInWrongFalsely : Prop := fnExactPowerInRow.holds Try.pinned (OpenSpec.ofChange fnExactPowerInWrong)

/-- 'laws.FnExactInverseIn': WHATEVER THE INPUT: true; the input reads as it did. -/
def fnExactInverseInSpec : ChangeSpec := { name := "fnExactInverseIn", fn := fun _ => fun
  | [d1, d2] => { results := [.lit (.bool true)], args := [d1, d2] }
  | _ => none }
def fnExactInverseInRow : OpenClaim := { program := "ytodgfmbnoeameac", sum := "9e86e4194bdd8612f1a6a00e449c4f7a4ae5b2544811230dc8e6bd7a19dc9053", func := "loop.example/g01144/laws.FnExactInverseIn", spec := "fnExactInverseIn", unfollowed := true, recurses := true, apart := false }
def FnExactInverseInSaid : Prop := fnExactInverseInRow.holds Try.pinned (OpenSpec.ofChange fnExactInverseInSpec)

/-- ITS FALSE NEIGHBOUR: 'it returns false'. Refute it at one input. -/
def fnExactInverseInWrong : ChangeSpec := { name := "fnExactInverseIn", fn := fun _ => fun
  | [d1, d2] => { results := [.lit (.bool false)], args := [d1, d2] }
  | _ => none }
def FnExactInverseInWrongFalsely : Prop := fnExactInverseInRow.holds Try.pinned (OpenSpec.ofChange fnExactInverseInWrong)

/-- 'laws.FnExactSquareTimes': WHATEVER THE INPUT: true; the input reads as it did. -/
def fnExactSquareTimesSpec : ChangeSpec := { name := "fnExactSquareTimes", fn := fun _ => fun
  | [d1, d2, d3] => { results := [.lit (.bool true)], args := [d1, d2, d3] }
  | _ => none }
def fnExactSquareTimesRow : OpenClaim := { program := "ytodgfmbnoeameac", sum := "9e86e4194bdd8612f1a6a00e449c4f7a4ae5b2544811230dc8e6bd7a19dc9053", func := "loop.example/g01144/laws.FnExactSquareTimes", spec := "fnExactSquareTimes", unfollowed := true, recurses := true, apart := false }
def FnExactSquareTimesSaid : Prop := fnExactSquareTimesRow.holds Try.pinned (OpenSpec.ofChange fnExactSquareTimesSpec)

/-- ITS FALSE NEIGHBOUR: 'it returns false'. Refute it at one input. -/
def fnExactSquareTimesWrong : ChangeSpec := { name := "fnExactSquareTimes", fn := fun _ => fun
  | [d1, d2, d3] => { results := [.lit (.bool false)], args := [d1, d2, d3] }
  | _ => none }
def FnExactSquareTimesWrongFalsely : Prop := fnExactSquareTimesRow.holds Try.pinned (OpenSpec.ofChange fnExactSquareTimesWrong)

/-- 'laws.FnExactRootTimes': WHATEVER THE INPUT: true; the input reads as it did. -/
def fnExactRootTimesSpec : ChangeSpec := { name := "fnExactRootTimes", fn := fun _ => fun
  | [d1, d2, d3] => { results := [.lit (.bool true)], args := [d1, d2, d3] }
  | _ => none }
def fnExactRootTimesRow : OpenClaim := { program := "ytodgfmbnoeameac", sum := "9e86e4194bdd8612f1a6a00e449c4f7a4ae5b2544811230dc8e6bd7a19dc9053", func := "loop.example/g01144/laws.FnExactRootTimes", spec := "fnExactRootTimes", unfollowed := true, recurses := true, apart := false }
def FnExactRootTimesSaid : Prop := fnExactRootTimesRow.holds Try.pinned (OpenSpec.ofChange fnExactRootTimesSpec)

/-- ITS FALSE NEIGHBOUR: 'it returns false'. Refute it at one input. -/
def fnExactRootTimesWrong : ChangeSpec := { name := "fnExactRootTimes", fn := fun _ => fun
  | [d1, d2, d3] => { results := [.lit (.bool false)], args := [d1, d2, d3] }
  | _ => none }
def FnExactRootTimesWrongFalsely : Prop := fnExactRootTimesRow.holds Try.pinned (OpenSpec.ofChange fnExactRootTimesWrong)

/-- 'laws.FnExactOrderIn': WHATEVER THE INPUT: true; the input reads as it did. -/
def fnExactOrderInSpec : ChangeSpec := { name := "fnExactOrderIn", fn := fun _ => fun
  | [d1, d2] => { results := [.lit (.bool true)], args := [d1, d2] }
  | _ => none }
def fnExactOrderInRow : OpenClaim := { program := "ytodgfmbnoeameac", sum := "9e86e4194bdd8612f1a6a00e449c4f7a4ae5b2544811230dc8e6bd7a19dc9053", func := "loop.example/g01144/laws.FnExactOrderIn", spec := "fnExactOrderIn", unfollowed := true, recurses := true, apart := false }
def FnExactOrderInSaid : Prop := fnExactOrderInRow.holds Try.pinned (OpenSpec.ofChange fnExactOrderInSpec)

/-- ITS FALSE NEIGHBOUR: 'it returns false'. Refute it at one input. -/
def fnExactOrderInWrong : ChangeSpec := { name := "fnExactOrderIn", fn := fun _ => fun
  | [d1, d2] => { results := [.lit (.bool false)], args := [d1, d2] }
  | _ => none }
def FnExactOrderInWrongFalsely : Prop := fnExactOrderInRow.holds Try.pinned (OpenSpec.ofChange fnExactOrderInWrong)

/-- 'laws.FnExactFirstPrimitive': WHATEVER THE INPUT: true; the input reads as it did. -/
def fnExactFirstPrimitiveSpec : ChangeSpec := { name := "fnExactFirstPrimitive", fn := fun _ => fun
  | [d] => { results := [.lit (.bool true)], args := [d] }
  | _ => none }
def fnExactFirstPrimitiveRow : OpenClaim := { program := "ytodgfmbnoeameac", sum := "9e86e4194bdd8612f1a6a00e449c4f7a4ae5b2544811230dc8e6bd7a19dc9053", func := "loop.example/g01144/laws.FnExactFirstPrimitive", spec := "fnExactFirstPrimitive", unfollowed := true, recurses := true, apart := false }
def FnExactFirstPrimitiveSaid : Prop := fnExactFirstPrimitiveRow.holds Try.pinned (OpenSpec.ofChange fnExactFirstPrimitiveSpec)

/-- ITS FALSE NEIGHBOUR: 'it returns false'. Refute it at one input. -/
def fnExactFirstPrimitiveWrong : ChangeSpec := { name := "fnExactFirstPrimitive", fn := fun _ => fun
  | [d] => { results := [.lit (.bool false)], args := [d] }
  | _ => none }
def FnExactFirstPrimitiveWrongFalsely : Prop := fnExactFirstPrimitiveRow.holds Try.pinned (OpenSpec.ofChange fnExactFirstPrimitiveWrong)

/-- 'laws.FnExactLogIn': WHATEVER THE INPUT: true; the input reads as it did. -/
def fnExactLogInSpec : ChangeSpec := { name := "fnExactLogIn", fn := fun _ => fun
  | [d1, d2, d3] => { results := [.lit (.bool true)], args := [d1, d2, d3] }
  | _ => none }
def fnExactLogInRow : OpenClaim := { program := "ytodgfmbnoeameac", sum := "9e86e4194bdd8612f1a6a00e449c4f7a4ae5b2544811230dc8e6bd7a19dc9053", func := "loop.example/g01144/laws.FnExactLogIn", spec := "fnExactLogIn", unfollowed := true, recurses := true, apart := false }
def FnExactLogInSaid : Prop := fnExactLogInRow.holds Try.pinned (OpenSpec.ofChange fnExactLogInSpec)

/-- ITS FALSE NEIGHBOUR: 'it returns false'. Refute it at one input. -/
def fnExactLogInWrong : ChangeSpec := { name := "fnExactLogIn", fn := fun _ => fun
  | [d1, d2, d3] => { results := [.lit (.bool false)], args := [d1, d2, d3] }
  | _ => none }
def FnExactLogInWrongFalsely : Prop := fnExactLogInRow.holds Try.pinned (OpenSpec.ofChange fnExactLogInWrong)

/-- 'laws.FnExactTraceIn': WHATEVER THE INPUT: true; the input reads as it did. -/
def fnExactTraceInSpec : ChangeSpec := { name := "fnExactTraceIn", fn := fun _ => fun
  | [d1, d2] => { results := [.lit (.bool true)], args := [d1, d2] }
  | _ => none }
def fnExactTraceInRow : OpenClaim := { program := "ytodgfmbnoeameac", sum := "9e86e4194bdd8612f1a6a00e449c4f7a4ae5b2544811230dc8e6bd7a19dc9053", func := "loop.example/g01144/laws.FnExactTraceIn", spec := "fnExactTraceIn", unfollowed := true, recurses := true, apart := false }
def FnExactTraceInSaid : Prop := fnExactTraceInRow.holds Try.pinned (OpenSpec.ofChange fnExactTraceInSpec)

/-- ITS FALSE NEIGHBOUR: 'it returns false'. Refute it at one input. -/
def fnExactTraceInWrong : ChangeSpec := { name := "fnExactTraceIn", fn := fun _ => fun
  | [d1, d2] => { results := [.lit (.bool false)], args := [d1, d2] }
  | _ => none }
def FnExactTraceInWrongFalsely : Prop := fnExactTraceInRow.holds Try.pinned (OpenSpec.ofChange fnExactTraceInWrong)

/-- 'laws.FnExactConjugatesIn': WHATEVER THE INPUT: true; the input reads as it did. -/
def fnExactConjugatesInSpec : ChangeSpec := { name := "fnExactConjugatesIn", fn := fun _ => fun
  | [d1, d2] => { results := [.lit (.bool true)], args := [d1, d2] }
  | _ => none }
def fnExactConjugatesInRow : OpenClaim := { program := "ytodgfmbnoeameac", sum := "9e86e4194bdd8612f1a6a00e449c4f7a4ae5b2544811230dc8e6bd7a19dc9053", func := "loop.example/g01144/laws.FnExactConjugatesIn", spec := "fnExactConjugatesIn", unfollowed := true, recurses := true, apart := false }
def FnExactConjugatesInSaid : Prop := fnExactConjugatesInRow.holds Try.pinned (OpenSpec.ofChange fnExactConjugatesInSpec)

/-- ITS FALSE NEIGHBOUR: 'it returns false'. Refute it at one input. -/
def fnExactConjugatesInWrong : ChangeSpec := { name := "fnExactConjugatesIn", fn := fun _ => fun
  | [d1, d2] => { results := [.lit (.bool false)], args := [d1, d2] }
  | _ => none }
def FnExactConjugatesInWrongFalsely : Prop := fnExactConjugatesInRow.holds Try.pinned (OpenSpec.ofChange fnExactConjugatesInWrong)

/-- 'laws.FnExactSplitIn': WHATEVER THE INPUT: true; the input reads as it did. -/
def fnExactSplitInSpec : ChangeSpec := { name := "fnExactSplitIn", fn := fun _ => fun
  | [d1, d2] => { results := [.lit (.bool true)], args := [d1, d2] }
  | _ => none }
def fnExactSplitInRow : OpenClaim := { program := "ytodgfmbnoeameac", sum := "9e86e4194bdd8612f1a6a00e449c4f7a4ae5b2544811230dc8e6bd7a19dc9053", func := "loop.example/g01144/laws.FnExactSplitIn", spec := "fnExactSplitIn", unfollowed := true, recurses := true, apart := false }
def FnExactSplitInSaid : Prop := fnExactSplitInRow.holds Try.pinned (OpenSpec.ofChange fnExactSplitInSpec)

/-- ITS FALSE NEIGHBOUR: 'it returns false'. Refute it at one input. -/
def fnExactSplitInWrong : ChangeSpec := { name := "fnExactSplitIn", fn := fun _ => fun
  | [d1, d2] => { results := [.lit (.bool false)], args := [d1, d2] }
  | _ => none }
def FnExactSplitInWrongFalsely : Prop := fnExactSplitInRow.holds Try.pinned (OpenSpec.ofChange fnExactSplitInWrong)

/- THE SECOND FORM. 'bulk': how many values and letters a reading holds, each counted each time it is reached (what is shared counts as often as it is met; a slice's spare places count too). A statement '..UptoSaid' is the law's where the arguments, and the package variables that the reading takes, are together of bulk at most 1048576: NARROWER than '..Said'. Prove '..Said' where nothing that the law and all that it calls make is longer than what came in: it says more and counts as full. Else prove '..UptoSaid'. A law counts once. -/
mutual
def uptoBulk {H : Type} : DataW H → Nat
  | .lit (.string bytes) => bytes.length + 1
  | .lit _ => 1
  | .nil => 1
  | .ptr d => uptoBulk d + 1
  | .slice elems spare => uptoBulkAll elems + uptoBulkAll spare + 1
  | .agg parts => uptoBulkAll parts + 1
  | .iface _ d => uptoBulk d + 1
  | .map entries => uptoBulkEntries entries + 1
  | .held _ => 1
def uptoBulkAll {H : Type} : List (DataW H) → Nat
  | [] => 0
  | d :: r => uptoBulk d + uptoBulkAll r
def uptoBulkEntries {H : Type} : List (Lit × DataW H) → Nat
  | [] => 0
  | x :: r => uptoBulkEntry x + uptoBulkEntries r
def uptoBulkEntry {H : Type} : Lit × DataW H → Nat
  | (.string bytes, d) => bytes.length + uptoBulk d + 1
  | (_, d) => uptoBulk d + 1
 end
def uptoSmall : (H : Type) → List (DataW H) → Bool := fun _ ds => decide (uptoBulkAll ds ≤ 1048576)
def OpenSpec.upto (s : _root_.Go.ChangeSpec) : _root_.Go.OpenSpec := { _root_.Go.OpenSpec.ofChange s with cond := some uptoSmall }

/-- 'laws.FnExactMulIn', WHERE WHAT IT READS IS OF BULK AT MOST 1048576: true; the input reads as it did. -/
def fnExactMulInUptoRow : OpenClaim := { program := "ytodgfmbnoeameac", sum := "9e86e4194bdd8612f1a6a00e449c4f7a4ae5b2544811230dc8e6bd7a19dc9053", func := "loop.example/g01144/laws.FnExactMulIn", spec := "fnExactMulIn", unfollowed := true, recurses := true, apart := false, narrowed := true }
def FnExactMulInUptoSaid : Prop := fnExactMulInUptoRow.holds Try.pinned (OpenSpec.upto fnExactMulInSpec)

/-- 'laws.FnExactPowerIn', WHERE WHAT IT READS IS OF BULK AT MOST 1048576: true; the input reads as it did. -/
def fnExactPowerInUptoRow : OpenClaim := { program := "ytodgfmbnoeameac", sum := "9e86e4194bdd8612f1a6a00e449c4f7a4ae5b2544811230dc8e6bd7a19dc9053", func := "loop.example/g01144/laws.FnExactPowerIn", spec := "fnExactPowerIn", unfollowed := true, recurses := true, apart := false, narrowed := true }
def FnExactPowerInUptoSaid : Prop := fnExactPowerInUptoRow.holds Try.pinned (OpenSpec.upto fnExactPowerInSpec)

/-- 'laws.FnExactInverseIn', WHERE WHAT IT READS IS OF BULK AT MOST 1048576: true; the input reads as it did. -/
def fnExactInverseInUptoRow : OpenClaim := { program := "ytodgfmbnoeameac", sum := "9e86e4194bdd8612f1a6a00e449c4f7a4ae5b2544811230dc8e6bd7a19dc9053", func := "loop.example/g01144/laws.FnExactInverseIn", spec := "fnExactInverseIn", unfollowed := true, recurses := true, apart := false, narrowed := true }
def FnExactInverseInUptoSaid : Prop := fnExactInverseInUptoRow.holds Try.pinned (OpenSpec.upto fnExactInverseInSpec)

/-- 'laws.FnExactSquareTimes', WHERE WHAT IT READS IS OF BULK AT MOST 1048576: true; the input reads as it did. -/
def fnExactSquareTimesUptoRow : OpenClaim := { program := "ytodgfmbnoeameac", sum := "9e86e4194bdd8612f1a6a00e449c4f7a4ae5b2544811230dc8e6bd7a19dc9053", func := "loop.example/g01144/laws.FnExactSquareTimes", spec := "fnExactSquareTimes", unfollowed := true, recurses := true, apart := false, narrowed := true }
def FnExactSquareTimesUptoSaid : Prop := fnExactSquareTimesUptoRow.holds Try.pinned (OpenSpec.upto fnExactSquareTimesSpec)

/-- 'laws.FnExactRootTimes', WHERE WHAT IT READS IS OF BULK AT MOST 1048576: true; the input reads as it did. -/
def fnExactRootTimesUptoRow : OpenClaim := { program := "ytodgfmbnoeameac", sum := "9e86e4194bdd8612f1a6a00e449c4f7a4ae5b2544811230dc8e6bd7a19dc9053", func := "loop.example/g01144/laws.FnExactRootTimes", spec := "fnExactRootTimes", unfollowed := true, recurses := true, apart := false, narrowed := true }
def FnExactRootTimesUptoSaid : Prop := fnExactRootTimesUptoRow.holds Try.pinned (OpenSpec.upto fnExactRootTimesSpec)

/-- 'laws.FnExactOrderIn', WHERE WHAT IT READS IS OF BULK AT MOST 1048576: true; the input reads as it did. -/
def fnExactOrderInUptoRow : OpenClaim := { program := "ytodgfmbnoeameac", sum := "9e86e4194bdd8612f1a6a00e449c4f7a4ae5b2544811230dc8e6bd7a19dc9053", func := "loop.example/g01144/laws.FnExactOrderIn", spec := "fnExactOrderIn", unfollowed := true, recurses := true, apart := false, narrowed := true }
def FnExactOrderInUptoSaid : Prop := fnExactOrderInUptoRow.holds Try.pinned (OpenSpec.upto fnExactOrderInSpec)

/-- 'laws.FnExactFirstPrimitive', WHERE WHAT IT READS IS OF BULK AT MOST 1048576: true; the input reads as it did. -/
def fnExactFirstPrimitiveUptoRow : OpenClaim := { program := "ytodgfmbnoeameac", sum := "9e86e4194bdd8612f1a6a00e449c4f7a4ae5b2544811230dc8e6bd7a19dc9053", func := "loop.example/g01144/laws.FnExactFirstPrimitive", spec := "fnExactFirstPrimitive", unfollowed := true, recurses := true, apart := false, narrowed := true }
def FnExactFirstPrimitiveUptoSaid : Prop := fnExactFirstPrimitiveUptoRow.holds Try.pinned (OpenSpec.upto fnExactFirstPrimitiveSpec)

/-- 'laws.FnExactLogIn', WHERE WHAT IT READS IS OF BULK AT MOST 1048576: true; the input reads as it did. -/
def fnExactLogInUptoRow : OpenClaim := { program := "ytodgfmbnoeameac", sum := "9e86e4194bdd8612f1a6a00e449c4f7a4ae5b2544811230dc8e6bd7a19dc9053", func := "loop.example/g01144/laws.FnExactLogIn", spec := "fnExactLogIn", unfollowed := true, recurses := true, apart := false, narrowed := true }
def FnExactLogInUptoSaid : Prop := fnExactLogInUptoRow.holds Try.pinned (OpenSpec.upto fnExactLogInSpec)

/-- 'laws.FnExactTraceIn', WHERE WHAT IT READS IS OF BULK AT MOST 1048576: true; the input reads as it did. -/
def fnExactTraceInUptoRow : OpenClaim := { program := "ytodgfmbnoeameac", sum := "9e86e4194bdd8612f1a6a00e449c4f7a4ae5b2544811230dc8e6bd7a19dc9053", func := "loop.example/g01144/laws.FnExactTraceIn", spec := "fnExactTraceIn", unfollowed := true, recurses := true, apart := false, narrowed := true }
def FnExactTraceInUptoSaid : Prop := fnExactTraceInUptoRow.holds Try.pinned (OpenSpec.upto fnExactTraceInSpec)

/-- 'laws.FnExactConjugatesIn', WHERE WHAT IT READS IS OF BULK AT MOST 1048576: true; the input reads as it did. -/
def fnExactConjugatesInUptoRow : OpenClaim := { program := "ytodgfmbnoeameac", sum := "9e86e4194bdd8612f1a6a00e449c4f7a4ae5b2544811230dc8e6bd7a19dc9053", func := "loop.example/g01144/laws.FnExactConjugatesIn", spec := "fnExactConjugatesIn", unfollowed := true, recurses := true, apart := false, narrowed := true }
def FnExactConjugatesInUptoSaid : Prop := fnExactConjugatesInUptoRow.holds Try.pinned (OpenSpec.upto fnExactConjugatesInSpec)

/-- 'laws.FnExactSplitIn', WHERE WHAT IT READS IS OF BULK AT MOST 1048576: true; the input reads as it did. -/
def fnExactSplitInUptoRow : OpenClaim := { program := "ytodgfmbnoeameac", sum := "9e86e4194bdd8612f1a6a00e449c4f7a4ae5b2544811230dc8e6bd7a19dc9053", func := "loop.example/g01144/laws.FnExactSplitIn", spec := "fnExactSplitIn", unfollowed := true, recurses := true, apart := false, narrowed := true }
def FnExactSplitInUptoSaid : Prop := fnExactSplitInUptoRow.holds Try.pinned (OpenSpec.upto fnExactSplitInSpec)

end Rows
end Go.Proofs.Ytodgfmbnoeameac
