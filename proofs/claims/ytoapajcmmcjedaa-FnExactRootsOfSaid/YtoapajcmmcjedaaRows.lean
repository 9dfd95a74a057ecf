/-
  No cell of these rows narrows 'for every input' (looked for: loops, veiled, ifaces, maps, wideKeys, modest, calm, conditions, laid).
  DERIVED. THE GIVEN ROWS OF THIS SEAT. 12 by the template 'for every input the law returns true; each argument reads behind the call as it read before'; 0 by the template 'total and deterministic' (their statements: YtoapajcmmcjedaaTotals.lean).
  GIVEN WITH THE SEED: the statements are not yours to turn. If you find one false, say at which input.
  Laid BY PROGRAM, IN A SANDBOX (cutbox-rows.mjs): the forced cells as the released guide's own fill.sh prints them over the translation 68317980b2b581a1… (all of the seat's roots in one cut). By AI agents, Wed Nov 11 2026. No macro, syntax, notation, axiom, sorry.
-/
import Derived.Test.YtoapajcmmcjedaaChecked
import GoSem.Claim
import GoSem.ClaimJoined
import GoSem.ClaimMapViews
import Derived.JoinedTies
import Derived.KernelRfl
namespace Go.Proofs.Ytoapajcmmcjedaa
/- THE CELL 'sum', in the pinned program and in every row, IS THE sha256 OF THE DUMP (.gsa) THAT YtoapajcmmcjedaaProg.lean LOADS. Nothing in Lean hashes anything: it is a label: what it is worth is what the hold of that sum in a sandbox is worth. -/
noncomputable def Try.pinned : Pinned := { name := "ytoapajcmmcjedaa", sum := "68317980b2b581a19d9bdf9661d318e937a2d8808818db59ef0feb7fb65a554f", checked := Try.checked }
namespace Rows
def none {H : Type} : Left H := { results := [], args := [] }

/-- 'laws.FnExactAnnihilatorOf': WHATEVER THE INPUT: true; the input reads as it did. -/
def fnExactAnnihilatorOfSpec : ChangeSpec := { name := "fnExactAnnihilatorOf", fn := fun _ => fun
  | [d1, d2] => { results := [.lit (.bool true)], args := [d1, d2] }
  | _ => none }
def fnExactAnnihilatorOfRow : OpenClaim := { program := "ytoapajcmmcjedaa", sum := "68317980b2b581a19d9bdf9661d318e937a2d8808818db59ef0feb7fb65a554f", func := "loop.example/g01144/laws.FnExactAnnihilatorOf", spec := "fnExactAnnihilatorOf", unfollowed := true, recurses := true, apart := false }
def FnExactAnnihilatorOfSaid : Prop := fnExactAnnihilatorOfRow.holds Try.pinned (OpenSpec.ofChange fnExactAnnihilatorOfSpec)

/-- ITS FALSE NEIGHBOUR: 'it returns false'. Refute it at one input. -/
def fnExactAnnihilatorOfWrong : ChangeSpec := { name := "fnExactAnnihilatorOf", fn := fun _ => fun
  | [d1, d2] => { results := [.lit (.bool false)], args := [d1, d2] }
  | _ => none }
def FnExactAnnihilatorOfWrongFalsely : Prop := fnExactAnnihilatorOfRow.holds Try.pinned (OpenSpec.ofChange fnExactAnnihilatorOfWrong)

/-- 'laws.FnExactInterpolateLinear': WHATEVER THE INPUT: true; the input reads as it did. -/
def fnExactInterpolateLinearSpec : ChangeSpec := { name := "fnExactInterpolateLinear", fn := fun _ => fun
  | [d1, d2, d3] => { results := [.lit (.bool true)], args := [d1, d2, d3] }
  | _ => none }
def fnExactInterpolateLinearRow : OpenClaim := { program := "ytoapajcmmcjedaa", sum := "68317980b2b581a19d9bdf9661d318e937a2d8808818db59ef0feb7fb65a554f", func := "loop.example/g01144/laws.FnExactInterpolateLinear", spec := "fnExactInterpolateLinear", unfollowed := true, recurses := true, apart := false }
def FnExactInterpolateLinearSaid : Prop := fnExactInterpolateLinearRow.holds Try.pinned (OpenSpec.ofChange fnExactInterpolateLinearSpec)

/-- ITS FALSE NEIGHBOUR: 'it returns false'. Refute it at one input. -/
def fnExactInterpolateLinearWrong : ChangeSpec := { name := "fnExactInterpolateLinear", fn := fun _ => fun
  | [d1, d2, d3] => { results := [.lit (.bool false)], args := [d1, d2, d3] }
  | _ => none }
def FnExactInterpolateLinearWrongFalsely : Prop := fnExactInterpolateLinearRow.holds Try.pinned (OpenSpec.ofChange fnExactInterpolateLinearWrong)

/-- 'laws.FnExactDivideRight': WHATEVER THE INPUT: true; the input reads as it did. -/
def fnExactDivideRightSpec : ChangeSpec := { name := "fnExactDivideRight", fn := fun _ => fun
  | [d1, d2, d3] => { results := [.lit (.bool true)], args := [d1, d2, d3] }
  | _ => none }
def fnExactDivideRightRow : OpenClaim := { program := "ytoapajcmmcjedaa", sum := "68317980b2b581a19d9bdf9661d318e937a2d8808818db59ef0feb7fb65a554f", func := "loop.example/g01144/laws.FnExactDivideRight", spec := "fnExactDivideRight", unfollowed := true, recurses := true, apart := false }
def FnExactDivideRightSaid : Prop := fnExactDivideRightRow.holds Try.pinned (OpenSpec.ofChange fnExactDivideRightSpec)

/-- ITS FALSE NEIGHBOUR: 'it returns false'. Refute it at one input. -/
def fnExactDivideRightWrong : ChangeSpec := { name := "fnExactDivideRight", fn := fun _ => fun
  | [d1, d2, d3] => { results := [.lit (.bool false)], args := [d1, d2, d3] }
  | _ => none }
def FnExactDivideRightWrongFalsely : Prop := fnExactDivideRightRow.holds Try.pinned (OpenSpec.ofChange fnExactDivideRightWrong)

/-- 'laws.FnExactDivideLeft': WHATEVER THE INPUT: true; the input reads as it did. -/
def fnExactDivideLeftSpec : ChangeSpec := { name := "fnExactDivideLeft", fn := fun _ => fun
  | [d1, d2, d3] => { results := [.lit (.bool true)], args := [d1, d2, d3] }
  | _ => none }
def fnExactDivideLeftRow : OpenClaim := { program := "ytoapajcmmcjedaa", sum := "68317980b2b581a19d9bdf9661d318e937a2d8808818db59ef0feb7fb65a554f", func := "loop.example/g01144/laws.FnExactDivideLeft", spec := "fnExactDivideLeft", unfollowed := true, recurses := true, apart := false }
def FnExactDivideLeftSaid : Prop := fnExactDivideLeftRow.holds Try.pinned (OpenSpec.ofChange fnExactDivideLeftSpec)

/-- ITS FALSE NEIGHBOUR: 'it returns false'. Refute it at one input. -/
def fnExactDivideLeftWrong : ChangeSpec := { name := "fnExactDivideLeft", fn := fun _ => fun
  | [d1, d2, d3] => { results := [.lit (.bool false)], args := [d1, d2, d3] }
  | _ => none }
def FnExactDivideLeftWrongFalsely : Prop := fnExactDivideLeftRow.holds Try.pinned (OpenSpec.ofChange fnExactDivideLeftWrong)

/-- 'laws.FnExactGreatestRight': WHATEVER THE INPUT: true; the input reads as it did. -/
def fnExactGreatestRightSpec : ChangeSpec := { name := "fnExactGreatestRight", fn := fun _ => fun
  | [d1, d2, d3] => { results := [.lit (.bool true)], args := [d1, d2, d3] }
  | _ => none }
def fnExactGreatestRightRow : OpenClaim := { program := "ytoapajcmmcjedaa", sum := "68317980b2b581a19d9bdf9661d318e937a2d8808818db59ef0feb7fb65a554f", func := "loop.example/g01144/laws.FnExactGreatestRight", spec := "fnExactGreatestRight", unfollowed := true, recurses := true, apart := false }
def FnExactGreatestRightSaid : Prop := fnExactGreatestRightRow.holds Try.pinned (OpenSpec.ofChange fnExactGreatestRightSpec)

/-- ITS FALSE NEIGHBOUR: 'it returns false'. Refute it at one input. -/
def fnExactGreatestRightWrong : ChangeSpec := { name := "fnExactGreatestRight", fn := fun _ => fun
  | [d1, d2, d3] => { results := [.lit (.bool false)], args := [d1, d2, d3] }
  | _ => none }
def FnExactGreatestRightWrongFalsely : Prop := fnExactGreatestRightRow.holds Try.pinned (OpenSpec.ofChange fnExactGreatestRightWrong)

/-- 'laws.FnExactLeastLeft': WHATEVER THE INPUT: true; the input reads as it did. -/
def fnExactLeastLeftSpec : ChangeSpec := { name := "fnExactLeastLeft", fn := fun _ => fun
  | [d1, d2, d3] => { results := [.lit (.bool true)], args := [d1, d2, d3] }
  | _ => none }
def fnExactLeastLeftRow : OpenClaim := { program := "ytoapajcmmcjedaa", sum := "68317980b2b581a19d9bdf9661d318e937a2d8808818db59ef0feb7fb65a554f", func := "loop.example/g01144/laws.FnExactLeastLeft", spec := "fnExactLeastLeft", unfollowed := true, recurses := true, apart := false }
def FnExactLeastLeftSaid : Prop := fnExactLeastLeftRow.holds Try.pinned (OpenSpec.ofChange fnExactLeastLeftSpec)

/-- ITS FALSE NEIGHBOUR: 'it returns false'. Refute it at one input. -/
def fnExactLeastLeftWrong : ChangeSpec := { name := "fnExactLeastLeft", fn := fun _ => fun
  | [d1, d2, d3] => { results := [.lit (.bool false)], args := [d1, d2, d3] }
  | _ => none }
def FnExactLeastLeftWrongFalsely : Prop := fnExactLeastLeftRow.holds Try.pinned (OpenSpec.ofChange fnExactLeastLeftWrong)

/-- 'laws.FnExactFoldLinear': WHATEVER THE INPUT: true; the input reads as it did. -/
def fnExactFoldLinearSpec : ChangeSpec := { name := "fnExactFoldLinear", fn := fun _ => fun
  | [d1, d2] => { results := [.lit (.bool true)], args := [d1, d2] }
  | _ => none }
def fnExactFoldLinearRow : OpenClaim := { program := "ytoapajcmmcjedaa", sum := "68317980b2b581a19d9bdf9661d318e937a2d8808818db59ef0feb7fb65a554f", func := "loop.example/g01144/laws.FnExactFoldLinear", spec := "fnExactFoldLinear", unfollowed := true, recurses := true, apart := false }
def FnExactFoldLinearSaid : Prop := fnExactFoldLinearRow.holds Try.pinned (OpenSpec.ofChange fnExactFoldLinearSpec)

/-- ITS FALSE NEIGHBOUR: 'it returns false'. Refute it at one input. -/
def fnExactFoldLinearWrong : ChangeSpec := { name := "fnExactFoldLinear", fn := fun _ => fun
  | [d1, d2] => { results := [.lit (.bool false)], args := [d1, d2] }
  | _ => none }
def FnExactFoldLinearWrongFalsely : Prop := fnExactFoldLinearRow.holds Try.pinned (OpenSpec.ofChange fnExactFoldLinearWrong)

/-- 'laws.FnExactAdjointLinear': WHATEVER THE INPUT: true; the input reads as it did. -/
def fnExactAdjointLinearSpec : ChangeSpec := { name := "fnExactAdjointLinear", fn := fun _ => fun
  | [d1, d2] => { results := [.lit (.bool true)], args := [d1, d2] }
  | _ => none }
def fnExactAdjointLinearRow : OpenClaim := { program := "ytoapajcmmcjedaa", sum := "68317980b2b581a19d9bdf9661d318e937a2d8808818db59ef0feb7fb65a554f", func := "loop.example/g01144/laws.FnExactAdjointLinear", spec := "fnExactAdjointLinear", unfollowed := true, recurses := true, apart := false }
def FnExactAdjointLinearSaid : Prop := fnExactAdjointLinearRow.holds Try.pinned (OpenSpec.ofChange fnExactAdjointLinearSpec)

/-- ITS FALSE NEIGHBOUR: 'it returns false'. Refute it at one input. -/
def fnExactAdjointLinearWrong : ChangeSpec := { name := "fnExactAdjointLinear", fn := fun _ => fun
  | [d1, d2] => { results := [.lit (.bool false)], args := [d1, d2] }
  | _ => none }
def FnExactAdjointLinearWrongFalsely : Prop := fnExactAdjointLinearRow.holds Try.pinned (OpenSpec.ofChange fnExactAdjointLinearWrong)

/-- 'laws.FnExactRootsOf': WHATEVER THE INPUT: true; the input reads as it did. -/
def fnExactRootsOfSpec : ChangeSpec := { name := "fnExactRootsOf", fn := fun _ => fun
  | [d1, d2] => { results := [.lit (.bool true)], args := [d1, d2] }
  | _ => none }
def fnExactRootsOfRow : OpenClaim := { program := "ytoapajcmmcjedaa", sum := "68317980b2b581a19d9bdf9661d318e937a2d8808818db59ef0feb7fb65a554f", func := "loop.example/g01144/laws.FnExactRootsOf", spec := "fnExactRootsOf", unfollowed := true, recurses := true, apart := false }
def FnExactRootsOfSaid : Prop := fnExactRootsOfRow.holds Try.pinned (OpenSpec.ofChange fnExactRootsOfSpec)

/-- ITS FALSE NEIGHBOUR: 'it returns false'. Refute it at one input. -/
def fnExactRootsOfWrong : ChangeSpec := { name := "fnExactRootsOf", fn := fun _ => fun
  | [d1, d2] => { results := [.lit (.bool false)], args := [d1, d2] }
  | _ => none }
def FnExactRootsOfWrongFalsely : Prop := fnExactRootsOfRow.holds Try.pinned (OpenSpec.ofChange fnExactRootsOfWrong)

/-- 'laws.FnExactInverseLinear': WHATEVER THE INPUT: true; the input reads as it did. -/
def fnExactInverseLinearSpec : ChangeSpec := { name := "fnExactInverseLinear", fn := fun _ => fun
  | [d1, d2] => { results := [.lit (.bool true)], args := [d1, d2] }
  | _ => none }
def fnExactInverseLinearRow : OpenClaim := { program := "ytoapajcmmcjedaa", sum := "68317980b2b581a19d9bdf9661d318e937a2d8808818db59ef0feb7fb65a554f", func := "loop.example/g01144/laws.FnExactInverseLinear", spec := "fnExactInverseLinear", unfollowed := true, recurses := true, apart := false }
def FnExactInverseLinearSaid : Prop := fnExactInverseLinearRow.holds Try.pinned (OpenSpec.ofChange fnExactInverseLinearSpec)

/-- ITS FALSE NEIGHBOUR: 'it returns false'. Refute it at one input. -/
def fnExactInverseLinearWrong : ChangeSpec := { name := "fnExactInverseLinear", fn := fun _ => fun
  | [d1, d2] => { results := [.lit (.bool false)], args := [d1, d2] }
  | _ => none }
def FnExactInverseLinearWrongFalsely : Prop := fnExactInverseLinearRow.holds Try.pinned (OpenSpec.ofChange fnExactInverseLinearWrong)

/-- 'laws.FnDivisions': WHATEVER THE INPUT: true; the input reads as it did. -/
def fnDivisionsSpec : ChangeSpec := { name := "fnDivisions", fn := fun _ => fun
  | [d1, d2] => { results := [.lit (.bool true)], args := [d1, d2] }
  | _ => none }
def fnDivisionsRow : OpenClaim := { program := "ytoapajcmmcjedaa", sum := "68317980b2b581a19d9bdf9661d318e937a2d8808818db59ef0feb7fb65a554f", func := "loop.example/g01144/laws.FnDivisions", spec := "fnDivisions", unfollowed := true, recurses := true, apart := false }
def FnDivisionsSaid : Prop := fnDivisionsRow.holds Try.pinned (OpenSpec.ofChange fnDivisionsSpec)

/-- ITS FALSE NEIGHBOUR: 'it returns false'. Refute it at one input. -/
def fnDivisionsWrong : ChangeSpec := { name := "fnDivisions", fn := fun _ => fun
  | [d1, d2] => { results := [.lit (.bool false)], args := [d1, d2] }
  | _ => none }
def FnDivisionsWrongFalsely : Prop := fnDivisionsRow.holds Try.pinned (OpenSpec.ofChange fnDivisionsWrong)

/-- 'laws.FnGreatestRight': WHATEVER THE INPUT: true; the input reads as it did. -/
def fnGreatestRightSpec : ChangeSpec := { name := "fnGreatestRight", fn := fun _ => fun
  | [d1, d2] => { results := [.lit (.bool true)], args := [d1, d2] }
  | _ => none }
def fnGreatestRightRow : OpenClaim := { program := "ytoapajcmmcjedaa", sum := "68317980b2b581a19d9bdf9661d318e937a2d8808818db59ef0feb7fb65a554f", func := "loop.example/g01144/laws.FnGreatestRight", spec := "fnGreatestRight", unfollowed := true, recurses := true, apart := false }
def FnGreatestRightSaid : Prop := fnGreatestRightRow.holds Try.pinned (OpenSpec.ofChange fnGreatestRightSpec)

/-- ITS FALSE NEIGHBOUR: 'it returns false'. Refute it at one input. -/
def fnGreatestRightWrong : ChangeSpec := { name := "fnGreatestRight", fn := fun _ => fun
  | [d1, d2] => { results := [.lit (.bool false)], args := [d1, d2] }
  | _ => none }
def FnGreatestRightWrongFalsely : Prop := fnGreatestRightRow.holds Try.pinned (OpenSpec.ofChange fnGreatestRightWrong)

/- THE SECOND FORM. 'bulk': how many values and letters a reading holds, each counted each time it is reached (what is shared counts as often as it is met; a slice's spare places count too). A statement '..UptoSaid' is the law's where the arguments, and the package variables that the reading takes, are together of bulk at most 1048576: NARROWER than '..Said'. Prove '..Said' where nothing that the law and all that it calls make is longer than what came in: it says more and counts as full. Else prove '..UptoSaid'. A law counts once. -/
mutual
def uptoBulk {H : Type} : DataW H → Nat
  | .lit (.string bytes) => bytes.length + 1
  | .lit _ => 1
  | .nil => 1
  | .ptr d => uptoBulk d + 1
  | .slice elems spare => uptoBulkAll elems + uptoBulkAll spare + 1
  | .agg parts => uptoBulkAll parts + 1
  | .iface _ d => uptoBulk d + 1
  | .map entries => uptoBulkEntries entries + 1
  | .held _ => 1
def uptoBulkAll {H : Type} : List (DataW H) → Nat
  | [] => 0
  | d :: r => uptoBulk d + uptoBulkAll r
def uptoBulkEntries {H : Type} : List (Lit × DataW H) → Nat
  | [] => 0
  | x :: r => uptoBulkEntry x + uptoBulkEntries r
def uptoBulkEntry {H : Type} : Lit × DataW H → Nat
  | (.string bytes, d) => bytes.length + uptoBulk d + 1
  | (_, d) => uptoBulk d + 1
 end
def uptoSmall : (H : Type) → List (DataW H) → Bool := fun _ ds => decide (uptoBulkAll ds ≤ 1048576)
def OpenSpec.upto (s : _root_.Go.ChangeSpec) : _root_.Go.OpenSpec := { _root_.Go.OpenSpec.ofChange s with cond := some uptoSmall }

/-- 'laws.FnExactAnnihilatorOf', WHERE WHAT IT READS IS OF BULK AT MOST 1048576: true; the input reads as it did. -/
def fnExactAnnihilatorOfUptoRow : OpenClaim := { program := "ytoapajcmmcjedaa", sum := "68317980b2b581a19d9bdf9661d318e937a2d8808818db59ef0feb7fb65a554f", func := "loop.example/g01144/laws.FnExactAnnihilatorOf", spec := "fnExactAnnihilatorOf", unfollowed := true, recurses := true, apart := false, narrowed := true }
def FnExactAnnihilatorOfUptoSaid : Prop := fnExactAnnihilatorOfUptoRow.holds Try.pinned (OpenSpec.upto fnExactAnnihilatorOfSpec)

/-- 'laws.FnExactInterpolateLinear', WHERE WHAT IT READS IS OF BULK AT MOST 1048576: true; the input reads as it did. -/
def fnExactInterpolateLinearUptoRow : OpenClaim := { program := "ytoapajcmmcjedaa", sum := "68317980b2b581a19d9bdf9661d318e937a2d8808818db59ef0feb7fb65a554f", func := "loop.example/g01144/laws.FnExactInterpolateLinear", spec := "fnExactInterpolateLinear", unfollowed := true, recurses := true, apart := false, narrowed := true }
def FnExactInterpolateLinearUptoSaid : Prop := fnExactInterpolateLinearUptoRow.holds Try.pinned (OpenSpec.upto fnExactInterpolateLinearSpec)

/-- 'laws.FnExactDivideRight', WHERE WHAT IT READS IS OF BULK AT MOST 1048576: true; the input reads as it did. -/
def fnExactDivideRightUptoRow : OpenClaim := { program := "ytoapajcmmcjedaa", sum := "68317980b2b581a19d9bdf9661d318e937a2d8808818db59ef0feb7fb65a554f", func := "loop.example/g01144/laws.FnExactDivideRight", spec := "fnExactDivideRight", unfollowed := true, recurses := true, apart := false, narrowed := true }
def FnExactDivideRightUptoSaid : Prop := fnExactDivideRightUptoRow.holds Try.pinned (OpenSpec.upto fnExactDivideRightSpec)

/-- 'laws.FnExactDivideLeft', WHERE WHAT IT READS IS OF BULK AT MOST 1048576: true; the input reads as it did. -/
def fnExactDivideLeftUptoRow : OpenClaim := { program := "ytoapajcmmcjedaa", sum := "68317980b2b581a19d9bdf9661d318e937a2d8808818db59ef0feb7fb65a554f", func := "loop.example/g01144/laws.FnExactDivideLeft", spec := "fnExactDivideLeft", unfollowed := true, recurses := true, apart := false, narrowed := true }
def FnExactDivideLeftUptoSaid : Prop := fnExactDivideLeftUptoRow.holds Try.pinned (OpenSpec.upto fnExactDivideLeftSpec)

/-- 'laws.FnExactGreatestRight', WHERE WHAT IT READS IS OF BULK AT MOST 1048576: true; the input reads as it did. -/
def fnExactGreatestRightUptoRow : OpenClaim := { program := "ytoapajcmmcjedaa", sum := "68317980b2b581a19d9bdf9661d318e937a2d8808818db59ef0feb7fb65a554f", func := "loop.example/g01144/laws.FnExactGreatestRight", spec := "fnExactGreatestRight", unfollowed := true, recurses := true, apart := false, narrowed := true }
def FnExactGreatestRightUptoSaid : Prop := fnExactGreatestRightUptoRow.holds Try.pinned (OpenSpec.upto fnExactGreatestRightSpec)

/-- 'laws.FnExactLeastLeft', WHERE WHAT IT READS IS OF BULK AT MOST 1048576: true; the input reads as it did. -/
def fnExactLeastLeftUptoRow : OpenClaim := { program := "ytoapajcmmcjedaa", sum := "68317980b2b581a19d9bdf9661d318e937a2d8808818db59ef0feb7fb65a554f", func := "loop.example/g01144/laws.FnExactLeastLeft", spec := "fnExactLeastLeft", unfollowed := true, recurses := true, apart := false, narrowed := true }
def FnExactLeastLeftUptoSaid : Prop := fnExactLeastLeftUptoRow.holds Try.pinned (OpenSpec.upto fnExactLeastLeftSpec)

/-- 'laws.FnExactFoldLinear', WHERE WHAT IT READS IS OF BULK AT MOST 1048576: true; the input reads as it did. -/
def fnExactFoldLinearUptoRow : OpenClaim := { program := "ytoapajcmmcjedaa", sum := "68317980b2b581a19d9bdf9661d318e937a2d8808818db59ef0feb7fb65a554f", func := "loop.example/g01144/laws.FnExactFoldLinear", spec := "fnExactFoldLinear", unfollowed := true, recurses := true, apart := false, narrowed := true }
def FnExactFoldLinearUptoSaid : Prop := fnExactFoldLinearUptoRow.holds Try.pinned (OpenSpec.upto fnExactFoldLinearSpec)

/-- 'laws.FnExactAdjointLinear', WHERE WHAT IT READS IS OF BULK AT MOST 1048576: true; the input reads as it did. -/
def fnExactAdjointLinearUptoRow : OpenClaim := { program := "ytoapajcmmcjedaa", sum := "68317980b2b581a19d9bdf9661d318e937a2d8808818db59ef0feb7fb65a554f", func := "loop.example/g01144/laws.FnExactAdjointLinear", spec := "fnExactAdjointLinear", unfollowed := true, recurses := true, apart := false, narrowed := true }
def FnExactAdjointLinearUptoSaid : Prop := fnExactAdjointLinearUptoRow.holds Try.pinned (OpenSpec.upto fnExactAdjointLinearSpec)

/-- 'laws.FnExactRootsOf', WHERE WHAT IT READS IS OF BULK AT MOST 1048576: true; the input reads as it did. -/
def fnExactRootsOfUptoRow : OpenClaim := { program := "ytoapajcmmcjedaa", sum := "68317980b2b581a19d9bdf9661d318e937a2d8808818db59ef0feb7fb65a554f", func := "loop.example/g01144/laws.FnExactRootsOf", spec := "fnExactRootsOf", unfollowed := true, recurses := true, apart := false, narrowed := true }
def FnExactRootsOfUptoSaid : Prop := fnExactRootsOfUptoRow.holds Try.pinned (OpenSpec.upto fnExactRootsOfSpec)

/-- 'laws.FnExactInverseLinear', WHERE WHAT IT READS IS OF BULK AT MOST 1048576: true; the input reads as it did. -/
def fnExactInverseLinearUptoRow : OpenClaim := { program := "ytoapajcmmcjedaa", sum := "68317980b2b581a19d9bdf9661d318e937a2d8808818db59ef0feb7fb65a554f", func := "loop.example/g01144/laws.FnExactInverseLinear", spec := "fnExactInverseLinear", unfollowed := true, recurses := true, apart := false, narrowed := true }
def FnExactInverseLinearUptoSaid : Prop := fnExactInverseLinearUptoRow.holds Try.pinned (OpenSpec.upto fnExactInverseLinearSpec)

/-- 'laws.FnDivisions', WHERE WHAT IT READS IS OF BULK AT MOST 1048576: true; the input reads as it did. -/
def fnDivisionsUptoRow : OpenClaim := { program := "ytoapajcmmcjedaa", sum := "68317980b2b581a19d9bdf9661d318e937a2d8808818db59ef0feb7fb65a554f", func := "loop.example/g01144/laws.FnDivisions", spec := "fnDivisions", unfollowed := true, recurses := true, apart := false, narrowed := true }
def FnDivisionsUptoSaid : Prop := fnDivisionsUptoRow.holds Try.pinned (OpenSpec.upto fnDivisionsSpec)

/-- 'laws.FnGreatestRight', WHERE WHAT IT READS IS OF BULK AT MOST 1048576: true; the input reads as it did. -/
def fnGreatestRightUptoRow : OpenClaim := { program := "ytoapajcmmcjedaa", sum := "68317980b2b581a19d9bdf9661d318e937a2d8808818db59ef0feb7fb65a554f", func := "loop.example/g01144/laws.FnGreatestRight", spec := "fnGreatestRight", unfollowed := true, recurses := true, apart := false, narrowed := true }
def FnGreatestRightUptoSaid : Prop := fnGreatestRightUptoRow.holds Try.pinned (OpenSpec.upto fnGreatestRightSpec)

end Rows
end Go.Proofs.Ytoapajcmmcjedaa
