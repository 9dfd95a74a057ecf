/-
  No cell of these rows narrows 'for every input' (looked for: loops, veiled, ifaces, maps, wideKeys, modest, calm, conditions, laid).
  DERIVED. THE GIVEN ROWS OF THIS SEAT. 6 by the template 'for every input the law returns true; each argument reads behind the call as it read before'; 0 by the template 'total and deterministic' (their statements: YtfppacahjdpamabTotals.lean).
  GIVEN WITH THE SEED: the statements are not yours to turn. If you find one false, say at which input.
  Laid BY PROGRAM, IN A SANDBOX (cutbox-rows.mjs): the forced cells as the released guide's own fill.sh prints them over the translation 521f6d8482828f11… (all of the seat's roots in one cut). By AI agents, Wed Nov 11 2026. No macro, syntax, notation, axiom, sorry.
-/
import Derived.Test.YtfppacahjdpamabChecked
import GoSem.Claim
import GoSem.ClaimJoined
import GoSem.ClaimMapViews
import Derived.JoinedTies
import Derived.KernelRfl
namespace Go.Proofs.Ytfppacahjdpamab
/- THE CELL 'sum', in the pinned program and in every row, IS THE sha256 OF THE DUMP (.gsa) THAT YtfppacahjdpamabProg.lean LOADS. Nothing in Lean hashes anything: it is a label: what it is worth is what the hold of that sum in a sandbox is worth. -/
noncomputable def Try.pinned : Pinned := { name := "ytfppacahjdpamab", sum := "521f6d8482828f11060326eba2bb3f8b466adab578594ed34b597cd393096393", checked := Try.checked }
namespace Rows
def none {H : Type} : Left H := { results := [], args := [] }

/-- 'laws.FnExactWordMatrix': WHATEVER THE INPUT: true; the input reads as it did. -/
def fnExactWordMatrixSpec : ChangeSpec := { name := "fnExactWordMatrix", fn := fun _ => fun
  | [d1, d2] => { results := [.lit (.bool true)], args := [d1, d2] }
  | _ => none }
def fnExactWordMatrixRow : OpenClaim := { program := "ytfppacahjdpamab", sum := "521f6d8482828f11060326eba2bb3f8b466adab578594ed34b597cd393096393", func := "loop.example/g01144/laws.FnExactWordMatrix", spec := "fnExactWordMatrix", unfollowed := true, recurses := true, apart := false }
def FnExactWordMatrixSaid : Prop := fnExactWordMatrixRow.holds Try.pinned (OpenSpec.ofChange fnExactWordMatrixSpec)

/-- ITS FALSE NEIGHBOUR: 'it returns false'. Refute it at one input. -/
def fnExactWordMatrixWrong : ChangeSpec := { name := "fnExactWordMatrix", fn := fun _ => fun
  | [d1, d2] => { results := [.lit (.bool false)], args := [d1, d2] }
  | _ => none }
def FnExactWordMatrixWrongFalsely : Prop := fnExactWordMatrixRow.holds Try.pinned (OpenSpec.ofChange fnExactWordMatrixWrong)

/-- 'laws.FnExactSquareWord': WHATEVER THE INPUT: true; the input reads as it did. -/
def fnExactSquareWordSpec : ChangeSpec := { name := "fnExactSquareWord", fn := fun _ => fun
  | [d1, d2, d3] => { results := [.lit (.bool true)], args := [d1, d2, d3] }
  | _ => none }
def fnExactSquareWordRow : OpenClaim := { program := "ytfppacahjdpamab", sum := "521f6d8482828f11060326eba2bb3f8b466adab578594ed34b597cd393096393", func := "loop.example/g01144/laws.FnExactSquareWord", spec := "fnExactSquareWord", unfollowed := true, recurses := true, apart := false }
def FnExactSquareWordSaid : Prop := fnExactSquareWordRow.holds Try.pinned (OpenSpec.ofChange fnExactSquareWordSpec)

/-- ITS FALSE NEIGHBOUR: 'it returns false'. Refute it at one input. -/
def fnExactSquareWordWrong : ChangeSpec := { name := "fnExactSquareWord", fn := fun _ => fun
  | [d1, d2, d3] => { results := [.lit (.bool false)], args := [d1, d2, d3] }
  | _ => none }
def FnExactSquareWordWrongFalsely : Prop := fnExactSquareWordRow.holds Try.pinned (OpenSpec.ofChange fnExactSquareWordWrong)

/-- 'laws.FnExactSameGabidulin': WHATEVER THE INPUT: true; the input reads as it did. -/
def fnExactSameGabidulinSpec : ChangeSpec := { name := "fnExactSameGabidulin", fn := fun _ => fun
  | [d1, d2] => { results := [.lit (.bool true)], args := [d1, d2] }
  | _ => none }
def fnExactSameGabidulinRow : OpenClaim := { program := "ytfppacahjdpamab", sum := "521f6d8482828f11060326eba2bb3f8b466adab578594ed34b597cd393096393", func := "loop.example/g01144/laws.FnExactSameGabidulin", spec := "fnExactSameGabidulin", apart := false }
def FnExactSameGabidulinSaid : Prop := fnExactSameGabidulinRow.holds Try.pinned (OpenSpec.ofChange fnExactSameGabidulinSpec)

/-- ITS FALSE NEIGHBOUR: 'it returns false'. Refute it at one input. -/
def fnExactSameGabidulinWrong : ChangeSpec := { name := "fnExactSameGabidulin", fn := fun _ => fun
  | [d1, d2] => { results := [.lit (.bool false)], args := [d1, d2] }
  | _ => none }
def FnExactSameGabidulinWrongFalsely : Prop := fnExactSameGabidulinRow.holds Try.pinned (OpenSpec.ofChange fnExactSameGabidulinWrong)

/-- 'laws.FnExactFirstGabidulin': WHATEVER THE INPUT: true; the input reads as it did. -/
def fnExactFirstGabidulinSpec : ChangeSpec := { name := "fnExactFirstGabidulin", fn := fun _ => fun
  | [d1, d2, d3] => { results := [.lit (.bool true)], args := [d1, d2, d3] }
  | _ => none }
def fnExactFirstGabidulinRow : OpenClaim := { program := "ytfppacahjdpamab", sum := "521f6d8482828f11060326eba2bb3f8b466adab578594ed34b597cd393096393", func := "loop.example/g01144/laws.FnExactFirstGabidulin", spec := "fnExactFirstGabidulin", unfollowed := true, recurses := true, apart := false }
def FnExactFirstGabidulinSaid : Prop := fnExactFirstGabidulinRow.holds Try.pinned (OpenSpec.ofChange fnExactFirstGabidulinSpec)

/-- ITS FALSE NEIGHBOUR: 'it returns false'. Refute it at one input. -/
def fnExactFirstGabidulinWrong : ChangeSpec := { name := "fnExactFirstGabidulin", fn := fun _ => fun
  | [d1, d2, d3] => { results := [.lit (.bool false)], args := [d1, d2, d3] }
  | _ => none }
def FnExactFirstGabidulinWrongFalsely : Prop := fnExactFirstGabidulinRow.holds Try.pinned (OpenSpec.ofChange fnExactFirstGabidulinWrong)

/-- 'laws.FnExactFoldLinear': WHATEVER THE INPUT: true; the input reads as it did. -/
def fnExactFoldLinearSpec : ChangeSpec := { name := "fnExactFoldLinear", fn := fun _ => fun
  | [d1, d2] => { results := [.lit (.bool true)], args := [d1, d2] }
  | _ => none }
def fnExactFoldLinearRow : OpenClaim := { program := "ytfppacahjdpamab", sum := "521f6d8482828f11060326eba2bb3f8b466adab578594ed34b597cd393096393", func := "loop.example/g01144/laws.FnExactFoldLinear", spec := "fnExactFoldLinear", unfollowed := true, recurses := true, apart := false }
def FnExactFoldLinearSaid : Prop := fnExactFoldLinearRow.holds Try.pinned (OpenSpec.ofChange fnExactFoldLinearSpec)

/-- ITS FALSE NEIGHBOUR: 'it returns false'. Refute it at one input. -/
def fnExactFoldLinearWrong : ChangeSpec := { name := "fnExactFoldLinear", fn := fun _ => fun
  | [d1, d2] => { results := [.lit (.bool false)], args := [d1, d2] }
  | _ => none }
def FnExactFoldLinearWrongFalsely : Prop := fnExactFoldLinearRow.holds Try.pinned (OpenSpec.ofChange fnExactFoldLinearWrong)

/-- 'laws.FnExactAdjointLinear': WHATEVER THE INPUT: true; the input reads as it did. -/
def fnExactAdjointLinearSpec : ChangeSpec := { name := "fnExactAdjointLinear", fn := fun _ => fun
  | [d1, d2] => { results := [.lit (.bool true)], args := [d1, d2] }
  | _ => none }
def fnExactAdjointLinearRow : OpenClaim := { program := "ytfppacahjdpamab", sum := "521f6d8482828f11060326eba2bb3f8b466adab578594ed34b597cd393096393", func := "loop.example/g01144/laws.FnExactAdjointLinear", spec := "fnExactAdjointLinear", unfollowed := true, recurses := true, apart := false }
def FnExactAdjointLinearSaid : Prop := fnExactAdjointLinearRow.holds Try.pinned (OpenSpec.ofChange fnExactAdjointLinearSpec)

/-- ITS FALSE NEIGHBOUR: 'it returns false'. Refute it at one input. -/
def fnExactAdjointLinearWrong : ChangeSpec := { name := "fnExactAdjointLinear", fn := fun _ => fun
  | [d1, d2] => { results := [.lit (.bool false)], args := [d1, d2] }
  | _ => none }
def FnExactAdjointLinearWrongFalsely : Prop := fnExactAdjointLinearRow.holds Try.pinned (OpenSpec.ofChange fnExactAdjointLinearWrong)

/- THE SECOND FORM. 'bulk': how many values and letters a reading holds, each counted each time it is reached (what is shared counts as often as it is met; a slice's spare places count too). A statement '..UptoSaid' is the law's where the arguments, and the package variables that the reading takes, are together of bulk at most 1048576: NARROWER than '..Said'. Prove '..Said' where nothing that the law and all that it calls make is longer than what came in: it says more and counts as full. Else prove '..UptoSaid'. A law counts once. -/
mutual
def uptoBulk {H : Type} : DataW H → Nat
  | .lit (.string bytes) => bytes.length + 1
  | .lit _ => 1
  | .nil => 1
  | .ptr d => uptoBulk d + 1
  | .slice elems spare => uptoBulkAll elems + uptoBulkAll spare + 1
  | .agg parts => uptoBulkAll parts + 1
  | .iface _ d => uptoBulk d + 1
  | .map entries => uptoBulkEntries entries + 1
  | .held _ => 1
def uptoBulkAll {H : Type} : List (DataW H) → Nat
  | [] => 0
  | d :: r => uptoBulk d + uptoBulkAll r
def uptoBulkEntries {H : Type} : List (Lit × DataW H) → Nat
  | [] => 0
  | x :: r => uptoBulkEntry x + uptoBulkEntries r
def uptoBulkEntry {H : Type} : Lit × DataW H → Nat
  | (.string bytes, d) => bytes.length + uptoBulk d + 1
  | (_, d) => uptoBulk d + 1
 end
def uptoSmall : (H : Type) → List (DataW H) → Bool := fun _ ds => decide (uptoBulkAll ds ≤ 1048576)
def OpenSpec.upto (s : _root_.Go.ChangeSpec) : _root_.Go.OpenSpec := { _root_.Go.OpenSpec.ofChange s with cond := some uptoSmall }

/-- 'laws.FnExactWordMatrix', WHERE WHAT IT READS IS OF BULK AT MOST 1048576: true; the input reads as it did. -/
def fnExactWordMatrixUptoRow : OpenClaim := { program := "ytfppacahjdpamab", sum := "521f6d8482828f11060326eba2bb3f8b466adab578594ed34b597cd393096393", func := "loop.example/g01144/laws.FnExactWordMatrix", spec := "fnExactWordMatrix", unfollowed := true, recurses := true, apart := false, narrowed := true }
def FnExactWordMatrixUptoSaid : Prop := fnExactWordMatrixUptoRow.holds Try.pinned (OpenSpec.upto fnExactWordMatrixSpec)

/-- 'laws.FnExactSquareWord', WHERE WHAT IT READS IS OF BULK AT MOST 1048576: true; the input reads as it did. -/
def fnExactSquareWordUptoRow : OpenClaim := { program := "ytfppacahjdpamab", sum := "521f6d8482828f11060326eba2bb3f8b466adab578594ed34b597cd393096393", func := "loop.example/g01144/laws.FnExactSquareWord", spec := "fnExactSquareWord", unfollowed := true, recurses := true, apart := false, narrowed := true }
def FnExactSquareWordUptoSaid : Prop := fnExactSquareWordUptoRow.holds Try.pinned (OpenSpec.upto fnExactSquareWordSpec)

/-- 'laws.FnExactSameGabidulin', WHERE WHAT IT READS IS OF BULK AT MOST 1048576: true; the input reads as it did. -/
def fnExactSameGabidulinUptoRow : OpenClaim := { program := "ytfppacahjdpamab", sum := "521f6d8482828f11060326eba2bb3f8b466adab578594ed34b597cd393096393", func := "loop.example/g01144/laws.FnExactSameGabidulin", spec := "fnExactSameGabidulin", apart := false, narrowed := true }
def FnExactSameGabidulinUptoSaid : Prop := fnExactSameGabidulinUptoRow.holds Try.pinned (OpenSpec.upto fnExactSameGabidulinSpec)

/-- 'laws.FnExactFirstGabidulin', WHERE WHAT IT READS IS OF BULK AT MOST 1048576: true; the input reads as it did. -/
def fnExactFirstGabidulinUptoRow : OpenClaim := { program := "ytfppacahjdpamab", sum := "521f6d8482828f11060326eba2bb3f8b466adab578594ed34b597cd393096393", func := "loop.example/g01144/laws.FnExactFirstGabidulin", spec := "fnExactFirstGabidulin", unfollowed := true, recurses := true, apart := false, narrowed := true }
def FnExactFirstGabidulinUptoSaid : Prop := fnExactFirstGabidulinUptoRow.holds Try.pinned (OpenSpec.upto fnExactFirstGabidulinSpec)

/-- 'laws.FnExactFoldLinear', WHERE WHAT IT READS IS OF BULK AT MOST 1048576: true; the input reads as it did. -/
def fnExactFoldLinearUptoRow : OpenClaim := { program := "ytfppacahjdpamab", sum := "521f6d8482828f11060326eba2bb3f8b466adab578594ed34b597cd393096393", func := "loop.example/g01144/laws.FnExactFoldLinear", spec := "fnExactFoldLinear", unfollowed := true, recurses := true, apart := false, narrowed := true }
def FnExactFoldLinearUptoSaid : Prop := fnExactFoldLinearUptoRow.holds Try.pinned (OpenSpec.upto fnExactFoldLinearSpec)

/-- 'laws.FnExactAdjointLinear', WHERE WHAT IT READS IS OF BULK AT MOST 1048576: true; the input reads as it did. -/
def fnExactAdjointLinearUptoRow : OpenClaim := { program := "ytfppacahjdpamab", sum := "521f6d8482828f11060326eba2bb3f8b466adab578594ed34b597cd393096393", func := "loop.example/g01144/laws.FnExactAdjointLinear", spec := "fnExactAdjointLinear", unfollowed := true, recurses := true, apart := false, narrowed := true }
def FnExactAdjointLinearUptoSaid : Prop := fnExactAdjointLinearUptoRow.holds Try.pinned (OpenSpec.upto fnExactAdjointLinearSpec)

end Rows
end Go.Proofs.Ytfppacahjdpamab
