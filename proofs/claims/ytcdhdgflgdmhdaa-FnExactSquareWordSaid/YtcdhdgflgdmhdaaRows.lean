/-
  No cell of these rows narrows 'for every input' (looked for: loops, veiled, ifaces, maps, wideKeys, modest, calm, conditions, laid).
  DERIVED. THE GIVEN ROWS OF THIS SEAT. 9 by the template 'for every input the law returns true; each argument reads behind the call as it read before'; 0 by the template 'total and deterministic' (their statements: YtcdhdgflgdmhdaaTotals.lean).
  GIVEN WITH THE SEED: the statements are not yours to turn. If you find one false, say at which input.
  Laid BY PROGRAM, IN A SANDBOX (cutbox-rows.mjs): the forced cells as the released guide's own fill.sh prints them over the translation 4daf7fdee7bd868b… (all of the seat's roots in one cut). By AI agents, Wed Nov 11 2026. No macro, syntax, notation, axiom, sorry.
-/
import Derived.Test.YtcdhdgflgdmhdaaChecked
import GoSem.Claim
import GoSem.ClaimJoined
import GoSem.ClaimMapViews
import Derived.JoinedTies
import Derived.KernelRfl
namespace Go.Proofs.Ytcdhdgflgdmhdaa
/- THE CELL 'sum', in the pinned program and in every row, IS THE sha256 OF THE DUMP (.gsa) THAT YtcdhdgflgdmhdaaProg.lean LOADS. Nothing in Lean hashes anything: it is a label: what it is worth is what the hold of that sum in a sandbox is worth. -/
noncomputable def Try.pinned : Pinned := { name := "ytcdhdgflgdmhdaa", sum := "4daf7fdee7bd868be88ec285ac154d2701eb87cd7941cd504a8aedcd891d1418", checked := Try.checked }
namespace Rows
def none {H : Type} : Left H := { results := [], args := [] }

/-- 'laws.FnExactCountNear': WHATEVER THE INPUT: true; the input reads as it did. -/
def fnExactCountNearSpec : ChangeSpec := { name := "fnExactCountNear", fn := fun _ => fun
  | [d1, d2, d3] => { results := [.lit (.bool true)], args := [d1, d2, d3] }
  | _ => none }
def fnExactCountNearRow : OpenClaim := { program := "ytcdhdgflgdmhdaa", sum := "4daf7fdee7bd868be88ec285ac154d2701eb87cd7941cd504a8aedcd891d1418", func := "loop.example/g01144/laws.FnExactCountNear", spec := "fnExactCountNear", recurses := true, apart := false }
def FnExactCountNearSaid : Prop := fnExactCountNearRow.holds Try.pinned (OpenSpec.ofChange fnExactCountNearSpec)

/-- ITS FALSE NEIGHBOUR: 'it returns false'. Refute it at one input. -/
def fnExactCountNearWrong : ChangeSpec := { name := "fnExactCountNear", fn := fun _ => fun
  | [d1, d2, d3] => { results := [.lit (.bool false)], args := [d1, d2, d3] }
  | _ => none }
def FnExactCountNearWrongFalsely : Prop := fnExactCountNearRow.holds Try.pinned (OpenSpec.ofChange fnExactCountNearWrong)

/-- 'laws.FnExactPackingBound': WHATEVER THE INPUT: true; the input reads as it did. -/
def fnExactPackingBoundSpec : ChangeSpec := { name := "fnExactPackingBound", fn := fun _ => fun
  | [d1, d2, d3] => { results := [.lit (.bool true)], args := [d1, d2, d3] }
  | _ => none }
def fnExactPackingBoundRow : OpenClaim := { program := "ytcdhdgflgdmhdaa", sum := "4daf7fdee7bd868be88ec285ac154d2701eb87cd7941cd504a8aedcd891d1418", func := "loop.example/g01144/laws.FnExactPackingBound", spec := "fnExactPackingBound", unfollowed := true, recurses := true, apart := false }
def FnExactPackingBoundSaid : Prop := fnExactPackingBoundRow.holds Try.pinned (OpenSpec.ofChange fnExactPackingBoundSpec)

/-- ITS FALSE NEIGHBOUR: 'it returns false'. Refute it at one input. -/
def fnExactPackingBoundWrong : ChangeSpec := { name := "fnExactPackingBound", fn := fun _ => fun
  | [d1, d2, d3] => { results := [.lit (.bool false)], args := [d1, d2, d3] }
  | _ => none }
def FnExactPackingBoundWrongFalsely : Prop := fnExactPackingBoundRow.holds Try.pinned (OpenSpec.ofChange fnExactPackingBoundWrong)

/-- 'laws.FnExactDesignBound': WHATEVER THE INPUT: true; the input reads as it did. -/
def fnExactDesignBoundSpec : ChangeSpec := { name := "fnExactDesignBound", fn := fun _ => fun
  | [d1, d2, d3] => { results := [.lit (.bool true)], args := [d1, d2, d3] }
  | _ => none }
def fnExactDesignBoundRow : OpenClaim := { program := "ytcdhdgflgdmhdaa", sum := "4daf7fdee7bd868be88ec285ac154d2701eb87cd7941cd504a8aedcd891d1418", func := "loop.example/g01144/laws.FnExactDesignBound", spec := "fnExactDesignBound", unfollowed := true, recurses := true, apart := false }
def FnExactDesignBoundSaid : Prop := fnExactDesignBoundRow.holds Try.pinned (OpenSpec.ofChange fnExactDesignBoundSpec)

/-- ITS FALSE NEIGHBOUR: 'it returns false'. Refute it at one input. -/
def fnExactDesignBoundWrong : ChangeSpec := { name := "fnExactDesignBound", fn := fun _ => fun
  | [d1, d2, d3] => { results := [.lit (.bool false)], args := [d1, d2, d3] }
  | _ => none }
def FnExactDesignBoundWrongFalsely : Prop := fnExactDesignBoundRow.holds Try.pinned (OpenSpec.ofChange fnExactDesignBoundWrong)

/-- 'laws.FnExactMatrixOfLinear': WHATEVER THE INPUT: true; the input reads as it did. -/
def fnExactMatrixOfLinearSpec : ChangeSpec := { name := "fnExactMatrixOfLinear", fn := fun _ => fun
  | [d1, d2, d3] => { results := [.lit (.bool true)], args := [d1, d2, d3] }
  | _ => none }
def fnExactMatrixOfLinearRow : OpenClaim := { program := "ytcdhdgflgdmhdaa", sum := "4daf7fdee7bd868be88ec285ac154d2701eb87cd7941cd504a8aedcd891d1418", func := "loop.example/g01144/laws.FnExactMatrixOfLinear", spec := "fnExactMatrixOfLinear", unfollowed := true, recurses := true, apart := false }
def FnExactMatrixOfLinearSaid : Prop := fnExactMatrixOfLinearRow.holds Try.pinned (OpenSpec.ofChange fnExactMatrixOfLinearSpec)

/-- ITS FALSE NEIGHBOUR: 'it returns false'. Refute it at one input. -/
def fnExactMatrixOfLinearWrong : ChangeSpec := { name := "fnExactMatrixOfLinear", fn := fun _ => fun
  | [d1, d2, d3] => { results := [.lit (.bool false)], args := [d1, d2, d3] }
  | _ => none }
def FnExactMatrixOfLinearWrongFalsely : Prop := fnExactMatrixOfLinearRow.holds Try.pinned (OpenSpec.ofChange fnExactMatrixOfLinearWrong)

/-- 'laws.FnExactLinearOfMatrix': WHATEVER THE INPUT: true; the input reads as it did. -/
def fnExactLinearOfMatrixSpec : ChangeSpec := { name := "fnExactLinearOfMatrix", fn := fun _ => fun
  | [d1, d2, d3] => { results := [.lit (.bool true)], args := [d1, d2, d3] }
  | _ => none }
def fnExactLinearOfMatrixRow : OpenClaim := { program := "ytcdhdgflgdmhdaa", sum := "4daf7fdee7bd868be88ec285ac154d2701eb87cd7941cd504a8aedcd891d1418", func := "loop.example/g01144/laws.FnExactLinearOfMatrix", spec := "fnExactLinearOfMatrix", unfollowed := true, recurses := true, apart := false }
def FnExactLinearOfMatrixSaid : Prop := fnExactLinearOfMatrixRow.holds Try.pinned (OpenSpec.ofChange fnExactLinearOfMatrixSpec)

/-- ITS FALSE NEIGHBOUR: 'it returns false'. Refute it at one input. -/
def fnExactLinearOfMatrixWrong : ChangeSpec := { name := "fnExactLinearOfMatrix", fn := fun _ => fun
  | [d1, d2, d3] => { results := [.lit (.bool false)], args := [d1, d2, d3] }
  | _ => none }
def FnExactLinearOfMatrixWrongFalsely : Prop := fnExactLinearOfMatrixRow.holds Try.pinned (OpenSpec.ofChange fnExactLinearOfMatrixWrong)

/-- 'laws.FnExactLiftWord': WHATEVER THE INPUT: true; the input reads as it did. -/
def fnExactLiftWordSpec : ChangeSpec := { name := "fnExactLiftWord", fn := fun _ => fun
  | [d1, d2] => { results := [.lit (.bool true)], args := [d1, d2] }
  | _ => none }
def fnExactLiftWordRow : OpenClaim := { program := "ytcdhdgflgdmhdaa", sum := "4daf7fdee7bd868be88ec285ac154d2701eb87cd7941cd504a8aedcd891d1418", func := "loop.example/g01144/laws.FnExactLiftWord", spec := "fnExactLiftWord", unfollowed := true, recurses := true, apart := false }
def FnExactLiftWordSaid : Prop := fnExactLiftWordRow.holds Try.pinned (OpenSpec.ofChange fnExactLiftWordSpec)

/-- ITS FALSE NEIGHBOUR: 'it returns false'. Refute it at one input. -/
def fnExactLiftWordWrong : ChangeSpec := { name := "fnExactLiftWord", fn := fun _ => fun
  | [d1, d2] => { results := [.lit (.bool false)], args := [d1, d2] }
  | _ => none }
def FnExactLiftWordWrongFalsely : Prop := fnExactLiftWordRow.holds Try.pinned (OpenSpec.ofChange fnExactLiftWordWrong)

/-- 'laws.FnExactSameGabidulin': WHATEVER THE INPUT: true; the input reads as it did. -/
def fnExactSameGabidulinSpec : ChangeSpec := { name := "fnExactSameGabidulin", fn := fun _ => fun
  | [d1, d2] => { results := [.lit (.bool true)], args := [d1, d2] }
  | _ => none }
def fnExactSameGabidulinRow : OpenClaim := { program := "ytcdhdgflgdmhdaa", sum := "4daf7fdee7bd868be88ec285ac154d2701eb87cd7941cd504a8aedcd891d1418", func := "loop.example/g01144/laws.FnExactSameGabidulin", spec := "fnExactSameGabidulin", apart := false }
def FnExactSameGabidulinSaid : Prop := fnExactSameGabidulinRow.holds Try.pinned (OpenSpec.ofChange fnExactSameGabidulinSpec)

/-- ITS FALSE NEIGHBOUR: 'it returns false'. Refute it at one input. -/
def fnExactSameGabidulinWrong : ChangeSpec := { name := "fnExactSameGabidulin", fn := fun _ => fun
  | [d1, d2] => { results := [.lit (.bool false)], args := [d1, d2] }
  | _ => none }
def FnExactSameGabidulinWrongFalsely : Prop := fnExactSameGabidulinRow.holds Try.pinned (OpenSpec.ofChange fnExactSameGabidulinWrong)

/-- 'laws.FnExactFirstGabidulin': WHATEVER THE INPUT: true; the input reads as it did. -/
def fnExactFirstGabidulinSpec : ChangeSpec := { name := "fnExactFirstGabidulin", fn := fun _ => fun
  | [d1, d2, d3] => { results := [.lit (.bool true)], args := [d1, d2, d3] }
  | _ => none }
def fnExactFirstGabidulinRow : OpenClaim := { program := "ytcdhdgflgdmhdaa", sum := "4daf7fdee7bd868be88ec285ac154d2701eb87cd7941cd504a8aedcd891d1418", func := "loop.example/g01144/laws.FnExactFirstGabidulin", spec := "fnExactFirstGabidulin", unfollowed := true, recurses := true, apart := false }
def FnExactFirstGabidulinSaid : Prop := fnExactFirstGabidulinRow.holds Try.pinned (OpenSpec.ofChange fnExactFirstGabidulinSpec)

/-- ITS FALSE NEIGHBOUR: 'it returns false'. Refute it at one input. -/
def fnExactFirstGabidulinWrong : ChangeSpec := { name := "fnExactFirstGabidulin", fn := fun _ => fun
  | [d1, d2, d3] => { results := [.lit (.bool false)], args := [d1, d2, d3] }
  | _ => none }
def FnExactFirstGabidulinWrongFalsely : Prop := fnExactFirstGabidulinRow.holds Try.pinned (OpenSpec.ofChange fnExactFirstGabidulinWrong)

/-- 'laws.FnExactSquareWord': WHATEVER THE INPUT: true; the input reads as it did. -/
def fnExactSquareWordSpec : ChangeSpec := { name := "fnExactSquareWord", fn := fun _ => fun
  | [d1, d2, d3] => { results := [.lit (.bool true)], args := [d1, d2, d3] }
  | _ => none }
def fnExactSquareWordRow : OpenClaim := { program := "ytcdhdgflgdmhdaa", sum := "4daf7fdee7bd868be88ec285ac154d2701eb87cd7941cd504a8aedcd891d1418", func := "loop.example/g01144/laws.FnExactSquareWord", spec := "fnExactSquareWord", unfollowed := true, recurses := true, apart := false }
def FnExactSquareWordSaid : Prop := fnExactSquareWordRow.holds Try.pinned (OpenSpec.ofChange fnExactSquareWordSpec)

/-- ITS FALSE NEIGHBOUR: 'it returns false'. Refute it at one input. -/
def fnExactSquareWordWrong : ChangeSpec := { name := "fnExactSquareWord", fn := fun _ => fun
  | [d1, d2, d3] => { results := [.lit (.bool false)], args := [d1, d2, d3] }
  | _ => none }
def FnExactSquareWordWrongFalsely : Prop := fnExactSquareWordRow.holds Try.pinned (OpenSpec.ofChange fnExactSquareWordWrong)

/- THE SECOND FORM. 'bulk': how many values and letters a reading holds, each counted each time it is reached (what is shared counts as often as it is met; a slice's spare places count too). A statement '..UptoSaid' is the law's where the arguments, and the package variables that the reading takes, are together of bulk at most 1048576: NARROWER than '..Said'. Prove '..Said' where nothing that the law and all that it calls make is longer than what came in: it says more and counts as full. Else prove '..UptoSaid'. A law counts once. -/
mutual
def uptoBulk {H : Type} : DataW H → Nat
  | .lit (.string bytes) => bytes.length + 1
  | .lit _ => 1
  | .nil => 1
  | .ptr d => uptoBulk d + 1
  | .slice elems spare => uptoBulkAll elems + uptoBulkAll spare + 1
  | .agg parts => uptoBulkAll parts + 1
  | .iface _ d => uptoBulk d + 1
  | .map entries => uptoBulkEntries entries + 1
  | .held _ => 1
def uptoBulkAll {H : Type} : List (DataW H) → Nat
  | [] => 0
  | d :: r => uptoBulk d + uptoBulkAll r
def uptoBulkEntries {H : Type} : List (Lit × DataW H) → Nat
  | [] => 0
  | x :: r => uptoBulkEntry x + uptoBulkEntries r
def uptoBulkEntry {H : Type} : Lit × DataW H → Nat
  | (.string bytes, d) => bytes.length + uptoBulk d + 1
  | (_, d) => uptoBulk d + 1
 end
def uptoSmall : (H : Type) → List (DataW H) → Bool := fun _ ds => decide (uptoBulkAll ds ≤ 1048576)
def OpenSpec.upto (s : _root_.Go.ChangeSpec) : _root_.Go.OpenSpec := { _root_.Go.OpenSpec.ofChange s with cond := some uptoSmall }

/-- 'laws.FnExactCountNear', WHERE WHAT IT READS IS OF BULK AT MOST 1048576: true; the input reads as it did. -/
def fnExactCountNearUptoRow : OpenClaim := { program := "ytcdhdgflgdmhdaa", sum := "4daf7fdee7bd868be88ec285ac154d2701eb87cd7941cd504a8aedcd891d1418", func := "loop.example/g01144/laws.FnExactCountNear", spec := "fnExactCountNear", recurses := true, apart := false, narrowed := true }
def FnExactCountNearUptoSaid : Prop := fnExactCountNearUptoRow.holds Try.pinned (OpenSpec.upto fnExactCountNearSpec)

/-- 'laws.FnExactPackingBound', WHERE WHAT IT READS IS OF BULK AT MOST 1048576: true; the input reads as it did. -/
def fnExactPackingBoundUptoRow : OpenClaim := { program := "ytcdhdgflgdmhdaa", sum := "4daf7fdee7bd868be88ec285ac154d2701eb87cd7941cd504a8aedcd891d1418", func := "loop.example/g01144/laws.FnExactPackingBound", spec := "fnExactPackingBound", unfollowed := true, recurses := true, apart := false, narrowed := true }
def FnExactPackingBoundUptoSaid : Prop := fnExactPackingBoundUptoRow.holds Try.pinned (OpenSpec.upto fnExactPackingBoundSpec)

/-- 'laws.FnExactDesignBound', WHERE WHAT IT READS IS OF BULK AT MOST 1048576: true; the input reads as it did. -/
def fnExactDesignBoundUptoRow : OpenClaim := { program := "ytcdhdgflgdmhdaa", sum := "4daf7fdee7bd868be88ec285ac154d2701eb87cd7941cd504a8aedcd891d1418", func := "loop.example/g01144/laws.FnExactDesignBound", spec := "fnExactDesignBound", unfollowed := true, recurses := true, apart := false, narrowed := true }
def FnExactDesignBoundUptoSaid : Prop := fnExactDesignBoundUptoRow.holds Try.pinned (OpenSpec.upto fnExactDesignBoundSpec)

/-- 'laws.FnExactMatrixOfLinear', WHERE WHAT IT READS IS OF BULK AT MOST 1048576: true; the input reads as it did. -/
def fnExactMatrixOfLinearUptoRow : OpenClaim := { program := "ytcdhdgflgdmhdaa", sum := "4daf7fdee7bd868be88ec285ac154d2701eb87cd7941cd504a8aedcd891d1418", func := "loop.example/g01144/laws.FnExactMatrixOfLinear", spec := "fnExactMatrixOfLinear", unfollowed := true, recurses := true, apart := false, narrowed := true }
def FnExactMatrixOfLinearUptoSaid : Prop := fnExactMatrixOfLinearUptoRow.holds Try.pinned (OpenSpec.upto fnExactMatrixOfLinearSpec)

/-- 'laws.FnExactLinearOfMatrix', WHERE WHAT IT READS IS OF BULK AT MOST 1048576: true; the input reads as it did. -/
def fnExactLinearOfMatrixUptoRow : OpenClaim := { program := "ytcdhdgflgdmhdaa", sum := "4daf7fdee7bd868be88ec285ac154d2701eb87cd7941cd504a8aedcd891d1418", func := "loop.example/g01144/laws.FnExactLinearOfMatrix", spec := "fnExactLinearOfMatrix", unfollowed := true, recurses := true, apart := false, narrowed := true }
def FnExactLinearOfMatrixUptoSaid : Prop := fnExactLinearOfMatrixUptoRow.holds Try.pinned (OpenSpec.upto fnExactLinearOfMatrixSpec)

/-- 'laws.FnExactLiftWord', WHERE WHAT IT READS IS OF BULK AT MOST 1048576: true; the input reads as it did. -/
def fnExactLiftWordUptoRow : OpenClaim := { program := "ytcdhdgflgdmhdaa", sum := "4daf7fdee7bd868be88ec285ac154d2701eb87cd7941cd504a8aedcd891d1418", func := "loop.example/g01144/laws.FnExactLiftWord", spec := "fnExactLiftWord", unfollowed := true, recurses := true, apart := false, narrowed := true }
def FnExactLiftWordUptoSaid : Prop := fnExactLiftWordUptoRow.holds Try.pinned (OpenSpec.upto fnExactLiftWordSpec)

/-- 'laws.FnExactSameGabidulin', WHERE WHAT IT READS IS OF BULK AT MOST 1048576: true; the input reads as it did. -/
def fnExactSameGabidulinUptoRow : OpenClaim := { program := "ytcdhdgflgdmhdaa", sum := "4daf7fdee7bd868be88ec285ac154d2701eb87cd7941cd504a8aedcd891d1418", func := "loop.example/g01144/laws.FnExactSameGabidulin", spec := "fnExactSameGabidulin", apart := false, narrowed := true }
def FnExactSameGabidulinUptoSaid : Prop := fnExactSameGabidulinUptoRow.holds Try.pinned (OpenSpec.upto fnExactSameGabidulinSpec)

/-- 'laws.FnExactFirstGabidulin', WHERE WHAT IT READS IS OF BULK AT MOST 1048576: true; the input reads as it did. -/
def fnExactFirstGabidulinUptoRow : OpenClaim := { program := "ytcdhdgflgdmhdaa", sum := "4daf7fdee7bd868be88ec285ac154d2701eb87cd7941cd504a8aedcd891d1418", func := "loop.example/g01144/laws.FnExactFirstGabidulin", spec := "fnExactFirstGabidulin", unfollowed := true, recurses := true, apart := false, narrowed := true }
def FnExactFirstGabidulinUptoSaid : Prop := fnExactFirstGabidulinUptoRow.holds Try.pinned (OpenSpec.upto fnExactFirstGabidulinSpec)

/-- 'laws.FnExactSquareWord', WHERE WHAT IT READS IS OF BULK AT MOST 1048576: true; the input reads as it did. -/
def fnExactSquareWordUptoRow : OpenClaim := { program := "ytcdhdgflgdmhdaa", sum := "4daf7fdee7bd868be88ec285ac154d2701eb87cd7941cd504a8aedcd891d1418", func := "loop.example/g01144/laws.FnExactSquareWord", spec := "fnExactSquareWord", unfollowed := true, recurses := true, apart := false, narrowed := true }
def FnExactSquareWordUptoSaid : Prop := fnExactSquareWordUptoRow.holds Try.pinned (OpenSpec.upto fnExactSquareWordSpec)

end Rows
end Go.Proofs.Ytcdhdgflgdmhdaa
