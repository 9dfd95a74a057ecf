/-
  No cell of these rows narrows 'for every input' (looked for: loops, veiled, ifaces, maps, wideKeys, modest, calm, conditions, laid).
  DERIVED. THE GIVEN ROWS OF THIS SEAT. 11 by the template 'for every input the law returns true; each argument reads behind the call as it read before'; 0 by the template 'total and deterministic' (their statements: YtibennpdffgomaaTotals.lean).
  GIVEN WITH THE SEED: the statements are not yours to turn. If you find one false, say at which input.
  Laid BY PROGRAM, IN A SANDBOX (cutbox-rows.mjs): the forced cells as the released guide's own fill.sh prints them over the translation 0f758812feb5912f… (all of the seat's roots in one cut). By AI agents, Wed Nov 11 2026. No macro, syntax, notation, axiom, sorry.
-/
import Derived.Test.YtibennpdffgomaaChecked
import GoSem.Claim
import GoSem.ClaimJoined
import GoSem.ClaimMapViews
import Derived.JoinedTies
import Derived.KernelRfl
namespace Go.Proofs.Ytibennpdffgomaa
/- THE CELL 'sum', in the pinned program and in every row, IS THE sha256 OF THE DUMP (.gsa) THAT YtibennpdffgomaaProg.lean LOADS. Nothing in Lean hashes anything: it is a label: what it is worth is what the hold of that sum in a sandbox is worth. -/
noncomputable def Try.pinned : Pinned := { name := "ytibennpdffgomaa", sum := "0f758812feb5912f25620ef2d331b149d299b33f78688f49a0818fae8051960e", checked := Try.checked }
namespace Rows
def none {H : Type} : Left H := { results := [], args := [] }

/-- 'laws.FnExactEdgesInto': WHATEVER THE INPUT: true; the input reads as it did. -/
def fnExactEdgesIntoSpec : ChangeSpec := { name := "fnExactEdgesInto", fn := fun _ => fun
  | [d1, d2] => { results := [.lit (.bool true)], args := [d1, d2] }
  | _ => none }
def fnExactEdgesIntoRow : OpenClaim := { program := "ytibennpdffgomaa", sum := "0f758812feb5912f25620ef2d331b149d299b33f78688f49a0818fae8051960e", func := "loop.example/g01144/laws.FnExactEdgesInto", spec := "fnExactEdgesInto", unfollowed := true, recurses := true, plainKeys := false, apart := false }
def FnExactEdgesIntoSaid : Prop := fnExactEdgesIntoRow.holds Try.pinned (OpenSpec.ofChange fnExactEdgesIntoSpec)

/-- ITS FALSE NEIGHBOUR: 'it returns false'. Refute it at one input. -/
def fnExactEdgesIntoWrong : ChangeSpec := { name := "fnExactEdgesInto", fn := fun _ => fun
  | [d1, d2] => { results := [.lit (.bool false)], args := [d1, d2] }
  | _ => none }
def FnExactEdgesIntoWrongFalsely : Prop := fnExactEdgesIntoRow.holds Try.pinned (OpenSpec.ofChange fnExactEdgesIntoWrong)

/-- 'laws.FnExactValidNet': WHATEVER THE INPUT: true; the input reads as it did. -/
def fnExactValidNetSpec : ChangeSpec := { name := "fnExactValidNet", fn := fun _ => fun
  | [d] => { results := [.lit (.bool true)], args := [d] }
  | _ => none }
def fnExactValidNetRow : OpenClaim := { program := "ytibennpdffgomaa", sum := "0f758812feb5912f25620ef2d331b149d299b33f78688f49a0818fae8051960e", func := "loop.example/g01144/laws.FnExactValidNet", spec := "fnExactValidNet", unfollowed := true, recurses := true, plainKeys := false, apart := false }
def FnExactValidNetSaid : Prop := fnExactValidNetRow.holds Try.pinned (OpenSpec.ofChange fnExactValidNetSpec)

/-- ITS FALSE NEIGHBOUR: 'it returns false'. Refute it at one input. -/
def fnExactValidNetWrong : ChangeSpec := { name := "fnExactValidNet", fn := fun _ => fun
  | [d] => { results := [.lit (.bool false)], args := [d] }
  | _ => none }
def FnExactValidNetWrongFalsely : Prop := fnExactValidNetRow.holds Try.pinned (OpenSpec.ofChange fnExactValidNetWrong)

/-- 'laws.FnExactWordsOf': WHATEVER THE INPUT: true; the input reads as it did. -/
def fnExactWordsOfSpec : ChangeSpec := { name := "fnExactWordsOf", fn := fun _ => fun
  | [d] => { results := [.lit (.bool true)], args := [d] }
  | _ => none }
def fnExactWordsOfRow : OpenClaim := { program := "ytibennpdffgomaa", sum := "0f758812feb5912f25620ef2d331b149d299b33f78688f49a0818fae8051960e", func := "loop.example/g01144/laws.FnExactWordsOf", spec := "fnExactWordsOf", inPlace := ["slices.overlaps[loop.example/g01144/impl.word]"], unfollowed := true, recurses := true, plainKeys := false, apart := false }
def FnExactWordsOfSaid : Prop := fnExactWordsOfRow.holds Try.pinned (OpenSpec.ofChange fnExactWordsOfSpec)

/-- ITS FALSE NEIGHBOUR: 'it returns false'. Refute it at one input. -/
def fnExactWordsOfWrong : ChangeSpec := { name := "fnExactWordsOf", fn := fun _ => fun
  | [d] => { results := [.lit (.bool false)], args := [d] }
  | _ => none }
def FnExactWordsOfWrongFalsely : Prop := fnExactWordsOfRow.holds Try.pinned (OpenSpec.ofChange fnExactWordsOfWrong)

/-- 'laws.FnExactDualCode': WHATEVER THE INPUT: true; the input reads as it did. -/
def fnExactDualCodeSpec : ChangeSpec := { name := "fnExactDualCode", fn := fun _ => fun
  | [d] => { results := [.lit (.bool true)], args := [d] }
  | _ => none }
def fnExactDualCodeRow : OpenClaim := { program := "ytibennpdffgomaa", sum := "0f758812feb5912f25620ef2d331b149d299b33f78688f49a0818fae8051960e", func := "loop.example/g01144/laws.FnExactDualCode", spec := "fnExactDualCode", inPlace := ["slices.overlaps[loop.example/g01144/impl.word]"], unfollowed := true, recurses := true, plainKeys := false, apart := false }
def FnExactDualCodeSaid : Prop := fnExactDualCodeRow.holds Try.pinned (OpenSpec.ofChange fnExactDualCodeSpec)

/-- ITS FALSE NEIGHBOUR: 'it returns false'. Refute it at one input. -/
def fnExactDualCodeWrong : ChangeSpec := { name := "fnExactDualCode", fn := fun _ => fun
  | [d] => { results := [.lit (.bool false)], args := [d] }
  | _ => none }
def FnExactDualCodeWrongFalsely : Prop := fnExactDualCodeRow.holds Try.pinned (OpenSpec.ofChange fnExactDualCodeWrong)

/-- 'laws.FnExactLinearOfMatrix': WHATEVER THE INPUT: true; the input reads as it did. -/
def fnExactLinearOfMatrixSpec : ChangeSpec := { name := "fnExactLinearOfMatrix", fn := fun _ => fun
  | [d1, d2, d3] => { results := [.lit (.bool true)], args := [d1, d2, d3] }
  | _ => none }
def fnExactLinearOfMatrixRow : OpenClaim := { program := "ytibennpdffgomaa", sum := "0f758812feb5912f25620ef2d331b149d299b33f78688f49a0818fae8051960e", func := "loop.example/g01144/laws.FnExactLinearOfMatrix", spec := "fnExactLinearOfMatrix", unfollowed := true, recurses := true, plainKeys := false, apart := false }
def FnExactLinearOfMatrixSaid : Prop := fnExactLinearOfMatrixRow.holds Try.pinned (OpenSpec.ofChange fnExactLinearOfMatrixSpec)

/-- ITS FALSE NEIGHBOUR: 'it returns false'. Refute it at one input. -/
def fnExactLinearOfMatrixWrong : ChangeSpec := { name := "fnExactLinearOfMatrix", fn := fun _ => fun
  | [d1, d2, d3] => { results := [.lit (.bool false)], args := [d1, d2, d3] }
  | _ => none }
def FnExactLinearOfMatrixWrongFalsely : Prop := fnExactLinearOfMatrixRow.holds Try.pinned (OpenSpec.ofChange fnExactLinearOfMatrixWrong)

/-- 'laws.FnExactJoinCodes': WHATEVER THE INPUT: true; the input reads as it did. -/
def fnExactJoinCodesSpec : ChangeSpec := { name := "fnExactJoinCodes", fn := fun _ => fun
  | [d1, d2] => { results := [.lit (.bool true)], args := [d1, d2] }
  | _ => none }
def fnExactJoinCodesRow : OpenClaim := { program := "ytibennpdffgomaa", sum := "0f758812feb5912f25620ef2d331b149d299b33f78688f49a0818fae8051960e", func := "loop.example/g01144/laws.FnExactJoinCodes", spec := "fnExactJoinCodes", inPlace := ["slices.overlaps[loop.example/g01144/impl.word]"], unfollowed := true, recurses := true, plainKeys := false, apart := false }
def FnExactJoinCodesSaid : Prop := fnExactJoinCodesRow.holds Try.pinned (OpenSpec.ofChange fnExactJoinCodesSpec)

/-- ITS FALSE NEIGHBOUR: 'it returns false'. Refute it at one input. -/
def fnExactJoinCodesWrong : ChangeSpec := { name := "fnExactJoinCodes", fn := fun _ => fun
  | [d1, d2] => { results := [.lit (.bool false)], args := [d1, d2] }
  | _ => none }
def FnExactJoinCodesWrongFalsely : Prop := fnExactJoinCodesRow.holds Try.pinned (OpenSpec.ofChange fnExactJoinCodesWrong)

/-- 'laws.FnExactSquareCode': WHATEVER THE INPUT: true; the input reads as it did. -/
def fnExactSquareCodeSpec : ChangeSpec := { name := "fnExactSquareCode", fn := fun _ => fun
  | [d1, d2] => { results := [.lit (.bool true)], args := [d1, d2] }
  | _ => none }
def fnExactSquareCodeRow : OpenClaim := { program := "ytibennpdffgomaa", sum := "0f758812feb5912f25620ef2d331b149d299b33f78688f49a0818fae8051960e", func := "loop.example/g01144/laws.FnExactSquareCode", spec := "fnExactSquareCode", inPlace := ["slices.overlaps[loop.example/g01144/impl.word]"], unfollowed := true, recurses := true, plainKeys := false, apart := false }
def FnExactSquareCodeSaid : Prop := fnExactSquareCodeRow.holds Try.pinned (OpenSpec.ofChange fnExactSquareCodeSpec)

/-- ITS FALSE NEIGHBOUR: 'it returns false'. Refute it at one input. -/
def fnExactSquareCodeWrong : ChangeSpec := { name := "fnExactSquareCode", fn := fun _ => fun
  | [d1, d2] => { results := [.lit (.bool false)], args := [d1, d2] }
  | _ => none }
def FnExactSquareCodeWrongFalsely : Prop := fnExactSquareCodeRow.holds Try.pinned (OpenSpec.ofChange fnExactSquareCodeWrong)

/-- 'laws.FnPowers': WHATEVER THE INPUT: true; the input reads as it did. -/
def fnPowersSpec : ChangeSpec := { name := "fnPowers", fn := fun _ => fun
  | [d1, d2] => { results := [.lit (.bool true)], args := [d1, d2] }
  | _ => none }
def fnPowersRow : OpenClaim := { program := "ytibennpdffgomaa", sum := "0f758812feb5912f25620ef2d331b149d299b33f78688f49a0818fae8051960e", func := "loop.example/g01144/laws.FnPowers", spec := "fnPowers", unfollowed := true, recurses := true, plainKeys := false, apart := false }
def FnPowersSaid : Prop := fnPowersRow.holds Try.pinned (OpenSpec.ofChange fnPowersSpec)

/-- ITS FALSE NEIGHBOUR: 'it returns false'. Refute it at one input. -/
def fnPowersWrong : ChangeSpec := { name := "fnPowers", fn := fun _ => fun
  | [d1, d2] => { results := [.lit (.bool false)], args := [d1, d2] }
  | _ => none }
def FnPowersWrongFalsely : Prop := fnPowersRow.holds Try.pinned (OpenSpec.ofChange fnPowersWrong)

/-- 'laws.FnInterpolated': WHATEVER THE INPUT: true; the input reads as it did. -/
def fnInterpolatedSpec : ChangeSpec := { name := "fnInterpolated", fn := fun _ => fun
  | [d1, d2] => { results := [.lit (.bool true)], args := [d1, d2] }
  | _ => none }
def fnInterpolatedRow : OpenClaim := { program := "ytibennpdffgomaa", sum := "0f758812feb5912f25620ef2d331b149d299b33f78688f49a0818fae8051960e", func := "loop.example/g01144/laws.FnInterpolated", spec := "fnInterpolated", unfollowed := true, recurses := true, plainKeys := false, apart := false }
def FnInterpolatedSaid : Prop := fnInterpolatedRow.holds Try.pinned (OpenSpec.ofChange fnInterpolatedSpec)

/-- ITS FALSE NEIGHBOUR: 'it returns false'. Refute it at one input. -/
def fnInterpolatedWrong : ChangeSpec := { name := "fnInterpolated", fn := fun _ => fun
  | [d1, d2] => { results := [.lit (.bool false)], args := [d1, d2] }
  | _ => none }
def FnInterpolatedWrongFalsely : Prop := fnInterpolatedRow.holds Try.pinned (OpenSpec.ofChange fnInterpolatedWrong)

/-- 'laws.FnFieldRows': WHATEVER THE INPUT: true; the input reads as it did. -/
def fnFieldRowsSpec : ChangeSpec := { name := "fnFieldRows", fn := fun _ => fun
  | [d1, d2] => { results := [.lit (.bool true)], args := [d1, d2] }
  | _ => none }
def fnFieldRowsRow : OpenClaim := { program := "ytibennpdffgomaa", sum := "0f758812feb5912f25620ef2d331b149d299b33f78688f49a0818fae8051960e", func := "loop.example/g01144/laws.FnFieldRows", spec := "fnFieldRows", inPlace := ["slices.overlaps[loop.example/g01144/impl.word]"], unfollowed := true, recurses := true, plainKeys := false, apart := false }
def FnFieldRowsSaid : Prop := fnFieldRowsRow.holds Try.pinned (OpenSpec.ofChange fnFieldRowsSpec)

/-- ITS FALSE NEIGHBOUR: 'it returns false'. Refute it at one input. -/
def fnFieldRowsWrong : ChangeSpec := { name := "fnFieldRows", fn := fun _ => fun
  | [d1, d2] => { results := [.lit (.bool false)], args := [d1, d2] }
  | _ => none }
def FnFieldRowsWrongFalsely : Prop := fnFieldRowsRow.holds Try.pinned (OpenSpec.ofChange fnFieldRowsWrong)

/-- 'laws.FnExactCapacityTo': WHATEVER THE INPUT: true; the input reads as it did. -/
def fnExactCapacityToSpec : ChangeSpec := { name := "fnExactCapacityTo", fn := fun _ => fun
  | [d1, d2] => { results := [.lit (.bool true)], args := [d1, d2] }
  | _ => none }
def fnExactCapacityToRow : OpenClaim := { program := "ytibennpdffgomaa", sum := "0f758812feb5912f25620ef2d331b149d299b33f78688f49a0818fae8051960e", func := "loop.example/g01144/laws.FnExactCapacityTo", spec := "fnExactCapacityTo", unfollowed := true, recurses := true, plainKeys := false, apart := false }
def FnExactCapacityToSaid : Prop := fnExactCapacityToRow.holds Try.pinned (OpenSpec.ofChange fnExactCapacityToSpec)

/-- ITS FALSE NEIGHBOUR: 'it returns false'. Refute it at one input. -/
def fnExactCapacityToWrong : ChangeSpec := { name := "fnExactCapacityTo", fn := fun _ => fun
  | [d1, d2] => { results := [.lit (.bool false)], args := [d1, d2] }
  | _ => none }
def FnExactCapacityToWrongFalsely : Prop := fnExactCapacityToRow.holds Try.pinned (OpenSpec.ofChange fnExactCapacityToWrong)

/- THE SECOND FORM. 'bulk': how many values and letters a reading holds, each counted each time it is reached (what is shared counts as often as it is met; a slice's spare places count too). A statement '..UptoSaid' is the law's where the arguments, and the package variables that the reading takes, are together of bulk at most 1048576: NARROWER than '..Said'. Prove '..Said' where nothing that the law and all that it calls make is longer than what came in: it says more and counts as full. Else prove '..UptoSaid'. A law counts once. -/
mutual
def uptoBulk {H : Type} : DataW H → Nat
  | .lit (.string bytes) => bytes.length + 1
  | .lit _ => 1
  | .nil => 1
  | .ptr d => uptoBulk d + 1
  | .slice elems spare => uptoBulkAll elems + uptoBulkAll spare + 1
  | .agg parts => uptoBulkAll parts + 1
  | .iface _ d => uptoBulk d + 1
  | .map entries => uptoBulkEntries entries + 1
  | .held _ => 1
def uptoBulkAll {H : Type} : List (DataW H) → Nat
  | [] => 0
  | d :: r => uptoBulk d + uptoBulkAll r
def uptoBulkEntries {H : Type} : List (Lit × DataW H) → Nat
  | [] => 0
  | x :: r => uptoBulkEntry x + uptoBulkEntries r
def uptoBulkEntry {H : Type} : Lit × DataW H → Nat
  | (.string bytes, d) => bytes.length + uptoBulk d + 1
  | (_, d) => uptoBulk d + 1
 end
def uptoSmall : (H : Type) → List (DataW H) → Bool := fun _ ds => decide (uptoBulkAll ds ≤ 1048576)
def OpenSpec.upto (s : _root_.Go.ChangeSpec) : _root_.Go.OpenSpec := { _root_.Go.OpenSpec.ofChange s with cond := some uptoSmall }

/-- 'laws.FnExactEdgesInto', WHERE WHAT IT READS IS OF BULK AT MOST 1048576: true; the input reads as it did. -/
def fnExactEdgesIntoUptoRow : OpenClaim := { program := "ytibennpdffgomaa", sum := "0f758812feb5912f25620ef2d331b149d299b33f78688f49a0818fae8051960e", func := "loop.example/g01144/laws.FnExactEdgesInto", spec := "fnExactEdgesInto", unfollowed := true, recurses := true, plainKeys := false, apart := false, narrowed := true }
def FnExactEdgesIntoUptoSaid : Prop := fnExactEdgesIntoUptoRow.holds Try.pinned (OpenSpec.upto fnExactEdgesIntoSpec)

/-- 'laws.FnExactValidNet', WHERE WHAT IT READS IS OF BULK AT MOST 1048576: true; the input reads as it did. -/
def fnExactValidNetUptoRow : OpenClaim := { program := "ytibennpdffgomaa", sum := "0f758812feb5912f25620ef2d331b149d299b33f78688f49a0818fae8051960e", func := "loop.example/g01144/laws.FnExactValidNet", spec := "fnExactValidNet", unfollowed := true, recurses := true, plainKeys := false, apart := false, narrowed := true }
def FnExactValidNetUptoSaid : Prop := fnExactValidNetUptoRow.holds Try.pinned (OpenSpec.upto fnExactValidNetSpec)

/-- 'laws.FnExactWordsOf', WHERE WHAT IT READS IS OF BULK AT MOST 1048576: true; the input reads as it did. -/
def fnExactWordsOfUptoRow : OpenClaim := { program := "ytibennpdffgomaa", sum := "0f758812feb5912f25620ef2d331b149d299b33f78688f49a0818fae8051960e", func := "loop.example/g01144/laws.FnExactWordsOf", spec := "fnExactWordsOf", inPlace := ["slices.overlaps[loop.example/g01144/impl.word]"], unfollowed := true, recurses := true, plainKeys := false, apart := false, narrowed := true }
def FnExactWordsOfUptoSaid : Prop := fnExactWordsOfUptoRow.holds Try.pinned (OpenSpec.upto fnExactWordsOfSpec)

/-- 'laws.FnExactDualCode', WHERE WHAT IT READS IS OF BULK AT MOST 1048576: true; the input reads as it did. -/
def fnExactDualCodeUptoRow : OpenClaim := { program := "ytibennpdffgomaa", sum := "0f758812feb5912f25620ef2d331b149d299b33f78688f49a0818fae8051960e", func := "loop.example/g01144/laws.FnExactDualCode", spec := "fnExactDualCode", inPlace := ["slices.overlaps[loop.example/g01144/impl.word]"], unfollowed := true, recurses := true, plainKeys := false, apart := false, narrowed := true }
def FnExactDualCodeUptoSaid : Prop := fnExactDualCodeUptoRow.holds Try.pinned (OpenSpec.upto fnExactDualCodeSpec)

/-- 'laws.FnExactLinearOfMatrix', WHERE WHAT IT READS IS OF BULK AT MOST 1048576: true; the input reads as it did. -/
def fnExactLinearOfMatrixUptoRow : OpenClaim := { program := "ytibennpdffgomaa", sum := "0f758812feb5912f25620ef2d331b149d299b33f78688f49a0818fae8051960e", func := "loop.example/g01144/laws.FnExactLinearOfMatrix", spec := "fnExactLinearOfMatrix", unfollowed := true, recurses := true, plainKeys := false, apart := false, narrowed := true }
def FnExactLinearOfMatrixUptoSaid : Prop := fnExactLinearOfMatrixUptoRow.holds Try.pinned (OpenSpec.upto fnExactLinearOfMatrixSpec)

/-- 'laws.FnExactJoinCodes', WHERE WHAT IT READS IS OF BULK AT MOST 1048576: true; the input reads as it did. -/
def fnExactJoinCodesUptoRow : OpenClaim := { program := "ytibennpdffgomaa", sum := "0f758812feb5912f25620ef2d331b149d299b33f78688f49a0818fae8051960e", func := "loop.example/g01144/laws.FnExactJoinCodes", spec := "fnExactJoinCodes", inPlace := ["slices.overlaps[loop.example/g01144/impl.word]"], unfollowed := true, recurses := true, plainKeys := false, apart := false, narrowed := true }
def FnExactJoinCodesUptoSaid : Prop := fnExactJoinCodesUptoRow.holds Try.pinned (OpenSpec.upto fnExactJoinCodesSpec)

/-- 'laws.FnExactSquareCode', WHERE WHAT IT READS IS OF BULK AT MOST 1048576: true; the input reads as it did. -/
def fnExactSquareCodeUptoRow : OpenClaim := { program := "ytibennpdffgomaa", sum := "0f758812feb5912f25620ef2d331b149d299b33f78688f49a0818fae8051960e", func := "loop.example/g01144/laws.FnExactSquareCode", spec := "fnExactSquareCode", inPlace := ["slices.overlaps[loop.example/g01144/impl.word]"], unfollowed := true, recurses := true, plainKeys := false, apart := false, narrowed := true }
def FnExactSquareCodeUptoSaid : Prop := fnExactSquareCodeUptoRow.holds Try.pinned (OpenSpec.upto fnExactSquareCodeSpec)

/-- 'laws.FnPowers', WHERE WHAT IT READS IS OF BULK AT MOST 1048576: true; the input reads as it did. -/
def fnPowersUptoRow : OpenClaim := { program := "ytibennpdffgomaa", sum := "0f758812feb5912f25620ef2d331b149d299b33f78688f49a0818fae8051960e", func := "loop.example/g01144/laws.FnPowers", spec := "fnPowers", unfollowed := true, recurses := true, plainKeys := false, apart := false, narrowed := true }
def FnPowersUptoSaid : Prop := fnPowersUptoRow.holds Try.pinned (OpenSpec.upto fnPowersSpec)

/-- 'laws.FnInterpolated', WHERE WHAT IT READS IS OF BULK AT MOST 1048576: true; the input reads as it did. -/
def fnInterpolatedUptoRow : OpenClaim := { program := "ytibennpdffgomaa", sum := "0f758812feb5912f25620ef2d331b149d299b33f78688f49a0818fae8051960e", func := "loop.example/g01144/laws.FnInterpolated", spec := "fnInterpolated", unfollowed := true, recurses := true, plainKeys := false, apart := false, narrowed := true }
def FnInterpolatedUptoSaid : Prop := fnInterpolatedUptoRow.holds Try.pinned (OpenSpec.upto fnInterpolatedSpec)

/-- 'laws.FnFieldRows', WHERE WHAT IT READS IS OF BULK AT MOST 1048576: true; the input reads as it did. -/
def fnFieldRowsUptoRow : OpenClaim := { program := "ytibennpdffgomaa", sum := "0f758812feb5912f25620ef2d331b149d299b33f78688f49a0818fae8051960e", func := "loop.example/g01144/laws.FnFieldRows", spec := "fnFieldRows", inPlace := ["slices.overlaps[loop.example/g01144/impl.word]"], unfollowed := true, recurses := true, plainKeys := false, apart := false, narrowed := true }
def FnFieldRowsUptoSaid : Prop := fnFieldRowsUptoRow.holds Try.pinned (OpenSpec.upto fnFieldRowsSpec)

/-- 'laws.FnExactCapacityTo', WHERE WHAT IT READS IS OF BULK AT MOST 1048576: true; the input reads as it did. -/
def fnExactCapacityToUptoRow : OpenClaim := { program := "ytibennpdffgomaa", sum := "0f758812feb5912f25620ef2d331b149d299b33f78688f49a0818fae8051960e", func := "loop.example/g01144/laws.FnExactCapacityTo", spec := "fnExactCapacityTo", unfollowed := true, recurses := true, plainKeys := false, apart := false, narrowed := true }
def FnExactCapacityToUptoSaid : Prop := fnExactCapacityToUptoRow.holds Try.pinned (OpenSpec.upto fnExactCapacityToSpec)

end Rows
end Go.Proofs.Ytibennpdffgomaa
