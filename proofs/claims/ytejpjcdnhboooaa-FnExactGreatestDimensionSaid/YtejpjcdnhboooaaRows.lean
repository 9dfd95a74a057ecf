/-
  No cell of these rows narrows 'for every input' (looked for: loops, veiled, ifaces, maps, wideKeys, modest, calm, conditions, laid).
  DERIVED. THE GIVEN ROWS OF THIS SEAT. 8 by the template 'for every input the law returns true; each argument reads behind the call as it read before'; 0 by the template 'total and deterministic' (their statements: YtejpjcdnhboooaaTotals.lean).
  GIVEN WITH THE SEED: the statements are not yours to turn. If you find one false, say at which input.
  Laid BY PROGRAM, IN A SANDBOX (cutbox-rows.mjs): the forced cells as the released guide's own fill.sh prints them over the translation f901c27052e042c4… (all of the seat's roots in one cut). By AI agents, Wed Nov 11 2026. No macro, syntax, notation, axiom, sorry.
-/
import Derived.Test.YtejpjcdnhboooaaChecked
import GoSem.Claim
import GoSem.ClaimJoined
import GoSem.ClaimMapViews
import Derived.JoinedTies
import Derived.KernelRfl
namespace Go.Proofs.Ytejpjcdnhboooaa
/- THE CELL 'sum', in the pinned program and in every row, IS THE sha256 OF THE DUMP (.gsa) THAT YtejpjcdnhboooaaProg.lean LOADS. Nothing in Lean hashes anything: it is a label: what it is worth is what the hold of that sum in a sandbox is worth. -/
noncomputable def Try.pinned : Pinned := { name := "ytejpjcdnhboooaa", sum := "f901c27052e042c463f7fba9c3955b7a2cdb29f4d2f988c63d52486375b5b8ba", checked := Try.checked }
namespace Rows
def none {H : Type} : Left H := { results := [], args := [] }

/-- 'laws.FnExactSameCode': WHATEVER THE INPUT: true; the input reads as it did. -/
def fnExactSameCodeSpec : ChangeSpec := { name := "fnExactSameCode", fn := fun _ => fun
  | [d1, d2] => { results := [.lit (.bool true)], args := [d1, d2] }
  | _ => none }
def fnExactSameCodeRow : OpenClaim := { program := "ytejpjcdnhboooaa", sum := "f901c27052e042c463f7fba9c3955b7a2cdb29f4d2f988c63d52486375b5b8ba", func := "loop.example/g01144/laws.FnExactSameCode", spec := "fnExactSameCode", unfollowed := true, recurses := true, apart := false }
def FnExactSameCodeSaid : Prop := fnExactSameCodeRow.holds Try.pinned (OpenSpec.ofChange fnExactSameCodeSpec)

/-- ITS FALSE NEIGHBOUR: 'it returns false'. Refute it at one input. -/
def fnExactSameCodeWrong : ChangeSpec := { name := "fnExactSameCode", fn := fun _ => fun
  | [d1, d2] => { results := [.lit (.bool false)], args := [d1, d2] }
  | _ => none }
def FnExactSameCodeWrongFalsely : Prop := fnExactSameCodeRow.holds Try.pinned (OpenSpec.ofChange fnExactSameCodeWrong)

/-- 'laws.FnExactGreatestDimension': WHATEVER THE INPUT: true; the input reads as it did. -/
def fnExactGreatestDimensionSpec : ChangeSpec := { name := "fnExactGreatestDimension", fn := fun _ => fun
  | [d1, d2, d3] => { results := [.lit (.bool true)], args := [d1, d2, d3] }
  | _ => none }
def fnExactGreatestDimensionRow : OpenClaim := { program := "ytejpjcdnhboooaa", sum := "f901c27052e042c463f7fba9c3955b7a2cdb29f4d2f988c63d52486375b5b8ba", func := "loop.example/g01144/laws.FnExactGreatestDimension", spec := "fnExactGreatestDimension", unfollowed := true, recurses := true, apart := false }
def FnExactGreatestDimensionSaid : Prop := fnExactGreatestDimensionRow.holds Try.pinned (OpenSpec.ofChange fnExactGreatestDimensionSpec)

/-- ITS FALSE NEIGHBOUR: 'it returns false'. Refute it at one input. -/
def fnExactGreatestDimensionWrong : ChangeSpec := { name := "fnExactGreatestDimension", fn := fun _ => fun
  | [d1, d2, d3] => { results := [.lit (.bool false)], args := [d1, d2, d3] }
  | _ => none }
def FnExactGreatestDimensionWrongFalsely : Prop := fnExactGreatestDimensionRow.holds Try.pinned (OpenSpec.ofChange fnExactGreatestDimensionWrong)

/-- 'laws.FnExactCountRanks': WHATEVER THE INPUT: true; the input reads as it did. -/
def fnExactCountRanksSpec : ChangeSpec := { name := "fnExactCountRanks", fn := fun _ => fun
  | [d1, d2, d3] => { results := [.lit (.bool true)], args := [d1, d2, d3] }
  | _ => none }
def fnExactCountRanksRow : OpenClaim := { program := "ytejpjcdnhboooaa", sum := "f901c27052e042c463f7fba9c3955b7a2cdb29f4d2f988c63d52486375b5b8ba", func := "loop.example/g01144/laws.FnExactCountRanks", spec := "fnExactCountRanks", recurses := true, apart := false }
def FnExactCountRanksSaid : Prop := fnExactCountRanksRow.holds Try.pinned (OpenSpec.ofChange fnExactCountRanksSpec)

/-- ITS FALSE NEIGHBOUR: 'it returns false'. Refute it at one input. -/
def fnExactCountRanksWrong : ChangeSpec := { name := "fnExactCountRanks", fn := fun _ => fun
  | [d1, d2, d3] => { results := [.lit (.bool false)], args := [d1, d2, d3] }
  | _ => none }
def FnExactCountRanksWrongFalsely : Prop := fnExactCountRanksRow.holds Try.pinned (OpenSpec.ofChange fnExactCountRanksWrong)

/-- 'laws.FnExactDualWeights': WHATEVER THE INPUT: true; the input reads as it did. -/
def fnExactDualWeightsSpec : ChangeSpec := { name := "fnExactDualWeights", fn := fun _ => fun
  | [d1, d2, d3] => { results := [.lit (.bool true)], args := [d1, d2, d3] }
  | _ => none }
def fnExactDualWeightsRow : OpenClaim := { program := "ytejpjcdnhboooaa", sum := "f901c27052e042c463f7fba9c3955b7a2cdb29f4d2f988c63d52486375b5b8ba", func := "loop.example/g01144/laws.FnExactDualWeights", spec := "fnExactDualWeights", recurses := true, apart := false }
def FnExactDualWeightsSaid : Prop := fnExactDualWeightsRow.holds Try.pinned (OpenSpec.ofChange fnExactDualWeightsSpec)

/-- ITS FALSE NEIGHBOUR: 'it returns false'. Refute it at one input. -/
def fnExactDualWeightsWrong : ChangeSpec := { name := "fnExactDualWeights", fn := fun _ => fun
  | [d1, d2, d3] => { results := [.lit (.bool false)], args := [d1, d2, d3] }
  | _ => none }
def FnExactDualWeightsWrongFalsely : Prop := fnExactDualWeightsRow.holds Try.pinned (OpenSpec.ofChange fnExactDualWeightsWrong)

/-- 'laws.FnExactWordMatrix': WHATEVER THE INPUT: true; the input reads as it did. -/
def fnExactWordMatrixSpec : ChangeSpec := { name := "fnExactWordMatrix", fn := fun _ => fun
  | [d1, d2] => { results := [.lit (.bool true)], args := [d1, d2] }
  | _ => none }
def fnExactWordMatrixRow : OpenClaim := { program := "ytejpjcdnhboooaa", sum := "f901c27052e042c463f7fba9c3955b7a2cdb29f4d2f988c63d52486375b5b8ba", func := "loop.example/g01144/laws.FnExactWordMatrix", spec := "fnExactWordMatrix", unfollowed := true, recurses := true, apart := false }
def FnExactWordMatrixSaid : Prop := fnExactWordMatrixRow.holds Try.pinned (OpenSpec.ofChange fnExactWordMatrixSpec)

/-- ITS FALSE NEIGHBOUR: 'it returns false'. Refute it at one input. -/
def fnExactWordMatrixWrong : ChangeSpec := { name := "fnExactWordMatrix", fn := fun _ => fun
  | [d1, d2] => { results := [.lit (.bool false)], args := [d1, d2] }
  | _ => none }
def FnExactWordMatrixWrongFalsely : Prop := fnExactWordMatrixRow.holds Try.pinned (OpenSpec.ofChange fnExactWordMatrixWrong)

/-- 'laws.FnExactValidCode': WHATEVER THE INPUT: true; the input reads as it did. -/
def fnExactValidCodeSpec : ChangeSpec := { name := "fnExactValidCode", fn := fun _ => fun
  | [d] => { results := [.lit (.bool true)], args := [d] }
  | _ => none }
def fnExactValidCodeRow : OpenClaim := { program := "ytejpjcdnhboooaa", sum := "f901c27052e042c463f7fba9c3955b7a2cdb29f4d2f988c63d52486375b5b8ba", func := "loop.example/g01144/laws.FnExactValidCode", spec := "fnExactValidCode", inPlace := ["slices.overlaps[loop.example/g01144/impl.word]"], unfollowed := true, recurses := true, apart := false }
def FnExactValidCodeSaid : Prop := fnExactValidCodeRow.holds Try.pinned (OpenSpec.ofChange fnExactValidCodeSpec)

/-- ITS FALSE NEIGHBOUR: 'it returns false'. Refute it at one input. -/
def fnExactValidCodeWrong : ChangeSpec := { name := "fnExactValidCode", fn := fun _ => fun
  | [d] => { results := [.lit (.bool false)], args := [d] }
  | _ => none }
def FnExactValidCodeWrongFalsely : Prop := fnExactValidCodeRow.holds Try.pinned (OpenSpec.ofChange fnExactValidCodeWrong)

/-- 'laws.FnExactFieldRank': WHATEVER THE INPUT: true; the input reads as it did. -/
def fnExactFieldRankSpec : ChangeSpec := { name := "fnExactFieldRank", fn := fun _ => fun
  | [d1, d2, d3] => { results := [.lit (.bool true)], args := [d1, d2, d3] }
  | _ => none }
def fnExactFieldRankRow : OpenClaim := { program := "ytejpjcdnhboooaa", sum := "f901c27052e042c463f7fba9c3955b7a2cdb29f4d2f988c63d52486375b5b8ba", func := "loop.example/g01144/laws.FnExactFieldRank", spec := "fnExactFieldRank", inPlace := ["slices.overlaps[loop.example/g01144/impl.word]"], unfollowed := true, recurses := true, apart := false }
def FnExactFieldRankSaid : Prop := fnExactFieldRankRow.holds Try.pinned (OpenSpec.ofChange fnExactFieldRankSpec)

/-- ITS FALSE NEIGHBOUR: 'it returns false'. Refute it at one input. -/
def fnExactFieldRankWrong : ChangeSpec := { name := "fnExactFieldRank", fn := fun _ => fun
  | [d1, d2, d3] => { results := [.lit (.bool false)], args := [d1, d2, d3] }
  | _ => none }
def FnExactFieldRankWrongFalsely : Prop := fnExactFieldRankRow.holds Try.pinned (OpenSpec.ofChange fnExactFieldRankWrong)

/-- 'laws.FnExactFieldEchelon': WHATEVER THE INPUT: true; the input reads as it did. -/
def fnExactFieldEchelonSpec : ChangeSpec := { name := "fnExactFieldEchelon", fn := fun _ => fun
  | [d1, d2, d3] => { results := [.lit (.bool true)], args := [d1, d2, d3] }
  | _ => none }
def fnExactFieldEchelonRow : OpenClaim := { program := "ytejpjcdnhboooaa", sum := "f901c27052e042c463f7fba9c3955b7a2cdb29f4d2f988c63d52486375b5b8ba", func := "loop.example/g01144/laws.FnExactFieldEchelon", spec := "fnExactFieldEchelon", inPlace := ["slices.overlaps[loop.example/g01144/impl.word]"], unfollowed := true, recurses := true, apart := false }
def FnExactFieldEchelonSaid : Prop := fnExactFieldEchelonRow.holds Try.pinned (OpenSpec.ofChange fnExactFieldEchelonSpec)

/-- ITS FALSE NEIGHBOUR: 'it returns false'. Refute it at one input. -/
def fnExactFieldEchelonWrong : ChangeSpec := { name := "fnExactFieldEchelon", fn := fun _ => fun
  | [d1, d2, d3] => { results := [.lit (.bool false)], args := [d1, d2, d3] }
  | _ => none }
def FnExactFieldEchelonWrongFalsely : Prop := fnExactFieldEchelonRow.holds Try.pinned (OpenSpec.ofChange fnExactFieldEchelonWrong)

/- THE SECOND FORM. 'bulk': how many values and letters a reading holds, each counted each time it is reached (what is shared counts as often as it is met; a slice's spare places count too). A statement '..UptoSaid' is the law's where the arguments, and the package variables that the reading takes, are together of bulk at most 1048576: NARROWER than '..Said'. Prove '..Said' where nothing that the law and all that it calls make is longer than what came in: it says more and counts as full. Else prove '..UptoSaid'. A law counts once. -/
mutual
def uptoBulk {H : Type} : DataW H → Nat
  | .lit (.string bytes) => bytes.length + 1
  | .lit _ => 1
  | .nil => 1
  | .ptr d => uptoBulk d + 1
  | .slice elems spare => uptoBulkAll elems + uptoBulkAll spare + 1
  | .agg parts => uptoBulkAll parts + 1
  | .iface _ d => uptoBulk d + 1
  | .map entries => uptoBulkEntries entries + 1
  | .held _ => 1
def uptoBulkAll {H : Type} : List (DataW H) → Nat
  | [] => 0
  | d :: r => uptoBulk d + uptoBulkAll r
def uptoBulkEntries {H : Type} : List (Lit × DataW H) → Nat
  | [] => 0
  | x :: r => uptoBulkEntry x + uptoBulkEntries r
def uptoBulkEntry {H : Type} : Lit × DataW H → Nat
  | (.string bytes, d) => bytes.length + uptoBulk d + 1
  | (_, d) => uptoBulk d + 1
 end
def uptoSmall : (H : Type) → List (DataW H) → Bool := fun _ ds => decide (uptoBulkAll ds ≤ 1048576)
def OpenSpec.upto (s : _root_.Go.ChangeSpec) : _root_.Go.OpenSpec := { _root_.Go.OpenSpec.ofChange s with cond := some uptoSmall }

/-- 'laws.FnExactSameCode', WHERE WHAT IT READS IS OF BULK AT MOST 1048576: true; the input reads as it did. -/
def fnExactSameCodeUptoRow : OpenClaim := { program := "ytejpjcdnhboooaa", sum := "f901c27052e042c463f7fba9c3955b7a2cdb29f4d2f988c63d52486375b5b8ba", func := "loop.example/g01144/laws.FnExactSameCode", spec := "fnExactSameCode", unfollowed := true, recurses := true, apart := false, narrowed := true }
def FnExactSameCodeUptoSaid : Prop := fnExactSameCodeUptoRow.holds Try.pinned (OpenSpec.upto fnExactSameCodeSpec)

/-- 'laws.FnExactGreatestDimension', WHERE WHAT IT READS IS OF BULK AT MOST 1048576: true; the input reads as it did. -/
def fnExactGreatestDimensionUptoRow : OpenClaim := { program := "ytejpjcdnhboooaa", sum := "f901c27052e042c463f7fba9c3955b7a2cdb29f4d2f988c63d52486375b5b8ba", func := "loop.example/g01144/laws.FnExactGreatestDimension", spec := "fnExactGreatestDimension", unfollowed := true, recurses := true, apart := false, narrowed := true }
def FnExactGreatestDimensionUptoSaid : Prop := fnExactGreatestDimensionUptoRow.holds Try.pinned (OpenSpec.upto fnExactGreatestDimensionSpec)

/-- 'laws.FnExactCountRanks', WHERE WHAT IT READS IS OF BULK AT MOST 1048576: true; the input reads as it did. -/
def fnExactCountRanksUptoRow : OpenClaim := { program := "ytejpjcdnhboooaa", sum := "f901c27052e042c463f7fba9c3955b7a2cdb29f4d2f988c63d52486375b5b8ba", func := "loop.example/g01144/laws.FnExactCountRanks", spec := "fnExactCountRanks", recurses := true, apart := false, narrowed := true }
def FnExactCountRanksUptoSaid : Prop := fnExactCountRanksUptoRow.holds Try.pinned (OpenSpec.upto fnExactCountRanksSpec)

/-- 'laws.FnExactDualWeights', WHERE WHAT IT READS IS OF BULK AT MOST 1048576: true; the input reads as it did. -/
def fnExactDualWeightsUptoRow : OpenClaim := { program := "ytejpjcdnhboooaa", sum := "f901c27052e042c463f7fba9c3955b7a2cdb29f4d2f988c63d52486375b5b8ba", func := "loop.example/g01144/laws.FnExactDualWeights", spec := "fnExactDualWeights", recurses := true, apart := false, narrowed := true }
def FnExactDualWeightsUptoSaid : Prop := fnExactDualWeightsUptoRow.holds Try.pinned (OpenSpec.upto fnExactDualWeightsSpec)

/-- 'laws.FnExactWordMatrix', WHERE WHAT IT READS IS OF BULK AT MOST 1048576: true; the input reads as it did. -/
def fnExactWordMatrixUptoRow : OpenClaim := { program := "ytejpjcdnhboooaa", sum := "f901c27052e042c463f7fba9c3955b7a2cdb29f4d2f988c63d52486375b5b8ba", func := "loop.example/g01144/laws.FnExactWordMatrix", spec := "fnExactWordMatrix", unfollowed := true, recurses := true, apart := false, narrowed := true }
def FnExactWordMatrixUptoSaid : Prop := fnExactWordMatrixUptoRow.holds Try.pinned (OpenSpec.upto fnExactWordMatrixSpec)

/-- 'laws.FnExactValidCode', WHERE WHAT IT READS IS OF BULK AT MOST 1048576: true; the input reads as it did. -/
def fnExactValidCodeUptoRow : OpenClaim := { program := "ytejpjcdnhboooaa", sum := "f901c27052e042c463f7fba9c3955b7a2cdb29f4d2f988c63d52486375b5b8ba", func := "loop.example/g01144/laws.FnExactValidCode", spec := "fnExactValidCode", inPlace := ["slices.overlaps[loop.example/g01144/impl.word]"], unfollowed := true, recurses := true, apart := false, narrowed := true }
def FnExactValidCodeUptoSaid : Prop := fnExactValidCodeUptoRow.holds Try.pinned (OpenSpec.upto fnExactValidCodeSpec)

/-- 'laws.FnExactFieldRank', WHERE WHAT IT READS IS OF BULK AT MOST 1048576: true; the input reads as it did. -/
def fnExactFieldRankUptoRow : OpenClaim := { program := "ytejpjcdnhboooaa", sum := "f901c27052e042c463f7fba9c3955b7a2cdb29f4d2f988c63d52486375b5b8ba", func := "loop.example/g01144/laws.FnExactFieldRank", spec := "fnExactFieldRank", inPlace := ["slices.overlaps[loop.example/g01144/impl.word]"], unfollowed := true, recurses := true, apart := false, narrowed := true }
def FnExactFieldRankUptoSaid : Prop := fnExactFieldRankUptoRow.holds Try.pinned (OpenSpec.upto fnExactFieldRankSpec)

/-- 'laws.FnExactFieldEchelon', WHERE WHAT IT READS IS OF BULK AT MOST 1048576: true; the input reads as it did. -/
def fnExactFieldEchelonUptoRow : OpenClaim := { program := "ytejpjcdnhboooaa", sum := "f901c27052e042c463f7fba9c3955b7a2cdb29f4d2f988c63d52486375b5b8ba", func := "loop.example/g01144/laws.FnExactFieldEchelon", spec := "fnExactFieldEchelon", inPlace := ["slices.overlaps[loop.example/g01144/impl.word]"], unfollowed := true, recurses := true, apart := false, narrowed := true }
def FnExactFieldEchelonUptoSaid : Prop := fnExactFieldEchelonUptoRow.holds Try.pinned (OpenSpec.upto fnExactFieldEchelonSpec)

end Rows
end Go.Proofs.Ytejpjcdnhboooaa
