/-
  No cell of these rows narrows 'for every input' (looked for: loops, veiled, ifaces, maps, wideKeys, modest, calm, conditions, laid).
  DERIVED. THE GIVEN ROWS OF THIS SEAT. 12 by the template 'for every input the law returns true; each argument reads behind the call as it read before'; 0 by the template 'total and deterministic' (their statements: YtfpahdbkcdpchaaTotals.lean).
  GIVEN WITH THE SEED: the statements are not yours to turn. If you find one false, say at which input.
  Laid BY PROGRAM, IN A SANDBOX (cutbox-rows.mjs): the forced cells as the released guide's own fill.sh prints them over the translation 18ffd9a863c3506d… (all of the seat's roots in one cut). By AI agents, Wed Nov 11 2026. No macro, syntax, notation, axiom, sorry.
-/
import Derived.Test.YtfpahdbkcdpchaaChecked
import GoSem.Claim
import GoSem.ClaimJoined
import GoSem.ClaimMapViews
import Derived.JoinedTies
import Derived.KernelRfl
namespace Go.Proofs.Ytfpahdbkcdpchaa
/- THE CELL 'sum', in the pinned program and in every row, IS THE sha256 OF THE DUMP (.gsa) THAT YtfpahdbkcdpchaaProg.lean LOADS. Nothing in Lean hashes anything: it is a label: what it is worth is what the hold of that sum in a sandbox is worth. -/
noncomputable def Try.pinned : Pinned := { name := "ytfpahdbkcdpchaa", sum := "18ffd9a863c3506d34ca63c1a30e427709cf3a21786714993cc5de9f9e593ef2", checked := Try.checked }
namespace Rows
def none {H : Type} : Left H := { results := [], args := [] }

/-- 'laws.FnExactFieldEchelon': WHATEVER THE INPUT: true; the input reads as it did. -/
def fnExactFieldEchelonSpec : ChangeSpec := { name := "fnExactFieldEchelon", fn := fun _ => fun
  | [d1, d2, d3] => { results := [.lit (.bool true)], args := [d1, d2, d3] }
  | _ => none }
def fnExactFieldEchelonRow : OpenClaim := { program := "ytfpahdbkcdpchaa", sum := "18ffd9a863c3506d34ca63c1a30e427709cf3a21786714993cc5de9f9e593ef2", func := "loop.example/g01144/laws.FnExactFieldEchelon", spec := "fnExactFieldEchelon", inPlace := ["slices.overlaps[loop.example/g01144/impl.word]"], unfollowed := true, recurses := true, apart := false }
def FnExactFieldEchelonSaid : Prop := fnExactFieldEchelonRow.holds Try.pinned (OpenSpec.ofChange fnExactFieldEchelonSpec)

/-- ITS FALSE NEIGHBOUR: 'it returns false'. Refute it at one input. -/
def fnExactFieldEchelonWrong : ChangeSpec := { name := "fnExactFieldEchelon", fn := fun _ => fun
  | [d1, d2, d3] => { results := [.lit (.bool false)], args := [d1, d2, d3] }
  | _ => none }
def FnExactFieldEchelonWrongFalsely : Prop := fnExactFieldEchelonRow.holds Try.pinned (OpenSpec.ofChange fnExactFieldEchelonWrong)

/-- 'laws.FnExactFieldRank': WHATEVER THE INPUT: true; the input reads as it did. -/
def fnExactFieldRankSpec : ChangeSpec := { name := "fnExactFieldRank", fn := fun _ => fun
  | [d1, d2, d3] => { results := [.lit (.bool true)], args := [d1, d2, d3] }
  | _ => none }
def fnExactFieldRankRow : OpenClaim := { program := "ytfpahdbkcdpchaa", sum := "18ffd9a863c3506d34ca63c1a30e427709cf3a21786714993cc5de9f9e593ef2", func := "loop.example/g01144/laws.FnExactFieldRank", spec := "fnExactFieldRank", inPlace := ["slices.overlaps[loop.example/g01144/impl.word]"], unfollowed := true, recurses := true, apart := false }
def FnExactFieldRankSaid : Prop := fnExactFieldRankRow.holds Try.pinned (OpenSpec.ofChange fnExactFieldRankSpec)

/-- ITS FALSE NEIGHBOUR: 'it returns false'. Refute it at one input. -/
def fnExactFieldRankWrong : ChangeSpec := { name := "fnExactFieldRank", fn := fun _ => fun
  | [d1, d2, d3] => { results := [.lit (.bool false)], args := [d1, d2, d3] }
  | _ => none }
def FnExactFieldRankWrongFalsely : Prop := fnExactFieldRankRow.holds Try.pinned (OpenSpec.ofChange fnExactFieldRankWrong)

/-- 'laws.FnExactCodeOf': WHATEVER THE INPUT: true; the input reads as it did. -/
def fnExactCodeOfSpec : ChangeSpec := { name := "fnExactCodeOf", fn := fun _ => fun
  | [d1, d2, d3] => { results := [.lit (.bool true)], args := [d1, d2, d3] }
  | _ => none }
def fnExactCodeOfRow : OpenClaim := { program := "ytfpahdbkcdpchaa", sum := "18ffd9a863c3506d34ca63c1a30e427709cf3a21786714993cc5de9f9e593ef2", func := "loop.example/g01144/laws.FnExactCodeOf", spec := "fnExactCodeOf", inPlace := ["slices.overlaps[loop.example/g01144/impl.word]"], unfollowed := true, recurses := true, apart := false }
def FnExactCodeOfSaid : Prop := fnExactCodeOfRow.holds Try.pinned (OpenSpec.ofChange fnExactCodeOfSpec)

/-- ITS FALSE NEIGHBOUR: 'it returns false'. Refute it at one input. -/
def fnExactCodeOfWrong : ChangeSpec := { name := "fnExactCodeOf", fn := fun _ => fun
  | [d1, d2, d3] => { results := [.lit (.bool false)], args := [d1, d2, d3] }
  | _ => none }
def FnExactCodeOfWrongFalsely : Prop := fnExactCodeOfRow.holds Try.pinned (OpenSpec.ofChange fnExactCodeOfWrong)

/-- 'laws.FnExactValidCode': WHATEVER THE INPUT: true; the input reads as it did. -/
def fnExactValidCodeSpec : ChangeSpec := { name := "fnExactValidCode", fn := fun _ => fun
  | [d] => { results := [.lit (.bool true)], args := [d] }
  | _ => none }
def fnExactValidCodeRow : OpenClaim := { program := "ytfpahdbkcdpchaa", sum := "18ffd9a863c3506d34ca63c1a30e427709cf3a21786714993cc5de9f9e593ef2", func := "loop.example/g01144/laws.FnExactValidCode", spec := "fnExactValidCode", inPlace := ["slices.overlaps[loop.example/g01144/impl.word]"], unfollowed := true, recurses := true, apart := false }
def FnExactValidCodeSaid : Prop := fnExactValidCodeRow.holds Try.pinned (OpenSpec.ofChange fnExactValidCodeSpec)

/-- ITS FALSE NEIGHBOUR: 'it returns false'. Refute it at one input. -/
def fnExactValidCodeWrong : ChangeSpec := { name := "fnExactValidCode", fn := fun _ => fun
  | [d] => { results := [.lit (.bool false)], args := [d] }
  | _ => none }
def FnExactValidCodeWrongFalsely : Prop := fnExactValidCodeRow.holds Try.pinned (OpenSpec.ofChange fnExactValidCodeWrong)

/-- 'laws.FnExactSameCode': WHATEVER THE INPUT: true; the input reads as it did. -/
def fnExactSameCodeSpec : ChangeSpec := { name := "fnExactSameCode", fn := fun _ => fun
  | [d1, d2] => { results := [.lit (.bool true)], args := [d1, d2] }
  | _ => none }
def fnExactSameCodeRow : OpenClaim := { program := "ytfpahdbkcdpchaa", sum := "18ffd9a863c3506d34ca63c1a30e427709cf3a21786714993cc5de9f9e593ef2", func := "loop.example/g01144/laws.FnExactSameCode", spec := "fnExactSameCode", unfollowed := true, recurses := true, apart := false }
def FnExactSameCodeSaid : Prop := fnExactSameCodeRow.holds Try.pinned (OpenSpec.ofChange fnExactSameCodeSpec)

/-- ITS FALSE NEIGHBOUR: 'it returns false'. Refute it at one input. -/
def fnExactSameCodeWrong : ChangeSpec := { name := "fnExactSameCode", fn := fun _ => fun
  | [d1, d2] => { results := [.lit (.bool false)], args := [d1, d2] }
  | _ => none }
def FnExactSameCodeWrongFalsely : Prop := fnExactSameCodeRow.holds Try.pinned (OpenSpec.ofChange fnExactSameCodeWrong)

/-- 'laws.FnExactEncodeWith': WHATEVER THE INPUT: true; the input reads as it did. -/
def fnExactEncodeWithSpec : ChangeSpec := { name := "fnExactEncodeWith", fn := fun _ => fun
  | [d1, d2] => { results := [.lit (.bool true)], args := [d1, d2] }
  | _ => none }
def fnExactEncodeWithRow : OpenClaim := { program := "ytfpahdbkcdpchaa", sum := "18ffd9a863c3506d34ca63c1a30e427709cf3a21786714993cc5de9f9e593ef2", func := "loop.example/g01144/laws.FnExactEncodeWith", spec := "fnExactEncodeWith", inPlace := ["slices.overlaps[loop.example/g01144/impl.word]"], unfollowed := true, recurses := true, apart := false }
def FnExactEncodeWithSaid : Prop := fnExactEncodeWithRow.holds Try.pinned (OpenSpec.ofChange fnExactEncodeWithSpec)

/-- ITS FALSE NEIGHBOUR: 'it returns false'. Refute it at one input. -/
def fnExactEncodeWithWrong : ChangeSpec := { name := "fnExactEncodeWith", fn := fun _ => fun
  | [d1, d2] => { results := [.lit (.bool false)], args := [d1, d2] }
  | _ => none }
def FnExactEncodeWithWrongFalsely : Prop := fnExactEncodeWithRow.holds Try.pinned (OpenSpec.ofChange fnExactEncodeWithWrong)

/-- 'laws.FnExactMessageOf': WHATEVER THE INPUT: true; the input reads as it did. -/
def fnExactMessageOfSpec : ChangeSpec := { name := "fnExactMessageOf", fn := fun _ => fun
  | [d1, d2] => { results := [.lit (.bool true)], args := [d1, d2] }
  | _ => none }
def fnExactMessageOfRow : OpenClaim := { program := "ytfpahdbkcdpchaa", sum := "18ffd9a863c3506d34ca63c1a30e427709cf3a21786714993cc5de9f9e593ef2", func := "loop.example/g01144/laws.FnExactMessageOf", spec := "fnExactMessageOf", inPlace := ["slices.overlaps[loop.example/g01144/impl.word]"], unfollowed := true, recurses := true, apart := false }
def FnExactMessageOfSaid : Prop := fnExactMessageOfRow.holds Try.pinned (OpenSpec.ofChange fnExactMessageOfSpec)

/-- ITS FALSE NEIGHBOUR: 'it returns false'. Refute it at one input. -/
def fnExactMessageOfWrong : ChangeSpec := { name := "fnExactMessageOf", fn := fun _ => fun
  | [d1, d2] => { results := [.lit (.bool false)], args := [d1, d2] }
  | _ => none }
def FnExactMessageOfWrongFalsely : Prop := fnExactMessageOfRow.holds Try.pinned (OpenSpec.ofChange fnExactMessageOfWrong)

/-- 'laws.FnExactWordsOf': WHATEVER THE INPUT: true; the input reads as it did. -/
def fnExactWordsOfSpec : ChangeSpec := { name := "fnExactWordsOf", fn := fun _ => fun
  | [d] => { results := [.lit (.bool true)], args := [d] }
  | _ => none }
def fnExactWordsOfRow : OpenClaim := { program := "ytfpahdbkcdpchaa", sum := "18ffd9a863c3506d34ca63c1a30e427709cf3a21786714993cc5de9f9e593ef2", func := "loop.example/g01144/laws.FnExactWordsOf", spec := "fnExactWordsOf", inPlace := ["slices.overlaps[loop.example/g01144/impl.word]"], unfollowed := true, recurses := true, apart := false }
def FnExactWordsOfSaid : Prop := fnExactWordsOfRow.holds Try.pinned (OpenSpec.ofChange fnExactWordsOfSpec)

/-- ITS FALSE NEIGHBOUR: 'it returns false'. Refute it at one input. -/
def fnExactWordsOfWrong : ChangeSpec := { name := "fnExactWordsOf", fn := fun _ => fun
  | [d] => { results := [.lit (.bool false)], args := [d] }
  | _ => none }
def FnExactWordsOfWrongFalsely : Prop := fnExactWordsOfRow.holds Try.pinned (OpenSpec.ofChange fnExactWordsOfWrong)

/-- 'laws.FnExactDualCode': WHATEVER THE INPUT: true; the input reads as it did. -/
def fnExactDualCodeSpec : ChangeSpec := { name := "fnExactDualCode", fn := fun _ => fun
  | [d] => { results := [.lit (.bool true)], args := [d] }
  | _ => none }
def fnExactDualCodeRow : OpenClaim := { program := "ytfpahdbkcdpchaa", sum := "18ffd9a863c3506d34ca63c1a30e427709cf3a21786714993cc5de9f9e593ef2", func := "loop.example/g01144/laws.FnExactDualCode", spec := "fnExactDualCode", inPlace := ["slices.overlaps[loop.example/g01144/impl.word]"], unfollowed := true, recurses := true, apart := false }
def FnExactDualCodeSaid : Prop := fnExactDualCodeRow.holds Try.pinned (OpenSpec.ofChange fnExactDualCodeSpec)

/-- ITS FALSE NEIGHBOUR: 'it returns false'. Refute it at one input. -/
def fnExactDualCodeWrong : ChangeSpec := { name := "fnExactDualCode", fn := fun _ => fun
  | [d] => { results := [.lit (.bool false)], args := [d] }
  | _ => none }
def FnExactDualCodeWrongFalsely : Prop := fnExactDualCodeRow.holds Try.pinned (OpenSpec.ofChange fnExactDualCodeWrong)

/-- 'laws.FnExactSameNet': WHATEVER THE INPUT: true; the input reads as it did. -/
def fnExactSameNetSpec : ChangeSpec := { name := "fnExactSameNet", fn := fun _ => fun
  | [d1, d2] => { results := [.lit (.bool true)], args := [d1, d2] }
  | _ => none }
def fnExactSameNetRow : OpenClaim := { program := "ytfpahdbkcdpchaa", sum := "18ffd9a863c3506d34ca63c1a30e427709cf3a21786714993cc5de9f9e593ef2", func := "loop.example/g01144/laws.FnExactSameNet", spec := "fnExactSameNet", unfollowed := true, recurses := true, apart := false }
def FnExactSameNetSaid : Prop := fnExactSameNetRow.holds Try.pinned (OpenSpec.ofChange fnExactSameNetSpec)

/-- ITS FALSE NEIGHBOUR: 'it returns false'. Refute it at one input. -/
def fnExactSameNetWrong : ChangeSpec := { name := "fnExactSameNet", fn := fun _ => fun
  | [d1, d2] => { results := [.lit (.bool false)], args := [d1, d2] }
  | _ => none }
def FnExactSameNetWrongFalsely : Prop := fnExactSameNetRow.holds Try.pinned (OpenSpec.ofChange fnExactSameNetWrong)

/-- 'laws.FnExactValidNet': WHATEVER THE INPUT: true; the input reads as it did. -/
def fnExactValidNetSpec : ChangeSpec := { name := "fnExactValidNet", fn := fun _ => fun
  | [d] => { results := [.lit (.bool true)], args := [d] }
  | _ => none }
def fnExactValidNetRow : OpenClaim := { program := "ytfpahdbkcdpchaa", sum := "18ffd9a863c3506d34ca63c1a30e427709cf3a21786714993cc5de9f9e593ef2", func := "loop.example/g01144/laws.FnExactValidNet", spec := "fnExactValidNet", unfollowed := true, recurses := true, apart := false }
def FnExactValidNetSaid : Prop := fnExactValidNetRow.holds Try.pinned (OpenSpec.ofChange fnExactValidNetSpec)

/-- ITS FALSE NEIGHBOUR: 'it returns false'. Refute it at one input. -/
def fnExactValidNetWrong : ChangeSpec := { name := "fnExactValidNet", fn := fun _ => fun
  | [d] => { results := [.lit (.bool false)], args := [d] }
  | _ => none }
def FnExactValidNetWrongFalsely : Prop := fnExactValidNetRow.holds Try.pinned (OpenSpec.ofChange fnExactValidNetWrong)

/-- 'laws.FnExactEdgesInto': WHATEVER THE INPUT: true; the input reads as it did. -/
def fnExactEdgesIntoSpec : ChangeSpec := { name := "fnExactEdgesInto", fn := fun _ => fun
  | [d1, d2] => { results := [.lit (.bool true)], args := [d1, d2] }
  | _ => none }
def fnExactEdgesIntoRow : OpenClaim := { program := "ytfpahdbkcdpchaa", sum := "18ffd9a863c3506d34ca63c1a30e427709cf3a21786714993cc5de9f9e593ef2", func := "loop.example/g01144/laws.FnExactEdgesInto", spec := "fnExactEdgesInto", unfollowed := true, recurses := true, apart := false }
def FnExactEdgesIntoSaid : Prop := fnExactEdgesIntoRow.holds Try.pinned (OpenSpec.ofChange fnExactEdgesIntoSpec)

/-- ITS FALSE NEIGHBOUR: 'it returns false'. Refute it at one input. -/
def fnExactEdgesIntoWrong : ChangeSpec := { name := "fnExactEdgesInto", fn := fun _ => fun
  | [d1, d2] => { results := [.lit (.bool false)], args := [d1, d2] }
  | _ => none }
def FnExactEdgesIntoWrongFalsely : Prop := fnExactEdgesIntoRow.holds Try.pinned (OpenSpec.ofChange fnExactEdgesIntoWrong)

/- THE SECOND FORM. 'bulk': how many values and letters a reading holds, each counted each time it is reached (what is shared counts as often as it is met; a slice's spare places count too). A statement '..UptoSaid' is the law's where the arguments, and the package variables that the reading takes, are together of bulk at most 1048576: NARROWER than '..Said'. Prove '..Said' where nothing that the law and all that it calls make is longer than what came in: it says more and counts as full. Else prove '..UptoSaid'. A law counts once. -/
mutual
def uptoBulk {H : Type} : DataW H → Nat
  | .lit (.string bytes) => bytes.length + 1
  | .lit _ => 1
  | .nil => 1
  | .ptr d => uptoBulk d + 1
  | .slice elems spare => uptoBulkAll elems + uptoBulkAll spare + 1
  | .agg parts => uptoBulkAll parts + 1
  | .iface _ d => uptoBulk d + 1
  | .map entries => uptoBulkEntries entries + 1
  | .held _ => 1
def uptoBulkAll {H : Type} : List (DataW H) → Nat
  | [] => 0
  | d :: r => uptoBulk d + uptoBulkAll r
def uptoBulkEntries {H : Type} : List (Lit × DataW H) → Nat
  | [] => 0
  | x :: r => uptoBulkEntry x + uptoBulkEntries r
def uptoBulkEntry {H : Type} : Lit × DataW H → Nat
  | (.string bytes, d) => bytes.length + uptoBulk d + 1
  | (_, d) => uptoBulk d + 1
 end
def uptoSmall : (H : Type) → List (DataW H) → Bool := fun _ ds => decide (uptoBulkAll ds ≤ 1048576)
def OpenSpec.upto (s : _root_.Go.ChangeSpec) : _root_.Go.OpenSpec := { _root_.Go.OpenSpec.ofChange s with cond := some uptoSmall }

/-- 'laws.FnExactFieldEchelon', WHERE WHAT IT READS IS OF BULK AT MOST 1048576: true; the input reads as it did. -/
def fnExactFieldEchelonUptoRow : OpenClaim := { program := "ytfpahdbkcdpchaa", sum := "18ffd9a863c3506d34ca63c1a30e427709cf3a21786714993cc5de9f9e593ef2", func := "loop.example/g01144/laws.FnExactFieldEchelon", spec := "fnExactFieldEchelon", inPlace := ["slices.overlaps[loop.example/g01144/impl.word]"], unfollowed := true, recurses := true, apart := false, narrowed := true }
def FnExactFieldEchelonUptoSaid : Prop := fnExactFieldEchelonUptoRow.holds Try.pinned (OpenSpec.upto fnExactFieldEchelonSpec)

/-- 'laws.FnExactFieldRank', WHERE WHAT IT READS IS OF BULK AT MOST 1048576: true; the input reads as it did. -/
def fnExactFieldRankUptoRow : OpenClaim := { program := "ytfpahdbkcdpchaa", sum := "18ffd9a863c3506d34ca63c1a30e427709cf3a21786714993cc5de9f9e593ef2", func := "loop.example/g01144/laws.FnExactFieldRank", spec := "fnExactFieldRank", inPlace := ["slices.overlaps[loop.example/g01144/impl.word]"], unfollowed := true, recurses := true, apart := false, narrowed := true }
def FnExactFieldRankUptoSaid : Prop := fnExactFieldRankUptoRow.holds Try.pinned (OpenSpec.upto fnExactFieldRankSpec)

/-- 'laws.FnExactCodeOf', WHERE WHAT IT READS IS OF BULK AT MOST 1048576: true; the input reads as it did. -/
def fnExactCodeOfUptoRow : OpenClaim := { program := "ytfpahdbkcdpchaa", sum := "18ffd9a863c3506d34ca63c1a30e427709cf3a21786714993cc5de9f9e593ef2", func := "loop.example/g01144/laws.FnExactCodeOf", spec := "fnExactCodeOf", inPlace := ["slices.overlaps[loop.example/g01144/impl.word]"], unfollowed := true, recurses := true, apart := false, narrowed := true }
def FnExactCodeOfUptoSaid : Prop := fnExactCodeOfUptoRow.holds Try.pinned (OpenSpec.upto fnExactCodeOfSpec)

/-- 'laws.FnExactValidCode', WHERE WHAT IT READS IS OF BULK AT MOST 1048576: true; the input reads as it did. -/
def fnExactValidCodeUptoRow : OpenClaim := { program := "ytfpahdbkcdpchaa", sum := "18ffd9a863c3506d34ca63c1a30e427709cf3a21786714993cc5de9f9e593ef2", func := "loop.example/g01144/laws.FnExactValidCode", spec := "fnExactValidCode", inPlace := ["slices.overlaps[loop.example/g01144/impl.word]"], unfollowed := true, recurses := true, apart := false, narrowed := true }
def FnExactValidCodeUptoSaid : Prop := fnExactValidCodeUptoRow.holds Try.pinned (OpenSpec.upto fnExactValidCodeSpec)

/-- 'laws.FnExactSameCode', WHERE WHAT IT READS IS OF BULK AT MOST 1048576: true; the input reads as it did. -/
def fnExactSameCodeUptoRow : OpenClaim := { program := "ytfpahdbkcdpchaa", sum := "18ffd9a863c3506d34ca63c1a30e427709cf3a21786714993cc5de9f9e593ef2", func := "loop.example/g01144/laws.FnExactSameCode", spec := "fnExactSameCode", unfollowed := true, recurses := true, apart := false, narrowed := true }
def FnExactSameCodeUptoSaid : Prop := fnExactSameCodeUptoRow.holds Try.pinned (OpenSpec.upto fnExactSameCodeSpec)

/-- 'laws.FnExactEncodeWith', WHERE WHAT IT READS IS OF BULK AT MOST 1048576: true; the input reads as it did. -/
def fnExactEncodeWithUptoRow : OpenClaim := { program := "ytfpahdbkcdpchaa", sum := "18ffd9a863c3506d34ca63c1a30e427709cf3a21786714993cc5de9f9e593ef2", func := "loop.example/g01144/laws.FnExactEncodeWith", spec := "fnExactEncodeWith", inPlace := ["slices.overlaps[loop.example/g01144/impl.word]"], unfollowed := true, recurses := true, apart := false, narrowed := true }
def FnExactEncodeWithUptoSaid : Prop := fnExactEncodeWithUptoRow.holds Try.pinned (OpenSpec.upto fnExactEncodeWithSpec)

/-- 'laws.FnExactMessageOf', WHERE WHAT IT READS IS OF BULK AT MOST 1048576: true; the input reads as it did. -/
def fnExactMessageOfUptoRow : OpenClaim := { program := "ytfpahdbkcdpchaa", sum := "18ffd9a863c3506d34ca63c1a30e427709cf3a21786714993cc5de9f9e593ef2", func := "loop.example/g01144/laws.FnExactMessageOf", spec := "fnExactMessageOf", inPlace := ["slices.overlaps[loop.example/g01144/impl.word]"], unfollowed := true, recurses := true, apart := false, narrowed := true }
def FnExactMessageOfUptoSaid : Prop := fnExactMessageOfUptoRow.holds Try.pinned (OpenSpec.upto fnExactMessageOfSpec)

/-- 'laws.FnExactWordsOf', WHERE WHAT IT READS IS OF BULK AT MOST 1048576: true; the input reads as it did. -/
def fnExactWordsOfUptoRow : OpenClaim := { program := "ytfpahdbkcdpchaa", sum := "18ffd9a863c3506d34ca63c1a30e427709cf3a21786714993cc5de9f9e593ef2", func := "loop.example/g01144/laws.FnExactWordsOf", spec := "fnExactWordsOf", inPlace := ["slices.overlaps[loop.example/g01144/impl.word]"], unfollowed := true, recurses := true, apart := false, narrowed := true }
def FnExactWordsOfUptoSaid : Prop := fnExactWordsOfUptoRow.holds Try.pinned (OpenSpec.upto fnExactWordsOfSpec)

/-- 'laws.FnExactDualCode', WHERE WHAT IT READS IS OF BULK AT MOST 1048576: true; the input reads as it did. -/
def fnExactDualCodeUptoRow : OpenClaim := { program := "ytfpahdbkcdpchaa", sum := "18ffd9a863c3506d34ca63c1a30e427709cf3a21786714993cc5de9f9e593ef2", func := "loop.example/g01144/laws.FnExactDualCode", spec := "fnExactDualCode", inPlace := ["slices.overlaps[loop.example/g01144/impl.word]"], unfollowed := true, recurses := true, apart := false, narrowed := true }
def FnExactDualCodeUptoSaid : Prop := fnExactDualCodeUptoRow.holds Try.pinned (OpenSpec.upto fnExactDualCodeSpec)

/-- 'laws.FnExactSameNet', WHERE WHAT IT READS IS OF BULK AT MOST 1048576: true; the input reads as it did. -/
def fnExactSameNetUptoRow : OpenClaim := { program := "ytfpahdbkcdpchaa", sum := "18ffd9a863c3506d34ca63c1a30e427709cf3a21786714993cc5de9f9e593ef2", func := "loop.example/g01144/laws.FnExactSameNet", spec := "fnExactSameNet", unfollowed := true, recurses := true, apart := false, narrowed := true }
def FnExactSameNetUptoSaid : Prop := fnExactSameNetUptoRow.holds Try.pinned (OpenSpec.upto fnExactSameNetSpec)

/-- 'laws.FnExactValidNet', WHERE WHAT IT READS IS OF BULK AT MOST 1048576: true; the input reads as it did. -/
def fnExactValidNetUptoRow : OpenClaim := { program := "ytfpahdbkcdpchaa", sum := "18ffd9a863c3506d34ca63c1a30e427709cf3a21786714993cc5de9f9e593ef2", func := "loop.example/g01144/laws.FnExactValidNet", spec := "fnExactValidNet", unfollowed := true, recurses := true, apart := false, narrowed := true }
def FnExactValidNetUptoSaid : Prop := fnExactValidNetUptoRow.holds Try.pinned (OpenSpec.upto fnExactValidNetSpec)

/-- 'laws.FnExactEdgesInto', WHERE WHAT IT READS IS OF BULK AT MOST 1048576: true; the input reads as it did. -/
def fnExactEdgesIntoUptoRow : OpenClaim := { program := "ytfpahdbkcdpchaa", sum := "18ffd9a863c3506d34ca63c1a30e427709cf3a21786714993cc5de9f9e593ef2", func := "loop.example/g01144/laws.FnExactEdgesInto", spec := "fnExactEdgesInto", unfollowed := true, recurses := true, apart := false, narrowed := true }
def FnExactEdgesIntoUptoSaid : Prop := fnExactEdgesIntoUptoRow.holds Try.pinned (OpenSpec.upto fnExactEdgesIntoSpec)

end Rows
end Go.Proofs.Ytfpahdbkcdpchaa
