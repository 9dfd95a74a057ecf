/-
  No cell of these rows narrows 'for every input' (looked for: loops, veiled, ifaces, maps, wideKeys, modest, calm, conditions, laid).
  DERIVED. THE GIVEN ROWS OF THIS SEAT. 11 by the template 'for every input the law returns true; each argument reads behind the call as it read before'; 0 by the template 'total and deterministic' (their statements: YtljaabmemjehpaaTotals.lean).
  GIVEN WITH THE SEED: the statements are not yours to turn. If you find one false, say at which input.
  Laid BY PROGRAM, IN A SANDBOX (cutbox-rows.mjs): the forced cells as the released guide's own fill.sh prints them over the translation 0f3df4059b7e4acd… (all of the seat's roots in one cut). By AI agents, Wed Nov 11 2026. No macro, syntax, notation, axiom, sorry.
-/
import Derived.Test.YtljaabmemjehpaaChecked
import GoSem.Claim
import GoSem.ClaimJoined
import GoSem.ClaimMapViews
import Derived.JoinedTies
import Derived.KernelRfl
namespace Go.Proofs.Ytljaabmemjehpaa
/- THE CELL 'sum', in the pinned program and in every row, IS THE sha256 OF THE DUMP (.gsa) THAT YtljaabmemjehpaaProg.lean LOADS. Nothing in Lean hashes anything: it is a label: what it is worth is what the hold of that sum in a sandbox is worth. -/
noncomputable def Try.pinned : Pinned := { name := "ytljaabmemjehpaa", sum := "0f3df4059b7e4acd26ec2187fac15102ea8d961a3e9c18bbfb855740b9f3560c", checked := Try.checked }
namespace Rows
def none {H : Type} : Left H := { results := [], args := [] }

/-- 'laws.FnExactEncodeWith': WHATEVER THE INPUT: true; the input reads as it did. -/
def fnExactEncodeWithSpec : ChangeSpec := { name := "fnExactEncodeWith", fn := fun _ => fun
  | [d1, d2] => { results := [.lit (.bool true)], args := [d1, d2] }
  | _ => none }
def fnExactEncodeWithRow : OpenClaim := { program := "ytljaabmemjehpaa", sum := "0f3df4059b7e4acd26ec2187fac15102ea8d961a3e9c18bbfb855740b9f3560c", func := "loop.example/g01144/laws.FnExactEncodeWith", spec := "fnExactEncodeWith", inPlace := ["slices.overlaps[loop.example/g01144/impl.word]"], unfollowed := true, recurses := true, apart := false }
def FnExactEncodeWithSaid : Prop := fnExactEncodeWithRow.holds Try.pinned (OpenSpec.ofChange fnExactEncodeWithSpec)

/-- ITS FALSE NEIGHBOUR: 'it returns false'. Refute it at one input. -/
def fnExactEncodeWithWrong : ChangeSpec := { name := "fnExactEncodeWith", fn := fun _ => fun
  | [d1, d2] => { results := [.lit (.bool false)], args := [d1, d2] }
  | _ => none }
def FnExactEncodeWithWrongFalsely : Prop := fnExactEncodeWithRow.holds Try.pinned (OpenSpec.ofChange fnExactEncodeWithWrong)

/-- 'laws.FnExactMessageOf': WHATEVER THE INPUT: true; the input reads as it did. -/
def fnExactMessageOfSpec : ChangeSpec := { name := "fnExactMessageOf", fn := fun _ => fun
  | [d1, d2] => { results := [.lit (.bool true)], args := [d1, d2] }
  | _ => none }
def fnExactMessageOfRow : OpenClaim := { program := "ytljaabmemjehpaa", sum := "0f3df4059b7e4acd26ec2187fac15102ea8d961a3e9c18bbfb855740b9f3560c", func := "loop.example/g01144/laws.FnExactMessageOf", spec := "fnExactMessageOf", inPlace := ["slices.overlaps[loop.example/g01144/impl.word]"], unfollowed := true, recurses := true, apart := false }
def FnExactMessageOfSaid : Prop := fnExactMessageOfRow.holds Try.pinned (OpenSpec.ofChange fnExactMessageOfSpec)

/-- ITS FALSE NEIGHBOUR: 'it returns false'. Refute it at one input. -/
def fnExactMessageOfWrong : ChangeSpec := { name := "fnExactMessageOf", fn := fun _ => fun
  | [d1, d2] => { results := [.lit (.bool false)], args := [d1, d2] }
  | _ => none }
def FnExactMessageOfWrongFalsely : Prop := fnExactMessageOfRow.holds Try.pinned (OpenSpec.ofChange fnExactMessageOfWrong)

/-- 'laws.FnExactWordsOf': WHATEVER THE INPUT: true; the input reads as it did. -/
def fnExactWordsOfSpec : ChangeSpec := { name := "fnExactWordsOf", fn := fun _ => fun
  | [d] => { results := [.lit (.bool true)], args := [d] }
  | _ => none }
def fnExactWordsOfRow : OpenClaim := { program := "ytljaabmemjehpaa", sum := "0f3df4059b7e4acd26ec2187fac15102ea8d961a3e9c18bbfb855740b9f3560c", func := "loop.example/g01144/laws.FnExactWordsOf", spec := "fnExactWordsOf", inPlace := ["slices.overlaps[loop.example/g01144/impl.word]"], unfollowed := true, recurses := true, apart := false }
def FnExactWordsOfSaid : Prop := fnExactWordsOfRow.holds Try.pinned (OpenSpec.ofChange fnExactWordsOfSpec)

/-- ITS FALSE NEIGHBOUR: 'it returns false'. Refute it at one input. -/
def fnExactWordsOfWrong : ChangeSpec := { name := "fnExactWordsOf", fn := fun _ => fun
  | [d] => { results := [.lit (.bool false)], args := [d] }
  | _ => none }
def FnExactWordsOfWrongFalsely : Prop := fnExactWordsOfRow.holds Try.pinned (OpenSpec.ofChange fnExactWordsOfWrong)

/-- 'laws.FnExactDualCode': WHATEVER THE INPUT: true; the input reads as it did. -/
def fnExactDualCodeSpec : ChangeSpec := { name := "fnExactDualCode", fn := fun _ => fun
  | [d] => { results := [.lit (.bool true)], args := [d] }
  | _ => none }
def fnExactDualCodeRow : OpenClaim := { program := "ytljaabmemjehpaa", sum := "0f3df4059b7e4acd26ec2187fac15102ea8d961a3e9c18bbfb855740b9f3560c", func := "loop.example/g01144/laws.FnExactDualCode", spec := "fnExactDualCode", inPlace := ["slices.overlaps[loop.example/g01144/impl.word]"], unfollowed := true, recurses := true, apart := false }
def FnExactDualCodeSaid : Prop := fnExactDualCodeRow.holds Try.pinned (OpenSpec.ofChange fnExactDualCodeSpec)

/-- ITS FALSE NEIGHBOUR: 'it returns false'. Refute it at one input. -/
def fnExactDualCodeWrong : ChangeSpec := { name := "fnExactDualCode", fn := fun _ => fun
  | [d] => { results := [.lit (.bool false)], args := [d] }
  | _ => none }
def FnExactDualCodeWrongFalsely : Prop := fnExactDualCodeRow.holds Try.pinned (OpenSpec.ofChange fnExactDualCodeWrong)

/-- 'laws.FnExactEdgesInto': WHATEVER THE INPUT: true; the input reads as it did. -/
def fnExactEdgesIntoSpec : ChangeSpec := { name := "fnExactEdgesInto", fn := fun _ => fun
  | [d1, d2] => { results := [.lit (.bool true)], args := [d1, d2] }
  | _ => none }
def fnExactEdgesIntoRow : OpenClaim := { program := "ytljaabmemjehpaa", sum := "0f3df4059b7e4acd26ec2187fac15102ea8d961a3e9c18bbfb855740b9f3560c", func := "loop.example/g01144/laws.FnExactEdgesInto", spec := "fnExactEdgesInto", unfollowed := true, recurses := true, apart := false }
def FnExactEdgesIntoSaid : Prop := fnExactEdgesIntoRow.holds Try.pinned (OpenSpec.ofChange fnExactEdgesIntoSpec)

/-- ITS FALSE NEIGHBOUR: 'it returns false'. Refute it at one input. -/
def fnExactEdgesIntoWrong : ChangeSpec := { name := "fnExactEdgesInto", fn := fun _ => fun
  | [d1, d2] => { results := [.lit (.bool false)], args := [d1, d2] }
  | _ => none }
def FnExactEdgesIntoWrongFalsely : Prop := fnExactEdgesIntoRow.holds Try.pinned (OpenSpec.ofChange fnExactEdgesIntoWrong)

/-- 'laws.FnExactValidNet': WHATEVER THE INPUT: true; the input reads as it did. -/
def fnExactValidNetSpec : ChangeSpec := { name := "fnExactValidNet", fn := fun _ => fun
  | [d] => { results := [.lit (.bool true)], args := [d] }
  | _ => none }
def fnExactValidNetRow : OpenClaim := { program := "ytljaabmemjehpaa", sum := "0f3df4059b7e4acd26ec2187fac15102ea8d961a3e9c18bbfb855740b9f3560c", func := "loop.example/g01144/laws.FnExactValidNet", spec := "fnExactValidNet", unfollowed := true, recurses := true, apart := false }
def FnExactValidNetSaid : Prop := fnExactValidNetRow.holds Try.pinned (OpenSpec.ofChange fnExactValidNetSpec)

/-- ITS FALSE NEIGHBOUR: 'it returns false'. Refute it at one input. -/
def fnExactValidNetWrong : ChangeSpec := { name := "fnExactValidNet", fn := fun _ => fun
  | [d] => { results := [.lit (.bool false)], args := [d] }
  | _ => none }
def FnExactValidNetWrongFalsely : Prop := fnExactValidNetRow.holds Try.pinned (OpenSpec.ofChange fnExactValidNetWrong)

/-- 'laws.FnExactValidDeed': WHATEVER THE INPUT: true; the input reads as it did. -/
def fnExactValidDeedSpec : ChangeSpec := { name := "fnExactValidDeed", fn := fun _ => fun
  | [d] => { results := [.lit (.bool true)], args := [d] }
  | _ => none }
def fnExactValidDeedRow : OpenClaim := { program := "ytljaabmemjehpaa", sum := "0f3df4059b7e4acd26ec2187fac15102ea8d961a3e9c18bbfb855740b9f3560c", func := "loop.example/g01144/laws.FnExactValidDeed", spec := "fnExactValidDeed", apart := false }
def FnExactValidDeedSaid : Prop := fnExactValidDeedRow.holds Try.pinned (OpenSpec.ofChange fnExactValidDeedSpec)

/-- ITS FALSE NEIGHBOUR: 'it returns false'. Refute it at one input. -/
def fnExactValidDeedWrong : ChangeSpec := { name := "fnExactValidDeed", fn := fun _ => fun
  | [d] => { results := [.lit (.bool false)], args := [d] }
  | _ => none }
def FnExactValidDeedWrongFalsely : Prop := fnExactValidDeedRow.holds Try.pinned (OpenSpec.ofChange fnExactValidDeedWrong)

/-- 'laws.FnExactValidGather': WHATEVER THE INPUT: true; the input reads as it did. -/
def fnExactValidGatherSpec : ChangeSpec := { name := "fnExactValidGather", fn := fun _ => fun
  | [d] => { results := [.lit (.bool true)], args := [d] }
  | _ => none }
def fnExactValidGatherRow : OpenClaim := { program := "ytljaabmemjehpaa", sum := "0f3df4059b7e4acd26ec2187fac15102ea8d961a3e9c18bbfb855740b9f3560c", func := "loop.example/g01144/laws.FnExactValidGather", spec := "fnExactValidGather", apart := false }
def FnExactValidGatherSaid : Prop := fnExactValidGatherRow.holds Try.pinned (OpenSpec.ofChange fnExactValidGatherSpec)

/-- ITS FALSE NEIGHBOUR: 'it returns false'. Refute it at one input. -/
def fnExactValidGatherWrong : ChangeSpec := { name := "fnExactValidGather", fn := fun _ => fun
  | [d] => { results := [.lit (.bool false)], args := [d] }
  | _ => none }
def FnExactValidGatherWrongFalsely : Prop := fnExactValidGatherRow.holds Try.pinned (OpenSpec.ofChange fnExactValidGatherWrong)

/-- 'laws.FnExactSourceRows': WHATEVER THE INPUT: true; the input reads as it did. -/
def fnExactSourceRowsSpec : ChangeSpec := { name := "fnExactSourceRows", fn := fun _ => fun
  | [d] => { results := [.lit (.bool true)], args := [d] }
  | _ => none }
def fnExactSourceRowsRow : OpenClaim := { program := "ytljaabmemjehpaa", sum := "0f3df4059b7e4acd26ec2187fac15102ea8d961a3e9c18bbfb855740b9f3560c", func := "loop.example/g01144/laws.FnExactSourceRows", spec := "fnExactSourceRows", apart := false }
def FnExactSourceRowsSaid : Prop := fnExactSourceRowsRow.holds Try.pinned (OpenSpec.ofChange fnExactSourceRowsSpec)

/-- ITS FALSE NEIGHBOUR: 'it returns false'. Refute it at one input. -/
def fnExactSourceRowsWrong : ChangeSpec := { name := "fnExactSourceRows", fn := fun _ => fun
  | [d] => { results := [.lit (.bool false)], args := [d] }
  | _ => none }
def FnExactSourceRowsWrongFalsely : Prop := fnExactSourceRowsRow.holds Try.pinned (OpenSpec.ofChange fnExactSourceRowsWrong)

/-- 'laws.FnExactAddMatrices': WHATEVER THE INPUT: true; the input reads as it did. -/
def fnExactAddMatricesSpec : ChangeSpec := { name := "fnExactAddMatrices", fn := fun _ => fun
  | [d1, d2] => { results := [.lit (.bool true)], args := [d1, d2] }
  | _ => none }
def fnExactAddMatricesRow : OpenClaim := { program := "ytljaabmemjehpaa", sum := "0f3df4059b7e4acd26ec2187fac15102ea8d961a3e9c18bbfb855740b9f3560c", func := "loop.example/g01144/laws.FnExactAddMatrices", spec := "fnExactAddMatrices", apart := false }
def FnExactAddMatricesSaid : Prop := fnExactAddMatricesRow.holds Try.pinned (OpenSpec.ofChange fnExactAddMatricesSpec)

/-- ITS FALSE NEIGHBOUR: 'it returns false'. Refute it at one input. -/
def fnExactAddMatricesWrong : ChangeSpec := { name := "fnExactAddMatrices", fn := fun _ => fun
  | [d1, d2] => { results := [.lit (.bool false)], args := [d1, d2] }
  | _ => none }
def FnExactAddMatricesWrongFalsely : Prop := fnExactAddMatricesRow.holds Try.pinned (OpenSpec.ofChange fnExactAddMatricesWrong)

/-- 'laws.FnExactMulMatrices': WHATEVER THE INPUT: true; the input reads as it did. -/
def fnExactMulMatricesSpec : ChangeSpec := { name := "fnExactMulMatrices", fn := fun _ => fun
  | [d1, d2] => { results := [.lit (.bool true)], args := [d1, d2] }
  | _ => none }
def fnExactMulMatricesRow : OpenClaim := { program := "ytljaabmemjehpaa", sum := "0f3df4059b7e4acd26ec2187fac15102ea8d961a3e9c18bbfb855740b9f3560c", func := "loop.example/g01144/laws.FnExactMulMatrices", spec := "fnExactMulMatrices", apart := false }
def FnExactMulMatricesSaid : Prop := fnExactMulMatricesRow.holds Try.pinned (OpenSpec.ofChange fnExactMulMatricesSpec)

/-- ITS FALSE NEIGHBOUR: 'it returns false'. Refute it at one input. -/
def fnExactMulMatricesWrong : ChangeSpec := { name := "fnExactMulMatrices", fn := fun _ => fun
  | [d1, d2] => { results := [.lit (.bool false)], args := [d1, d2] }
  | _ => none }
def FnExactMulMatricesWrongFalsely : Prop := fnExactMulMatricesRow.holds Try.pinned (OpenSpec.ofChange fnExactMulMatricesWrong)

/- THE SECOND FORM. 'bulk': how many values and letters a reading holds, each counted each time it is reached (what is shared counts as often as it is met; a slice's spare places count too). A statement '..UptoSaid' is the law's where the arguments, and the package variables that the reading takes, are together of bulk at most 1048576: NARROWER than '..Said'. Prove '..Said' where nothing that the law and all that it calls make is longer than what came in: it says more and counts as full. Else prove '..UptoSaid'. A law counts once. -/
mutual
def uptoBulk {H : Type} : DataW H → Nat
  | .lit (.string bytes) => bytes.length + 1
  | .lit _ => 1
  | .nil => 1
  | .ptr d => uptoBulk d + 1
  | .slice elems spare => uptoBulkAll elems + uptoBulkAll spare + 1
  | .agg parts => uptoBulkAll parts + 1
  | .iface _ d => uptoBulk d + 1
  | .map entries => uptoBulkEntries entries + 1
  | .held _ => 1
def uptoBulkAll {H : Type} : List (DataW H) → Nat
  | [] => 0
  | d :: r => uptoBulk d + uptoBulkAll r
def uptoBulkEntries {H : Type} : List (Lit × DataW H) → Nat
  | [] => 0
  | x :: r => uptoBulkEntry x + uptoBulkEntries r
def uptoBulkEntry {H : Type} : Lit × DataW H → Nat
  | (.string bytes, d) => bytes.length + uptoBulk d + 1
  | (_, d) => uptoBulk d + 1
 end
def uptoSmall : (H : Type) → List (DataW H) → Bool := fun _ ds => decide (uptoBulkAll ds ≤ 1048576)
def OpenSpec.upto (s : _root_.Go.ChangeSpec) : _root_.Go.OpenSpec := { _root_.Go.OpenSpec.ofChange s with cond := some uptoSmall }

/-- 'laws.FnExactEncodeWith', WHERE WHAT IT READS IS OF BULK AT MOST 1048576: true; the input reads as it did. -/
def fnExactEncodeWithUptoRow : OpenClaim := { program := "ytljaabmemjehpaa", sum := "0f3df4059b7e4acd26ec2187fac15102ea8d961a3e9c18bbfb855740b9f3560c", func := "loop.example/g01144/laws.FnExactEncodeWith", spec := "fnExactEncodeWith", inPlace := ["slices.overlaps[loop.example/g01144/impl.word]"], unfollowed := true, recurses := true, apart := false, narrowed := true }
def FnExactEncodeWithUptoSaid : Prop := fnExactEncodeWithUptoRow.holds Try.pinned (OpenSpec.upto fnExactEncodeWithSpec)

/-- 'laws.FnExactMessageOf', WHERE WHAT IT READS IS OF BULK AT MOST 1048576: true; the input reads as it did. -/
def fnExactMessageOfUptoRow : OpenClaim := { program := "ytljaabmemjehpaa", sum := "0f3df4059b7e4acd26ec2187fac15102ea8d961a3e9c18bbfb855740b9f3560c", func := "loop.example/g01144/laws.FnExactMessageOf", spec := "fnExactMessageOf", inPlace := ["slices.overlaps[loop.example/g01144/impl.word]"], unfollowed := true, recurses := true, apart := false, narrowed := true }
def FnExactMessageOfUptoSaid : Prop := fnExactMessageOfUptoRow.holds Try.pinned (OpenSpec.upto fnExactMessageOfSpec)

/-- 'laws.FnExactWordsOf', WHERE WHAT IT READS IS OF BULK AT MOST 1048576: true; the input reads as it did. -/
def fnExactWordsOfUptoRow : OpenClaim := { program := "ytljaabmemjehpaa", sum := "0f3df4059b7e4acd26ec2187fac15102ea8d961a3e9c18bbfb855740b9f3560c", func := "loop.example/g01144/laws.FnExactWordsOf", spec := "fnExactWordsOf", inPlace := ["slices.overlaps[loop.example/g01144/impl.word]"], unfollowed := true, recurses := true, apart := false, narrowed := true }
def FnExactWordsOfUptoSaid : Prop := fnExactWordsOfUptoRow.holds Try.pinned (OpenSpec.upto fnExactWordsOfSpec)

/-- 'laws.FnExactDualCode', WHERE WHAT IT READS IS OF BULK AT MOST 1048576: true; the input reads as it did. -/
def fnExactDualCodeUptoRow : OpenClaim := { program := "ytljaabmemjehpaa", sum := "0f3df4059b7e4acd26ec2187fac15102ea8d961a3e9c18bbfb855740b9f3560c", func := "loop.example/g01144/laws.FnExactDualCode", spec := "fnExactDualCode", inPlace := ["slices.overlaps[loop.example/g01144/impl.word]"], unfollowed := true, recurses := true, apart := false, narrowed := true }
def FnExactDualCodeUptoSaid : Prop := fnExactDualCodeUptoRow.holds Try.pinned (OpenSpec.upto fnExactDualCodeSpec)

/-- 'laws.FnExactEdgesInto', WHERE WHAT IT READS IS OF BULK AT MOST 1048576: true; the input reads as it did. -/
def fnExactEdgesIntoUptoRow : OpenClaim := { program := "ytljaabmemjehpaa", sum := "0f3df4059b7e4acd26ec2187fac15102ea8d961a3e9c18bbfb855740b9f3560c", func := "loop.example/g01144/laws.FnExactEdgesInto", spec := "fnExactEdgesInto", unfollowed := true, recurses := true, apart := false, narrowed := true }
def FnExactEdgesIntoUptoSaid : Prop := fnExactEdgesIntoUptoRow.holds Try.pinned (OpenSpec.upto fnExactEdgesIntoSpec)

/-- 'laws.FnExactValidNet', WHERE WHAT IT READS IS OF BULK AT MOST 1048576: true; the input reads as it did. -/
def fnExactValidNetUptoRow : OpenClaim := { program := "ytljaabmemjehpaa", sum := "0f3df4059b7e4acd26ec2187fac15102ea8d961a3e9c18bbfb855740b9f3560c", func := "loop.example/g01144/laws.FnExactValidNet", spec := "fnExactValidNet", unfollowed := true, recurses := true, apart := false, narrowed := true }
def FnExactValidNetUptoSaid : Prop := fnExactValidNetUptoRow.holds Try.pinned (OpenSpec.upto fnExactValidNetSpec)

/-- 'laws.FnExactValidDeed', WHERE WHAT IT READS IS OF BULK AT MOST 1048576: true; the input reads as it did. -/
def fnExactValidDeedUptoRow : OpenClaim := { program := "ytljaabmemjehpaa", sum := "0f3df4059b7e4acd26ec2187fac15102ea8d961a3e9c18bbfb855740b9f3560c", func := "loop.example/g01144/laws.FnExactValidDeed", spec := "fnExactValidDeed", apart := false, narrowed := true }
def FnExactValidDeedUptoSaid : Prop := fnExactValidDeedUptoRow.holds Try.pinned (OpenSpec.upto fnExactValidDeedSpec)

/-- 'laws.FnExactValidGather', WHERE WHAT IT READS IS OF BULK AT MOST 1048576: true; the input reads as it did. -/
def fnExactValidGatherUptoRow : OpenClaim := { program := "ytljaabmemjehpaa", sum := "0f3df4059b7e4acd26ec2187fac15102ea8d961a3e9c18bbfb855740b9f3560c", func := "loop.example/g01144/laws.FnExactValidGather", spec := "fnExactValidGather", apart := false, narrowed := true }
def FnExactValidGatherUptoSaid : Prop := fnExactValidGatherUptoRow.holds Try.pinned (OpenSpec.upto fnExactValidGatherSpec)

/-- 'laws.FnExactSourceRows', WHERE WHAT IT READS IS OF BULK AT MOST 1048576: true; the input reads as it did. -/
def fnExactSourceRowsUptoRow : OpenClaim := { program := "ytljaabmemjehpaa", sum := "0f3df4059b7e4acd26ec2187fac15102ea8d961a3e9c18bbfb855740b9f3560c", func := "loop.example/g01144/laws.FnExactSourceRows", spec := "fnExactSourceRows", apart := false, narrowed := true }
def FnExactSourceRowsUptoSaid : Prop := fnExactSourceRowsUptoRow.holds Try.pinned (OpenSpec.upto fnExactSourceRowsSpec)

/-- 'laws.FnExactAddMatrices', WHERE WHAT IT READS IS OF BULK AT MOST 1048576: true; the input reads as it did. -/
def fnExactAddMatricesUptoRow : OpenClaim := { program := "ytljaabmemjehpaa", sum := "0f3df4059b7e4acd26ec2187fac15102ea8d961a3e9c18bbfb855740b9f3560c", func := "loop.example/g01144/laws.FnExactAddMatrices", spec := "fnExactAddMatrices", apart := false, narrowed := true }
def FnExactAddMatricesUptoSaid : Prop := fnExactAddMatricesUptoRow.holds Try.pinned (OpenSpec.upto fnExactAddMatricesSpec)

/-- 'laws.FnExactMulMatrices', WHERE WHAT IT READS IS OF BULK AT MOST 1048576: true; the input reads as it did. -/
def fnExactMulMatricesUptoRow : OpenClaim := { program := "ytljaabmemjehpaa", sum := "0f3df4059b7e4acd26ec2187fac15102ea8d961a3e9c18bbfb855740b9f3560c", func := "loop.example/g01144/laws.FnExactMulMatrices", spec := "fnExactMulMatrices", apart := false, narrowed := true }
def FnExactMulMatricesUptoSaid : Prop := fnExactMulMatricesUptoRow.holds Try.pinned (OpenSpec.upto fnExactMulMatricesSpec)

end Rows
end Go.Proofs.Ytljaabmemjehpaa
