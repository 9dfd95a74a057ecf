/-
  No cell of these rows narrows 'for every input' (looked for: loops, veiled, ifaces, maps, wideKeys, modest, calm, conditions, laid).
  DERIVED. THE GIVEN ROWS OF THIS SEAT. 7 by the template 'for every input the law returns true; each argument reads behind the call as it read before'; 0 by the template 'total and deterministic' (their statements: YtlchelaohiojiaaTotals.lean).
  GIVEN WITH THE SEED: the statements are not yours to turn. If you find one false, say at which input.
  Laid BY PROGRAM, IN A SANDBOX (cutbox-rows.mjs): the forced cells as the released guide's own fill.sh prints them over the translation 2cff81eccd7756df… (all of the seat's roots in one cut). By AI agents, Wed Nov 11 2026. No macro, syntax, notation, axiom, sorry.
-/
import Derived.Test.YtlchelaohiojiaaChecked
import GoSem.Claim
import GoSem.ClaimJoined
import GoSem.ClaimMapViews
import Derived.JoinedTies
import Derived.KernelRfl
namespace Go.Proofs.Ytlchelaohiojiaa
/- THE CELL 'sum', in the pinned program and in every row, IS THE sha256 OF THE DUMP (.gsa) THAT YtlchelaohiojiaaProg.lean LOADS. Nothing in Lean hashes anything: it is a label: what it is worth is what the hold of that sum in a sandbox is worth. -/
noncomputable def Try.pinned : Pinned := { name := "ytlchelaohiojiaa", sum := "2cff81eccd7756df198eed5edc5ed6792c715b413fac9b2b195b983e2c9a884b", checked := Try.checked }
namespace Rows
def none {H : Type} : Left H := { results := [], args := [] }

/-- 'laws.FnFields': WHATEVER THE INPUT: true; the input reads as it did. -/
def fnFieldsSpec : ChangeSpec := { name := "fnFields", fn := fun _ => fun
  | [d1, d2] => { results := [.lit (.bool true)], args := [d1, d2] }
  | _ => none }
def fnFieldsRow : OpenClaim := { program := "ytlchelaohiojiaa", sum := "2cff81eccd7756df198eed5edc5ed6792c715b413fac9b2b195b983e2c9a884b", func := "loop.example/g01144/laws.FnFields", spec := "fnFields", unfollowed := true, recurses := true, apart := false }
def FnFieldsSaid : Prop := fnFieldsRow.holds Try.pinned (OpenSpec.ofChange fnFieldsSpec)

/-- ITS FALSE NEIGHBOUR: 'it returns false'. Refute it at one input. -/
def fnFieldsWrong : ChangeSpec := { name := "fnFields", fn := fun _ => fun
  | [d1, d2] => { results := [.lit (.bool false)], args := [d1, d2] }
  | _ => none }
def FnFieldsWrongFalsely : Prop := fnFieldsRow.holds Try.pinned (OpenSpec.ofChange fnFieldsWrong)

/-- 'laws.FnInterpolated': WHATEVER THE INPUT: true; the input reads as it did. -/
def fnInterpolatedSpec : ChangeSpec := { name := "fnInterpolated", fn := fun _ => fun
  | [d1, d2] => { results := [.lit (.bool true)], args := [d1, d2] }
  | _ => none }
def fnInterpolatedRow : OpenClaim := { program := "ytlchelaohiojiaa", sum := "2cff81eccd7756df198eed5edc5ed6792c715b413fac9b2b195b983e2c9a884b", func := "loop.example/g01144/laws.FnInterpolated", spec := "fnInterpolated", unfollowed := true, recurses := true, apart := false }
def FnInterpolatedSaid : Prop := fnInterpolatedRow.holds Try.pinned (OpenSpec.ofChange fnInterpolatedSpec)

/-- ITS FALSE NEIGHBOUR: 'it returns false'. Refute it at one input. -/
def fnInterpolatedWrong : ChangeSpec := { name := "fnInterpolated", fn := fun _ => fun
  | [d1, d2] => { results := [.lit (.bool false)], args := [d1, d2] }
  | _ => none }
def FnInterpolatedWrongFalsely : Prop := fnInterpolatedRow.holds Try.pinned (OpenSpec.ofChange fnInterpolatedWrong)

/-- 'laws.FnFieldRows': WHATEVER THE INPUT: true; the input reads as it did. -/
def fnFieldRowsSpec : ChangeSpec := { name := "fnFieldRows", fn := fun _ => fun
  | [d1, d2] => { results := [.lit (.bool true)], args := [d1, d2] }
  | _ => none }
def fnFieldRowsRow : OpenClaim := { program := "ytlchelaohiojiaa", sum := "2cff81eccd7756df198eed5edc5ed6792c715b413fac9b2b195b983e2c9a884b", func := "loop.example/g01144/laws.FnFieldRows", spec := "fnFieldRows", inPlace := ["slices.overlaps[loop.example/g01144/impl.word]"], unfollowed := true, recurses := true, apart := false }
def FnFieldRowsSaid : Prop := fnFieldRowsRow.holds Try.pinned (OpenSpec.ofChange fnFieldRowsSpec)

/-- ITS FALSE NEIGHBOUR: 'it returns false'. Refute it at one input. -/
def fnFieldRowsWrong : ChangeSpec := { name := "fnFieldRows", fn := fun _ => fun
  | [d1, d2] => { results := [.lit (.bool false)], args := [d1, d2] }
  | _ => none }
def FnFieldRowsWrongFalsely : Prop := fnFieldRowsRow.holds Try.pinned (OpenSpec.ofChange fnFieldRowsWrong)

/-- 'laws.FnExactFieldOf': WHATEVER THE INPUT: true; the input reads as it did. -/
def fnExactFieldOfSpec : ChangeSpec := { name := "fnExactFieldOf", fn := fun _ => fun
  | [d] => { results := [.lit (.bool true)], args := [d] }
  | _ => none }
def fnExactFieldOfRow : OpenClaim := { program := "ytlchelaohiojiaa", sum := "2cff81eccd7756df198eed5edc5ed6792c715b413fac9b2b195b983e2c9a884b", func := "loop.example/g01144/laws.FnExactFieldOf", spec := "fnExactFieldOf", unfollowed := true, recurses := true, apart := false }
def FnExactFieldOfSaid : Prop := fnExactFieldOfRow.holds Try.pinned (OpenSpec.ofChange fnExactFieldOfSpec)

/-- ITS FALSE NEIGHBOUR: 'it returns false'. Refute it at one input. -/
def fnExactFieldOfWrong : ChangeSpec := { name := "fnExactFieldOf", fn := fun _ => fun
  | [d] => { results := [.lit (.bool false)], args := [d] }
  | _ => none }
def FnExactFieldOfWrongFalsely : Prop := fnExactFieldOfRow.holds Try.pinned (OpenSpec.ofChange fnExactFieldOfWrong)

/-- 'laws.FnExactFieldsOf': WHATEVER THE INPUT: true; the input reads as it did. -/
def fnExactFieldsOfSpec : ChangeSpec := { name := "fnExactFieldsOf", fn := fun _ => fun
  | [d] => { results := [.lit (.bool true)], args := [d] }
  | _ => none }
def fnExactFieldsOfRow : OpenClaim := { program := "ytlchelaohiojiaa", sum := "2cff81eccd7756df198eed5edc5ed6792c715b413fac9b2b195b983e2c9a884b", func := "loop.example/g01144/laws.FnExactFieldsOf", spec := "fnExactFieldsOf", unfollowed := true, recurses := true, apart := false }
def FnExactFieldsOfSaid : Prop := fnExactFieldsOfRow.holds Try.pinned (OpenSpec.ofChange fnExactFieldsOfSpec)

/-- ITS FALSE NEIGHBOUR: 'it returns false'. Refute it at one input. -/
def fnExactFieldsOfWrong : ChangeSpec := { name := "fnExactFieldsOf", fn := fun _ => fun
  | [d] => { results := [.lit (.bool false)], args := [d] }
  | _ => none }
def FnExactFieldsOfWrongFalsely : Prop := fnExactFieldsOfRow.holds Try.pinned (OpenSpec.ofChange fnExactFieldsOfWrong)

/-- 'laws.FnExactWordsOf': WHATEVER THE INPUT: true; the input reads as it did. -/
def fnExactWordsOfSpec : ChangeSpec := { name := "fnExactWordsOf", fn := fun _ => fun
  | [d] => { results := [.lit (.bool true)], args := [d] }
  | _ => none }
def fnExactWordsOfRow : OpenClaim := { program := "ytlchelaohiojiaa", sum := "2cff81eccd7756df198eed5edc5ed6792c715b413fac9b2b195b983e2c9a884b", func := "loop.example/g01144/laws.FnExactWordsOf", spec := "fnExactWordsOf", inPlace := ["slices.overlaps[loop.example/g01144/impl.word]"], unfollowed := true, recurses := true, apart := false }
def FnExactWordsOfSaid : Prop := fnExactWordsOfRow.holds Try.pinned (OpenSpec.ofChange fnExactWordsOfSpec)

/-- ITS FALSE NEIGHBOUR: 'it returns false'. Refute it at one input. -/
def fnExactWordsOfWrong : ChangeSpec := { name := "fnExactWordsOf", fn := fun _ => fun
  | [d] => { results := [.lit (.bool false)], args := [d] }
  | _ => none }
def FnExactWordsOfWrongFalsely : Prop := fnExactWordsOfRow.holds Try.pinned (OpenSpec.ofChange fnExactWordsOfWrong)

/-- 'laws.FnExactDualCode': WHATEVER THE INPUT: true; the input reads as it did. -/
def fnExactDualCodeSpec : ChangeSpec := { name := "fnExactDualCode", fn := fun _ => fun
  | [d] => { results := [.lit (.bool true)], args := [d] }
  | _ => none }
def fnExactDualCodeRow : OpenClaim := { program := "ytlchelaohiojiaa", sum := "2cff81eccd7756df198eed5edc5ed6792c715b413fac9b2b195b983e2c9a884b", func := "loop.example/g01144/laws.FnExactDualCode", spec := "fnExactDualCode", inPlace := ["slices.overlaps[loop.example/g01144/impl.word]"], unfollowed := true, recurses := true, apart := false }
def FnExactDualCodeSaid : Prop := fnExactDualCodeRow.holds Try.pinned (OpenSpec.ofChange fnExactDualCodeSpec)

/-- ITS FALSE NEIGHBOUR: 'it returns false'. Refute it at one input. -/
def fnExactDualCodeWrong : ChangeSpec := { name := "fnExactDualCode", fn := fun _ => fun
  | [d] => { results := [.lit (.bool false)], args := [d] }
  | _ => none }
def FnExactDualCodeWrongFalsely : Prop := fnExactDualCodeRow.holds Try.pinned (OpenSpec.ofChange fnExactDualCodeWrong)

/- THE SECOND FORM. 'bulk': how many values and letters a reading holds, each counted each time it is reached (what is shared counts as often as it is met; a slice's spare places count too). A statement '..UptoSaid' is the law's where the arguments, and the package variables that the reading takes, are together of bulk at most 1048576: NARROWER than '..Said'. Prove '..Said' where nothing that the law and all that it calls make is longer than what came in: it says more and counts as full. Else prove '..UptoSaid'. A law counts once. -/
mutual
def uptoBulk {H : Type} : DataW H → Nat
  | .lit (.string bytes) => bytes.length + 1
  | .lit _ => 1
  | .nil => 1
  | .ptr d => uptoBulk d + 1
  | .slice elems spare => uptoBulkAll elems + uptoBulkAll spare + 1
  | .agg parts => uptoBulkAll parts + 1
  | .iface _ d => uptoBulk d + 1
  | .map entries => uptoBulkEntries entries + 1
  | .held _ => 1
def uptoBulkAll {H : Type} : List (DataW H) → Nat
  | [] => 0
  | d :: r => uptoBulk d + uptoBulkAll r
def uptoBulkEntries {H : Type} : List (Lit × DataW H) → Nat
  | [] => 0
  | x :: r => uptoBulkEntry x + uptoBulkEntries r
def uptoBulkEntry {H : Type} : Lit × DataW H → Nat
  | (.string bytes, d) => bytes.length + uptoBulk d + 1
  | (_, d) => uptoBulk d + 1
 end
def uptoSmall : (H : Type) → List (DataW H) → Bool := fun _ ds => decide (uptoBulkAll ds ≤ 1048576)
def OpenSpec.upto (s : _root_.Go.ChangeSpec) : _root_.Go.OpenSpec := { _root_.Go.OpenSpec.ofChange s with cond := some uptoSmall }

/-- 'laws.FnFields', WHERE WHAT IT READS IS OF BULK AT MOST 1048576: true; the input reads as it did. -/
def fnFieldsUptoRow : OpenClaim := { program := "ytlchelaohiojiaa", sum := "2cff81eccd7756df198eed5edc5ed6792c715b413fac9b2b195b983e2c9a884b", func := "loop.example/g01144/laws.FnFields", spec := "fnFields", unfollowed := true, recurses := true, apart := false, narrowed := true }
def FnFieldsUptoSaid : Prop := fnFieldsUptoRow.holds Try.pinned (OpenSpec.upto fnFieldsSpec)

/-- 'laws.FnInterpolated', WHERE WHAT IT READS IS OF BULK AT MOST 1048576: true; the input reads as it did. -/
def fnInterpolatedUptoRow : OpenClaim := { program := "ytlchelaohiojiaa", sum := "2cff81eccd7756df198eed5edc5ed6792c715b413fac9b2b195b983e2c9a884b", func := "loop.example/g01144/laws.FnInterpolated", spec := "fnInterpolated", unfollowed := true, recurses := true, apart := false, narrowed := true }
def FnInterpolatedUptoSaid : Prop := fnInterpolatedUptoRow.holds Try.pinned (OpenSpec.upto fnInterpolatedSpec)

/-- 'laws.FnFieldRows', WHERE WHAT IT READS IS OF BULK AT MOST 1048576: true; the input reads as it did. -/
def fnFieldRowsUptoRow : OpenClaim := { program := "ytlchelaohiojiaa", sum := "2cff81eccd7756df198eed5edc5ed6792c715b413fac9b2b195b983e2c9a884b", func := "loop.example/g01144/laws.FnFieldRows", spec := "fnFieldRows", inPlace := ["slices.overlaps[loop.example/g01144/impl.word]"], unfollowed := true, recurses := true, apart := false, narrowed := true }
def FnFieldRowsUptoSaid : Prop := fnFieldRowsUptoRow.holds Try.pinned (OpenSpec.upto fnFieldRowsSpec)

/-- 'laws.FnExactFieldOf', WHERE WHAT IT READS IS OF BULK AT MOST 1048576: true; the input reads as it did. -/
def fnExactFieldOfUptoRow : OpenClaim := { program := "ytlchelaohiojiaa", sum := "2cff81eccd7756df198eed5edc5ed6792c715b413fac9b2b195b983e2c9a884b", func := "loop.example/g01144/laws.FnExactFieldOf", spec := "fnExactFieldOf", unfollowed := true, recurses := true, apart := false, narrowed := true }
def FnExactFieldOfUptoSaid : Prop := fnExactFieldOfUptoRow.holds Try.pinned (OpenSpec.upto fnExactFieldOfSpec)

/-- 'laws.FnExactFieldsOf', WHERE WHAT IT READS IS OF BULK AT MOST 1048576: true; the input reads as it did. -/
def fnExactFieldsOfUptoRow : OpenClaim := { program := "ytlchelaohiojiaa", sum := "2cff81eccd7756df198eed5edc5ed6792c715b413fac9b2b195b983e2c9a884b", func := "loop.example/g01144/laws.FnExactFieldsOf", spec := "fnExactFieldsOf", unfollowed := true, recurses := true, apart := false, narrowed := true }
def FnExactFieldsOfUptoSaid : Prop := fnExactFieldsOfUptoRow.holds Try.pinned (OpenSpec.upto fnExactFieldsOfSpec)

/-- 'laws.FnExactWordsOf', WHERE WHAT IT READS IS OF BULK AT MOST 1048576: true; the input reads as it did. -/
def fnExactWordsOfUptoRow : OpenClaim := { program := "ytlchelaohiojiaa", sum := "2cff81eccd7756df198eed5edc5ed6792c715b413fac9b2b195b983e2c9a884b", func := "loop.example/g01144/laws.FnExactWordsOf", spec := "fnExactWordsOf", inPlace := ["slices.overlaps[loop.example/g01144/impl.word]"], unfollowed := true, recurses := true, apart := false, narrowed := true }
def FnExactWordsOfUptoSaid : Prop := fnExactWordsOfUptoRow.holds Try.pinned (OpenSpec.upto fnExactWordsOfSpec)

/-- 'laws.FnExactDualCode', WHERE WHAT IT READS IS OF BULK AT MOST 1048576: true; the input reads as it did. -/
def fnExactDualCodeUptoRow : OpenClaim := { program := "ytlchelaohiojiaa", sum := "2cff81eccd7756df198eed5edc5ed6792c715b413fac9b2b195b983e2c9a884b", func := "loop.example/g01144/laws.FnExactDualCode", spec := "fnExactDualCode", inPlace := ["slices.overlaps[loop.example/g01144/impl.word]"], unfollowed := true, recurses := true, apart := false, narrowed := true }
def FnExactDualCodeUptoSaid : Prop := fnExactDualCodeUptoRow.holds Try.pinned (OpenSpec.upto fnExactDualCodeSpec)

end Rows
end Go.Proofs.Ytlchelaohiojiaa
