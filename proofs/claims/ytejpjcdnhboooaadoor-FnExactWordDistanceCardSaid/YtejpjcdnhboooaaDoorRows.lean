/-
  NARROWER THAN 'FOR EVERY INPUT', by the rows' own cells (each row's printed sentence says how): FnExactWordRank: laid · FnExactWordDistance: laid · FnExactRowSupport: laid · FnExactColumnSupport: laid.
  DERIVED. THE GIVEN ROWS OF THIS SEAT. 4 by the template 'for every input the law returns true; each argument reads behind the call as it read before'; 0 by the template 'total and deterministic' (their statements: YtejpjcdnhboooaaDoorTotals.lean).
  GIVEN WITH THE SEED: the statements are not yours to turn. If you find one false, say at which input.
  Laid BY PROGRAM, IN A SANDBOX (cutbox-rows.mjs): the forced cells as the released guide's own fill.sh prints them over the translation cbdb702e76cd365b… (all of the seat's roots in one cut). By AI agents, Wed Nov 11 2026. No macro, syntax, notation, axiom, sorry.
-/
import Derived.Test.YtejpjcdnhboooaaDoorChecked
import GoSem.Claim
import GoSem.ClaimJoined
import GoSem.ClaimMapViews
import Derived.JoinedTies
import Derived.KernelRfl
namespace Go.Proofs.YtejpjcdnhboooaaDoor
/- THE CELL 'sum', in the pinned program and in every row, IS THE sha256 OF THE DUMP (.gsa) THAT YtejpjcdnhboooaaDoorProg.lean LOADS. Nothing in Lean hashes anything: it is a label: what it is worth is what the hold of that sum in a sandbox is worth. -/
noncomputable def Tryd.pinned : Pinned := { name := "ytejpjcdnhboooaadoor", sum := "cbdb702e76cd365bcca4eda917cd62c8d0b3cb4076dc81cfae40abb992beb170", checked := Tryd.checked }
namespace Rows
def none {H : Type} : Left H := { results := [], args := [] }

/- WHAT THE LISTED PACKAGE-LEVEL VARIABLES READ AS WHEN THE CALL BEGINS. Each datum BY PROGRAM (the guide's laid-datum.mjs) off the statement by which the dump's own 'gosem.cut.vars' lays the variable. In a bare row this is a premise. The card (YtejpjcdnhboooaaDoorCards.lean) ties it to the program's text. -/
def laid_math_bits_deBruijn32tab {H : Type} : DataW H := .agg [.lit (.int .u8 0), .lit (.int .u8 1), .lit (.int .u8 28), .lit (.int .u8 2), .lit (.int .u8 29), .lit (.int .u8 14), .lit (.int .u8 24), .lit (.int .u8 3), .lit (.int .u8 30), .lit (.int .u8 22), .lit (.int .u8 20), .lit (.int .u8 15), .lit (.int .u8 25), .lit (.int .u8 17), .lit (.int .u8 4), .lit (.int .u8 8), .lit (.int .u8 31), .lit (.int .u8 27), .lit (.int .u8 13), .lit (.int .u8 23), .lit (.int .u8 21), .lit (.int .u8 19), .lit (.int .u8 16), .lit (.int .u8 7), .lit (.int .u8 26), .lit (.int .u8 12), .lit (.int .u8 18), .lit (.int .u8 6), .lit (.int .u8 11), .lit (.int .u8 5), .lit (.int .u8 10), .lit (.int .u8 9)]

/-- 'laws.FnExactWordRank': WHATEVER THE INPUT: true; the input reads as it did. -/
def fnExactWordRankSpec : ChangeSpec := { name := "fnExactWordRank", fn := fun _ => fun
  | [d1, d2] => { results := [.lit (.bool true)], args := [d1, d2] }
  | _ => none }
def fnExactWordRankRow : OpenClaim := { program := "ytejpjcdnhboooaadoor", sum := "cbdb702e76cd365bcca4eda917cd62c8d0b3cb4076dc81cfae40abb992beb170", func := "loop.example/g01144/laws.FnExactWordRank", spec := "fnExactWordRank", unfollowed := true, recurses := true, named := ["math/bits.deBruijn32tab"], apart := false, laid := [("math/bits.deBruijn32tab", laid_math_bits_deBruijn32tab)] }
def FnExactWordRankSaid : Prop := fnExactWordRankRow.holds Tryd.pinned (OpenSpec.ofChange fnExactWordRankSpec)

/-- ITS FALSE NEIGHBOUR: 'it returns false'. Refute it at one input. -/
def fnExactWordRankWrong : ChangeSpec := { name := "fnExactWordRank", fn := fun _ => fun
  | [d1, d2] => { results := [.lit (.bool false)], args := [d1, d2] }
  | _ => none }
def FnExactWordRankWrongFalsely : Prop := fnExactWordRankRow.holds Tryd.pinned (OpenSpec.ofChange fnExactWordRankWrong)

/-- 'laws.FnExactWordDistance': WHATEVER THE INPUT: true; the input reads as it did. -/
def fnExactWordDistanceSpec : ChangeSpec := { name := "fnExactWordDistance", fn := fun _ => fun
  | [d1, d2, d3] => { results := [.lit (.bool true)], args := [d1, d2, d3] }
  | _ => none }
def fnExactWordDistanceRow : OpenClaim := { program := "ytejpjcdnhboooaadoor", sum := "cbdb702e76cd365bcca4eda917cd62c8d0b3cb4076dc81cfae40abb992beb170", func := "loop.example/g01144/laws.FnExactWordDistance", spec := "fnExactWordDistance", unfollowed := true, recurses := true, named := ["math/bits.deBruijn32tab"], apart := false, laid := [("math/bits.deBruijn32tab", laid_math_bits_deBruijn32tab)] }
def FnExactWordDistanceSaid : Prop := fnExactWordDistanceRow.holds Tryd.pinned (OpenSpec.ofChange fnExactWordDistanceSpec)

/-- ITS FALSE NEIGHBOUR: 'it returns false'. Refute it at one input. -/
def fnExactWordDistanceWrong : ChangeSpec := { name := "fnExactWordDistance", fn := fun _ => fun
  | [d1, d2, d3] => { results := [.lit (.bool false)], args := [d1, d2, d3] }
  | _ => none }
def FnExactWordDistanceWrongFalsely : Prop := fnExactWordDistanceRow.holds Tryd.pinned (OpenSpec.ofChange fnExactWordDistanceWrong)

/-- 'laws.FnExactRowSupport': WHATEVER THE INPUT: true; the input reads as it did. -/
def fnExactRowSupportSpec : ChangeSpec := { name := "fnExactRowSupport", fn := fun _ => fun
  | [d1, d2] => { results := [.lit (.bool true)], args := [d1, d2] }
  | _ => none }
def fnExactRowSupportRow : OpenClaim := { program := "ytejpjcdnhboooaadoor", sum := "cbdb702e76cd365bcca4eda917cd62c8d0b3cb4076dc81cfae40abb992beb170", func := "loop.example/g01144/laws.FnExactRowSupport", spec := "fnExactRowSupport", unfollowed := true, recurses := true, named := ["math/bits.deBruijn32tab"], apart := false, laid := [("math/bits.deBruijn32tab", laid_math_bits_deBruijn32tab)] }
def FnExactRowSupportSaid : Prop := fnExactRowSupportRow.holds Tryd.pinned (OpenSpec.ofChange fnExactRowSupportSpec)

/-- ITS FALSE NEIGHBOUR: 'it returns false'. Refute it at one input. -/
def fnExactRowSupportWrong : ChangeSpec := { name := "fnExactRowSupport", fn := fun _ => fun
  | [d1, d2] => { results := [.lit (.bool false)], args := [d1, d2] }
  | _ => none }
def FnExactRowSupportWrongFalsely : Prop := fnExactRowSupportRow.holds Tryd.pinned (OpenSpec.ofChange fnExactRowSupportWrong)

/-- 'laws.FnExactColumnSupport': WHATEVER THE INPUT: true; the input reads as it did. -/
def fnExactColumnSupportSpec : ChangeSpec := { name := "fnExactColumnSupport", fn := fun _ => fun
  | [d1, d2] => { results := [.lit (.bool true)], args := [d1, d2] }
  | _ => none }
def fnExactColumnSupportRow : OpenClaim := { program := "ytejpjcdnhboooaadoor", sum := "cbdb702e76cd365bcca4eda917cd62c8d0b3cb4076dc81cfae40abb992beb170", func := "loop.example/g01144/laws.FnExactColumnSupport", spec := "fnExactColumnSupport", unfollowed := true, recurses := true, named := ["math/bits.deBruijn32tab"], apart := false, laid := [("math/bits.deBruijn32tab", laid_math_bits_deBruijn32tab)] }
def FnExactColumnSupportSaid : Prop := fnExactColumnSupportRow.holds Tryd.pinned (OpenSpec.ofChange fnExactColumnSupportSpec)

/-- ITS FALSE NEIGHBOUR: 'it returns false'. Refute it at one input. -/
def fnExactColumnSupportWrong : ChangeSpec := { name := "fnExactColumnSupport", fn := fun _ => fun
  | [d1, d2] => { results := [.lit (.bool false)], args := [d1, d2] }
  | _ => none }
def FnExactColumnSupportWrongFalsely : Prop := fnExactColumnSupportRow.holds Tryd.pinned (OpenSpec.ofChange fnExactColumnSupportWrong)

/- THE SECOND FORM. 'bulk': how many values and letters a reading holds, each counted each time it is reached (what is shared counts as often as it is met; a slice's spare places count too). A statement '..UptoSaid' is the law's where the arguments, and the package variables that the reading takes, are together of bulk at most 1048576: NARROWER than '..Said'. Prove '..Said' where nothing that the law and all that it calls make is longer than what came in: it says more and counts as full. Else prove '..UptoSaid'. A law counts once. -/
mutual
def uptoBulk {H : Type} : DataW H → Nat
  | .lit (.string bytes) => bytes.length + 1
  | .lit _ => 1
  | .nil => 1
  | .ptr d => uptoBulk d + 1
  | .slice elems spare => uptoBulkAll elems + uptoBulkAll spare + 1
  | .agg parts => uptoBulkAll parts + 1
  | .iface _ d => uptoBulk d + 1
  | .map entries => uptoBulkEntries entries + 1
  | .held _ => 1
def uptoBulkAll {H : Type} : List (DataW H) → Nat
  | [] => 0
  | d :: r => uptoBulk d + uptoBulkAll r
def uptoBulkEntries {H : Type} : List (Lit × DataW H) → Nat
  | [] => 0
  | x :: r => uptoBulkEntry x + uptoBulkEntries r
def uptoBulkEntry {H : Type} : Lit × DataW H → Nat
  | (.string bytes, d) => bytes.length + uptoBulk d + 1
  | (_, d) => uptoBulk d + 1
 end
def uptoSmall : (H : Type) → List (DataW H) → Bool := fun _ ds => decide (uptoBulkAll ds ≤ 1048576)
def OpenSpec.upto (s : _root_.Go.ChangeSpec) : _root_.Go.OpenSpec := { _root_.Go.OpenSpec.ofChange s with cond := some uptoSmall }

/-- 'laws.FnExactWordRank', WHERE WHAT IT READS IS OF BULK AT MOST 1048576: true; the input reads as it did. -/
def fnExactWordRankUptoRow : OpenClaim := { program := "ytejpjcdnhboooaadoor", sum := "cbdb702e76cd365bcca4eda917cd62c8d0b3cb4076dc81cfae40abb992beb170", func := "loop.example/g01144/laws.FnExactWordRank", spec := "fnExactWordRank", unfollowed := true, recurses := true, named := ["math/bits.deBruijn32tab"], apart := false, laid := [("math/bits.deBruijn32tab", laid_math_bits_deBruijn32tab)], narrowed := true }
def FnExactWordRankUptoSaid : Prop := fnExactWordRankUptoRow.holds Tryd.pinned (OpenSpec.upto fnExactWordRankSpec)

/-- 'laws.FnExactWordDistance', WHERE WHAT IT READS IS OF BULK AT MOST 1048576: true; the input reads as it did. -/
def fnExactWordDistanceUptoRow : OpenClaim := { program := "ytejpjcdnhboooaadoor", sum := "cbdb702e76cd365bcca4eda917cd62c8d0b3cb4076dc81cfae40abb992beb170", func := "loop.example/g01144/laws.FnExactWordDistance", spec := "fnExactWordDistance", unfollowed := true, recurses := true, named := ["math/bits.deBruijn32tab"], apart := false, laid := [("math/bits.deBruijn32tab", laid_math_bits_deBruijn32tab)], narrowed := true }
def FnExactWordDistanceUptoSaid : Prop := fnExactWordDistanceUptoRow.holds Tryd.pinned (OpenSpec.upto fnExactWordDistanceSpec)

/-- 'laws.FnExactRowSupport', WHERE WHAT IT READS IS OF BULK AT MOST 1048576: true; the input reads as it did. -/
def fnExactRowSupportUptoRow : OpenClaim := { program := "ytejpjcdnhboooaadoor", sum := "cbdb702e76cd365bcca4eda917cd62c8d0b3cb4076dc81cfae40abb992beb170", func := "loop.example/g01144/laws.FnExactRowSupport", spec := "fnExactRowSupport", unfollowed := true, recurses := true, named := ["math/bits.deBruijn32tab"], apart := false, laid := [("math/bits.deBruijn32tab", laid_math_bits_deBruijn32tab)], narrowed := true }
def FnExactRowSupportUptoSaid : Prop := fnExactRowSupportUptoRow.holds Tryd.pinned (OpenSpec.upto fnExactRowSupportSpec)

/-- 'laws.FnExactColumnSupport', WHERE WHAT IT READS IS OF BULK AT MOST 1048576: true; the input reads as it did. -/
def fnExactColumnSupportUptoRow : OpenClaim := { program := "ytejpjcdnhboooaadoor", sum := "cbdb702e76cd365bcca4eda917cd62c8d0b3cb4076dc81cfae40abb992beb170", func := "loop.example/g01144/laws.FnExactColumnSupport", spec := "fnExactColumnSupport", unfollowed := true, recurses := true, named := ["math/bits.deBruijn32tab"], apart := false, laid := [("math/bits.deBruijn32tab", laid_math_bits_deBruijn32tab)], narrowed := true }
def FnExactColumnSupportUptoSaid : Prop := fnExactColumnSupportUptoRow.holds Tryd.pinned (OpenSpec.upto fnExactColumnSupportSpec)

end Rows
end Go.Proofs.YtejpjcdnhboooaaDoor
