/- What a function of a field and a number returns that lists numbers. -/
import Derived.Test.YtpjnpkgndghlhaaRow
namespace Go.Proofs.Ytpjnpkgndghlhaa
open Go.RowKit Go.Joins
set_option linter.unusedVariables false

/-- A function of a field and an element returns numbers and a code. -/
abbrev GivesList (f : FuncId) (d p a : Int) (ys : List Int) (k : Int) : Prop := ∀ w : World,
  Calls Try.prog f #[.agg #[.int .i64 d, .int .i64 p], .int .i64 a] w fun e w' => ∃ v, e = .returned (.tuple #[v, .int .i64 k]) ∧ Below w.heap.size w w' ∧ Res w' w.heap.size w'.heap.size v ys
end Go.Proofs.Ytpjnpkgndghlhaa
