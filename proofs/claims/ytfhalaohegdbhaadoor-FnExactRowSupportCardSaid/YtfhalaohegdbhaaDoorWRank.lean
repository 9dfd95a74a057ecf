/- The rank of a word and the sum of two: the program's. -/
import Derived.Test.YtfhalaohegdbhaaDoorWords
import Derived.Test.YtfhalaohegdbhaaDoorJoined
namespace Go.Proofs.YtfhalaohegdbhaaDoor
open Go.RowKit Go.Joins
set_option linter.unusedVariables false

theorem lt_mem {p : List Nat} {n : Nat} (hp : ∀ j, nth p j < n) : ∀ r ∈ p, r < n := fun r hr => by
  obtain ⟨j, hj, rfl⟩ := List.getElem_of_mem hr
  have := hp j
  simpa [nth, hj] using this

end Go.Proofs.YtfhalaohegdbhaaDoor
