/- The copy of a row of numbers that the laws make. · The third block of three. -/
import Derived.Test.YtpjnpkgndghlhaaMt
namespace Go.Proofs.Ytpjnpkgndghlhaa
open Go.RowKit Go.Joins
set_option linter.unusedVariables false

end Go.Proofs.Ytpjnpkgndghlhaa
namespace Go.Proofs.Ytpjnpkgndghlhaa
open Go.RowKit Go.Joins
set_option linter.unusedVariables false

theorem third (w : World) (o1 : Obj) (u0 u1 v0 v1 : Value) (T : TypeId) (W : World) (hW : W = ((w.alloc o1).alloc (.cells #[u0, u1] T)).alloc (.cells #[v0, v1] T)) :
    (W.cell? ⟨w.heap.size + 1 + 1, 0, none⟩ = some v0 ∧ W.cell? ⟨w.heap.size + 1 + 1, 1, none⟩ = some v1 ∧ W.frozen? ⟨w.heap.size + 1 + 1, 0, none⟩ = false ∧ W.frozen? ⟨w.heap.size + 1 + 1, 1, none⟩ = false) ∧
    (W.cell? ⟨w.heap.size + 1, 0, none⟩ = some u0 ∧ W.cell? ⟨w.heap.size + 1, 1, none⟩ = some u1 ∧ W.frozen? ⟨w.heap.size + 1, 0, none⟩ = false ∧ W.frozen? ⟨w.heap.size + 1, 1, none⟩ = false) := by
  subst hW
  refine ⟨⟨?_, ?_, ?_, ?_⟩, ?_, ?_, ?_, ?_⟩ <;> simp [World.cell?_alloc_at, World.cell?_alloc_past, World.frozen?_alloc_at, World.frozen?_alloc_past]

end Go.Proofs.Ytpjnpkgndghlhaa
