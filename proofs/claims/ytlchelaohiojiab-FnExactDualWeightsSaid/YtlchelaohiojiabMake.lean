/- The program's calculator: it is made. -/
import Derived.Test.YtlchelaohiojiabFill
import Derived.Test.YtlchelaohiojiabToField
import Derived.Test.YtlchelaohiojiabHasAll
import Derived.Test.YtlchelaohiojiabZero
namespace Go.Proofs.Ytlchelaohiojiab
open Go.RowKit
set_option linter.unusedVariables false



/-- A new calculator's block. -/
structure Fresh (c m : Nat) (W : World) : Prop where
  deg : W.cell? ⟨c, 0, none⟩ = some (.int .i64 m)
  frz : ∀ x, x < 1025 → W.frozen? ⟨c, x, none⟩ = false
  old : ∀ x, x < 1025 → ∃ v, W.cell? ⟨c, x, none⟩ = some v
theorem Fresh.filled {c m P n : Nat} {W W' : World} (h : Fresh c m W) (e : W'.heap = W.heap) : Filled c m P n W' W' 0 0 := by
  have hc : ∀ a, W'.cell? a = W.cell? a := fun a => by unfold World.cell?; rw [e]
  have hf : ∀ a, W'.frozen? a = W.frozen? a := fun a => by unfold World.frozen?; rw [e]
  exact ⟨Below.refl _ _, by rw [hc]; exact h.deg, fun x hx => by rw [hf]; exact h.frz x hx, fun x hx => by rw [hc]; exact h.old x hx, fun a b _ _ hab => by omega, rfl⟩

theorem cell_of_cells {W : World} {B x : Nat} {cs : Array Value} {t : TypeId} (h : W.heap[B]? = some (.cells cs t (0, 0))) : W.cell? ⟨B, x, none⟩ = cs[x]? ∧ W.frozen? ⟨B, x, none⟩ = false := by
  constructor <;> simp [World.cell?, World.frozen?, h]

theorem arg_nil (w : World) : Arg w none 0 [] := ⟨rfl, by omega, fun h => by omega⟩
end Go.Proofs.Ytlchelaohiojiab
