/- The calculator's zero value, where the translation is small and does not name it itself. -/
import Derived.Test.YtbnjmafkcfjmeacProg
import Derived.WalkKit
namespace Go.Proofs

@[irreducible] def Try.zeroCells57 : Array Value := #[.int .i64 0] ++ Array.replicate 1024 (.int .u8 0)
theorem Try.zeroValue57 (w : World) : (zeroValue 57).run Try.prog w = .ok (.agg Try.zeroCells57) w := by kernel_rfl
@[simp] theorem Try.zeroCells57_size : Try.zeroCells57.size = 1025 := by kernel_rfl
@[simp] theorem Try.zeroCells57_ne : Try.zeroCells57 ≠ #[] := by
  intro h
  have := Try.zeroCells57_size
  rw [h] at this
  cases this
end Go.Proofs
