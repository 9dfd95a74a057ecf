/- The copy of a field that the laws make. -/
import Derived.Test.YtlchelaohiojiaaImplField
namespace Go.Proofs.Ytlchelaohiojiaa
open Go.RowKit
set_option linter.unusedVariables false

set_option maxHeartbeats 400000 in
theorem toField_any (d p : Int) (w : World) :
    Calls Try.prog 101 #[.agg #[.int .i64 d, .int .i64 p]] w fun e w' => e = .returned (.agg #[.int .i64 d, .int .i64 p]) ∧ Below w.heap.size w w' := by
  go_enter Try.func101, Try.ntmps101
  go_wp2
  refine bodyPost_ret (v := .agg #[.int .i64 d, .int .i64 p]) (by simp [results, Try.results101, go_sem]) rfl ⟨rfl, ?_⟩
  exact (((Below.refl _ w).alloc (Nat.le_refl _) _).alloc (by simp) _).alloc (by simp; omega) _

/-- In the world W the block behind those of w0 holds the field (d, p), and whatever lay in w0 lies as it lay. -/
structure FAt (w0 : World) (d p : Int) (W : World) : Prop where
  b : Below w0.heap.size w0 W
  z : w0.heap.size + 1 ≤ W.heap.size
  c0 : W.cell? ⟨w0.heap.size, 0, none⟩ = some (.int .i64 d)
  c1 : W.cell? ⟨w0.heap.size, 1, none⟩ = some (.int .i64 p)
theorem FAt.start (w : World) (d p : Int) (T : TypeId) : FAt w d p (w.alloc (.cells #[.int .i64 d, .int .i64 p] T)) :=
  ⟨(Below.refl _ w).alloc (Nat.le_refl _) _, by simp, by simp, by simp⟩
theorem FAt.next {w0 W W1 : World} {d p : Int} (h : FAt w0 d p W) (hb : Below W.heap.size W W1) : FAt w0 d p W1 :=
  ⟨h.b.trans (hb.mono (by have := h.z; omega)), Nat.le_trans h.z hb.size, (hb.cell (p := ⟨w0.heap.size, 0, none⟩) h.z).trans h.c0, (hb.cell (p := ⟨w0.heap.size, 1, none⟩) h.z).trans h.c1⟩
theorem FAt.drew {w0 W : World} {d p : Int} (h : FAt w0 d p W) : FAt w0 d p W.drew := ⟨h.b.drew, by simpa using h.z, by simpa using h.c0, by simpa using h.c1⟩
theorem FAt.alloc {w0 W : World} {d p : Int} (h : FAt w0 d p W) (o : Obj) : FAt w0 d p (W.alloc o) :=
  h.next ((Below.refl _ W).alloc (Nat.le_refl _) o)
end Go.Proofs.Ytlchelaohiojiaa
