/- Rows of numbers that calls have made, each in its own part of the memory: equal, marked, held; and the laws' functions over matrices. -/
import Derived.Test.YtlchelaohiojiaaThird
import Derived.Test.YtlchelaohiojiaaColPure
import Derived.Lib.SmallJoins
import Derived.Test.YtlchelaohiojiaaRow
import Derived.Test.YtlchelaohiojiaaMtRes
import Derived.Deep.RegionHeld3
namespace Go.Proofs.Ytlchelaohiojiaa
open Go.RowKit Go.Joins
set_option linter.unusedVariables false

/-- Two values that lie at the block q. -/
structure Box (W : World) (q : Nat) (u v : Value) : Prop where
  c0 : W.cell? ⟨q, 0, none⟩ = some u
  c1 : W.cell? ⟨q, 1, none⟩ = some v
  lt : q < W.heap.size
theorem Box.next {W W' : World} {q : Nat} {u v : Value} (h : Box W q u v) (hb : Below W.heap.size W W') : Box W' q u v :=
  ⟨(hb.cell (p := ⟨q, 0, none⟩) h.lt).trans h.c0, (hb.cell (p := ⟨q, 1, none⟩) h.lt).trans h.c1, Nat.lt_of_lt_of_le h.lt hb.size⟩
theorem Box.chg {W W' : World} {q B T : Nat} {u v : Value} (h : Box W q u v) (hb : Chg B T W W') (hq : q < B ∨ T ≤ q) : Box W' q u v := by
  have hg : W'.heap[q]? = W.heap[q]? := hb.block q h.lt hq
  exact ⟨(World.cell?_of_block (w := W) (a := ⟨q, 0, none⟩) hg).trans h.c0, (World.cell?_of_block (w := W) (a := ⟨q, 1, none⟩) hg).trans h.c1, Nat.lt_of_lt_of_le h.lt hb.size⟩
theorem Box.one (w : World) (u v : Value) (T : TypeId) : Box (w.alloc (.cells #[u, v] T)) w.heap.size u v := ⟨by simp, by simp, by simp⟩
theorem Box.two (w : World) (o : Obj) (u v : Value) (T : TypeId) : Box ((w.alloc o).alloc (.cells #[u, v] T)) (w.heap.size + 1) u v :=
  ⟨by simp [World.cell?_alloc_at], by simp [World.cell?_alloc_at], by simp⟩

/-- A matrix that is laid in a new block: zeros first, then its two values. -/
theorem box_put (w : World) (u v : Value) (T : TypeId) :
    Below w.heap.size w (((w.alloc (.cells #[.int .i64 0, .slice none 0 0] T)).setCell ⟨w.heap.size, 0, none⟩ u).setCell ⟨w.heap.size, 1, none⟩ v) ∧
    Box (((w.alloc (.cells #[.int .i64 0, .slice none 0 0] T)).setCell ⟨w.heap.size, 0, none⟩ u).setCell ⟨w.heap.size, 1, none⟩ v) w.heap.size u v := by
  have hs : (((w.alloc (.cells #[.int .i64 0, .slice none 0 0] T)).setCell ⟨w.heap.size, 0, none⟩ u).setCell ⟨w.heap.size, 1, none⟩ v).heap.size = w.heap.size + 1 := by
    show (Array.modify _ _ _).size = _
    rw [Array.size_modify]
    show (Array.modify _ _ _).size = _
    rw [Array.size_modify]; exact World.size_alloc ..
  refine ⟨((below_alloc1 w _).setCell (p := ⟨w.heap.size, 0, none⟩) (Nat.le_refl _) _).setCell (p := ⟨w.heap.size, 1, none⟩) (Nat.le_refl _) _, ?_, World.cell?_setCell_same' _ _ _ ?_, by rw [hs]; omega⟩
  · rw [World.cell?_setCell_other _ ⟨w.heap.size, 1, none⟩ ⟨w.heap.size, 0, none⟩ _ (by simp)]
    exact World.cell?_setCell_same' _ _ _ (by rw [World.cell?_alloc_at _ _ _ _ rfl]; rfl)
  · rw [World.cell?_setCell_other _ ⟨w.heap.size, 0, none⟩ ⟨w.heap.size, 1, none⟩ _ (by simp), World.cell?_alloc_at _ _ _ _ rfl]; rfl




end Go.Proofs.Ytlchelaohiojiaa
