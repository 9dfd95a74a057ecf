/- Rows of numbers that calls have made, each in its own part of the memory: equal, marked, held; and the laws' functions over matrices. -/
import Derived.Test.YtlchelaohiojiaaDoorThird
import Derived.Test.YtlchelaohiojiaaDoorColPure
import Derived.Lib.SmallJoins
import Derived.Test.YtlchelaohiojiaaDoorRow
import Derived.Test.YtlchelaohiojiaaDoorMtRes
import Derived.Deep.RegionHeld3
namespace Go.Proofs.YtlchelaohiojiaaDoor
open Go.RowKit Go.Joins
set_option linter.unusedVariables false

/-- Two values that lie at the block q. -/
structure Box (W : World) (q : Nat) (u v : Value) : Prop where
  c0 : W.cell? ⟨q, 0, none⟩ = some u
  c1 : W.cell? ⟨q, 1, none⟩ = some v
  lt : q < W.heap.size
theorem Box.next {W W' : World} {q : Nat} {u v : Value} (h : Box W q u v) (hb : Below W.heap.size W W') : Box W' q u v :=
  ⟨(hb.cell (p := ⟨q, 0, none⟩) h.lt).trans h.c0, (hb.cell (p := ⟨q, 1, none⟩) h.lt).trans h.c1, Nat.lt_of_lt_of_le h.lt hb.size⟩
theorem Box.chg {W W' : World} {q B T : Nat} {u v : Value} (h : Box W q u v) (hb : Chg B T W W') (hq : q < B ∨ T ≤ q) : Box W' q u v := by
  have hg : W'.heap[q]? = W.heap[q]? := hb.block q h.lt hq
  exact ⟨(World.cell?_of_block (w := W) (a := ⟨q, 0, none⟩) hg).trans h.c0, (World.cell?_of_block (w := W) (a := ⟨q, 1, none⟩) hg).trans h.c1, Nat.lt_of_lt_of_le h.lt hb.size⟩
theorem Box.one (w : World) (u v : Value) (T : TypeId) : Box (w.alloc (.cells #[u, v] T)) w.heap.size u v := ⟨by simp, by simp, by simp⟩
theorem Box.two (w : World) (o : Obj) (u v : Value) (T : TypeId) : Box ((w.alloc o).alloc (.cells #[u, v] T)) (w.heap.size + 1) u v :=
  ⟨by simp [World.cell?_alloc_at], by simp [World.cell?_alloc_at], by simp⟩

/-- A matrix that is laid in a new block: zeros first, then its two values. -/
theorem box_put (w : World) (u v : Value) (T : TypeId) :
    Below w.heap.size w (((w.alloc (.cells #[.int .i64 0, .slice none 0 0] T)).setCell ⟨w.heap.size, 0, none⟩ u).setCell ⟨w.heap.size, 1, none⟩ v) ∧
    Box (((w.alloc (.cells #[.int .i64 0, .slice none 0 0] T)).setCell ⟨w.heap.size, 0, none⟩ u).setCell ⟨w.heap.size, 1, none⟩ v) w.heap.size u v := by
  have hs : (((w.alloc (.cells #[.int .i64 0, .slice none 0 0] T)).setCell ⟨w.heap.size, 0, none⟩ u).setCell ⟨w.heap.size, 1, none⟩ v).heap.size = w.heap.size + 1 := by
    show (Array.modify _ _ _).size = _
    rw [Array.size_modify]
    show (Array.modify _ _ _).size = _
    rw [Array.size_modify]; exact World.size_alloc ..
  refine ⟨((below_alloc1 w _).setCell (p := ⟨w.heap.size, 0, none⟩) (Nat.le_refl _) _).setCell (p := ⟨w.heap.size, 1, none⟩) (Nat.le_refl _) _, ?_, World.cell?_setCell_same' _ _ _ ?_, by rw [hs]; omega⟩
  · rw [World.cell?_setCell_other _ ⟨w.heap.size, 1, none⟩ ⟨w.heap.size, 0, none⟩ _ (by simp)]
    exact World.cell?_setCell_same' _ _ _ (by rw [World.cell?_alloc_at _ _ _ _ rfl]; rfl)
  · rw [World.cell?_setCell_other _ ⟨w.heap.size, 0, none⟩ ⟨w.heap.size, 1, none⟩ _ (by simp), World.cell?_alloc_at _ _ _ _ rfl]; rfl

set_option maxHeartbeats 400000 in
theorem eqMatrix_res {w : World} {B T B' T' : Nat} (c : Int) {v v' : Value} {xs : List Int} (h : Res w B T v xs) (h' : Res w B' T' v' xs) :
    Calls Tryd.prog 32 #[.agg #[.int .i64 c, v], .agg #[.int .i64 c, v']] w fun e w' => e = .returned (.bool true) ∧ Below w.heap.size w w' := by
  go_enter Tryd.func32, Tryd.ntmps32
  go_wp2_with fail
  refine (eq_res (h.next (below_alloc2 _ _ _)) (h'.next (below_alloc2 _ _ _))).mono ?_
  rintro e w1 ⟨rfl, hb⟩
  have HB := Lib.hid ((below_alloc2 w _ _).trans (hb.mono (by simp; omega)))
  clear hb
  go_wp2_with fail
  go_ret
  exact ⟨rfl, HB.out⟩

set_option maxHeartbeats 400000 in
theorem markMatrix_res {w : World} {B T : Nat} (c : Int) {v : Value} {xs : List Int} (h : Res w B T v xs) (k0 : Nat) (hk : k0 ≤ 1048577) (hx : xs.length ≤ 1048576) :
    Calls Tryd.prog 33 #[.agg #[.int .i64 c, v], .int .i64 k0] w fun e w' => e = .returned (.int .i64 ((k0 + xs.length : Nat) : Int)) ∧ Chg B T w w' ∧ Res w' B T v (marks k0 xs.length) := by
  go_enter Tryd.func33, Tryd.ntmps33
  go_wp2_with fail
  refine (mark_res (h.next (below_alloc1 _ _)) k0 hk hx).mono ?_
  rintro e w1 ⟨rfl, hC, hR⟩
  have HC := Lib.hid ((Chg.of (below_alloc1 w _)).trans hC)
  have HR := Lib.hid hR
  clear hC hR
  obtain ⟨s, hs⟩ : ∃ s : Nat, k0 + xs.length = s := ⟨_, rfl⟩
  rw [hs]
  have HS := Lib.hid hs
  clear hs
  go_wp2_with fail
  go_ret
  exact ⟨by rw [HS.out]; rfl, HC.out, HR.out⟩


end Go.Proofs.YtlchelaohiojiaaDoor
