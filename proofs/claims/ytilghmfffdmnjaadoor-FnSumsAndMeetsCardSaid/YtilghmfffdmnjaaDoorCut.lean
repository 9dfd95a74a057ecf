/- A law's first statement over two matrices: wherever the room for the model's result is made, the ways meet again. -/
import Derived.Test.YtilghmfffdmnjaaDoorRes
import Derived.Test.YtilghmfffdmnjaaDoorGrid
import Derived.Deep.DeepCutAuto
namespace Go.Proofs.YtilghmfffdmnjaaDoor
open Go.RowKit Go.Joins
set_option linter.unusedVariables false

theorem below_on {a W W' : World} (hb : Below W.heap.size W W') (h : Below a.heap.size a W) : Below a.heap.size a W' := h.trans (hb.mono h.size)
theorem below_via {W W' : World} {o : Obj} (hb : Below (W.alloc o).heap.size (W.alloc o) W') : Below W.heap.size W W' := (below_alloc1 W o).trans (hb.mono (by simp))
theorem below_al {a W : World} (h : Below a.heap.size a W) (o : Obj) : Below a.heap.size a (W.alloc o) := h.alloc h.size o
theorem below_two {a W : World} {q : Nat} (h : Below a.heap.size a W) (hq : a.heap.size ≤ q) (u v : Value) : Below a.heap.size a ((W.setCell ⟨q, 0, none⟩ u).setCell ⟨q, 1, none⟩ v) := (only2 W q u v).below h hq
theorem start_room {a W W' : World} {x y : Value} {T : TypeId} (hb : Below (W.alloc (.cells #[x, y] T)).heap.size (W.alloc (.cells #[x, y] T)) W') (h : Below a.heap.size a W) : MRoom W' W.heap.size ∧ a.heap.size ≤ W.heap.size := ⟨(MRoom.start W x y T).below hb, h.size⟩
theorem start_room_d {a W' : World} {x y : Value} {T : TypeId} (hb : Below (World.drew (a.alloc (.cells #[x, y] T))).heap.size (World.drew (a.alloc (.cells #[x, y] T))) W') : MRoom W' a.heap.size ∧ a.heap.size ≤ a.heap.size :=
  ⟨((MRoom.start a x y T).below (Below.refl _ _).drew).below hb, Nat.le_refl _⟩
theorem start_here {a W : World} (x y : Value) (T : TypeId) (h : Below a.heap.size a W) : MRoom (W.alloc (.cells #[x, y] T)) W.heap.size ∧ a.heap.size ≤ W.heap.size := ⟨MRoom.start W x y T, h.size⟩
theorem cut_a {a W W' : World} {q : Nat} {ao : Option Addr} {mo co : Nat} {xs : List Int} (hM : MRoom W q) (hq : a.heap.size ≤ q) (ha : Below a.heap.size a W) (hb : Below W.heap.size W W') (hR : Res W' W.heap.size W'.heap.size (.slice ao mo co) xs) (u : Value) :
    Box ((W'.setCell ⟨q, 0, none⟩ u).setCell ⟨q, 1, none⟩ (.slice ao mo co)) q u (.slice ao mo co) ∧ Res ((W'.setCell ⟨q, 0, none⟩ u).setCell ⟨q, 1, none⟩ (.slice ao mo co)) a.heap.size ((W'.setCell ⟨q, 0, none⟩ u).setCell ⟨q, 1, none⟩ (.slice ao mo co)).heap.size (.slice ao mo co) xs ∧
      Below a.heap.size a ((W'.setCell ⟨q, 0, none⟩ u).setCell ⟨q, 1, none⟩ (.slice ao mo co)) := by
  have hM' := hM.below hb
  obtain ⟨x, y, h0, h1⟩ := hM'.ex
  have h2 := two_setCell W' q u (.slice ao mo co) h0 h1
  have hs := (only2 W' q u (.slice ao mo co)).size
  exact ⟨⟨h2.1, h2.2, by rw [hs]; exact hM'.lt⟩, hR.fin hM.lt ha.size u _, below_two (below_on hb ha) hq _ _⟩
theorem cut_b {a W W' : World} {ao : Option Addr} {mo co : Nat} {xs : List Int} (ha : Below a.heap.size a W) (hb : Below W.heap.size W W') (hR : Res W' W.heap.size W'.heap.size (.slice ao mo co) xs) (u : Value) (T : TypeId) :
    Box (W'.alloc (.cells #[u, .slice ao mo co] T)) W'.heap.size u (.slice ao mo co) ∧ Res (W'.alloc (.cells #[u, .slice ao mo co] T)) a.heap.size (W'.alloc (.cells #[u, .slice ao mo co] T)).heap.size (.slice ao mo co) xs ∧ Below a.heap.size a (W'.alloc (.cells #[u, .slice ao mo co] T)) :=
  ⟨Box.one W' u _ T, (hR.next (below_alloc1 _ _)).wide ha.size (by simp) (Nat.le_refl _), below_al (below_on hb ha) _⟩
end Go.Proofs.YtilghmfffdmnjaaDoor
