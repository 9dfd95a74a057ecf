/- The copies of two Gabidulin codes among the arguments, in the call's first blocks. -/
import Derived.Test.YtcdhdgflgdmhdaaGab
namespace Go.Proofs.Ytcdhdgflgdmhdaa
open Go.RowKit Go.Joins
set_option linter.unusedVariables false
structure G8 (w0 : World) (d p : Int) (v : Value) (k d' p' : Int) (v' : Value) (k' : Int) (W : World) : Prop where
  b : Below w0.heap.size w0 W
  x : Box4 W w0.heap.size (.int .i64 d) (.int .i64 p) v (.int .i64 k)
  y : Box4 W (w0.heap.size + 1) (.int .i64 d') (.int .i64 p') v' (.int .i64 k')
theorem G8.start (w : World) (d p : Int) (v : Value) (k d' p' : Int) (v' : Value) (k' : Int) (T : TypeId) : G8 w d p v k d' p' v' k' ((w.alloc (.cells (gabC d p v k) T)).alloc (.cells (gabC d' p' v' k') T)) := by
  have hb2 := below_alloc1 (w.alloc (.cells (gabC d p v k) T)) (.cells (gabC d' p' v' k') T)
  have hY := Box4.one (w.alloc (.cells (gabC d p v k) T)) (.int .i64 d') (.int .i64 p') v' (.int .i64 k') T
  rw [World.size_alloc] at hY
  exact ⟨(below_alloc1 w _).trans (hb2.mono (by simp)), (Box4.one w _ _ _ _ T).next hb2, hY⟩
theorem G8.next {w0 W W' : World} {d p : Int} {v : Value} {k d' p' : Int} {v' : Value} {k' : Int} (h : G8 w0 d p v k d' p' v' k' W) (hb : Below W.heap.size W W') : G8 w0 d p v k d' p' v' k' W' := ⟨h.b.trans (hb.mono h.b.size), h.x.next hb, h.y.next hb⟩
theorem G8.drew {w0 W : World} {d p : Int} {v : Value} {k d' p' : Int} {v' : Value} {k' : Int} (h : G8 w0 d p v k d' p' v' k' W) : G8 w0 d p v k d' p' v' k' W.drew := h.next (Below.refl _ W).drew
end Go.Proofs.Ytcdhdgflgdmhdaa
