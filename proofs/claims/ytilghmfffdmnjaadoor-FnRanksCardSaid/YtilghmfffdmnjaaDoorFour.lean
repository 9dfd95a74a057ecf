/- Two grids: the blocks in which functions of two matrices begin, and results of two grids. -/
import Derived.Test.YtilghmfffdmnjaaDoorSp1
namespace Go.Proofs.YtilghmfffdmnjaaDoor
open Go.RowKit Go.Joins
set_option linter.unusedVariables false

/-- The four blocks in which 'gridsFor' begins: two matrices, room for two grids. -/
theorem four (w : World) (u0 u1 v0 v1 : Value) (W : World) (hW : W = (((w.alloc (.cells #[u0, u1] 50)).alloc (.cells #[v0, v1] 50)).alloc (.cells (gridC [] 0) 105)).alloc (.cells (gridC [] 0) 105)) :
    Room W (w.heap.size + 1 + 1) ∧ Room W (w.heap.size + 1 + 1 + 1) ∧ Below w.heap.size w W ∧ Box W w.heap.size u0 u1 ∧ Box W (w.heap.size + 1) v0 v1 := by
  subst hW
  have nil : ∀ j, nth [] j < 4294967296 := by intro j; simp [nth]
  have h1 := (GAt.start ((w.alloc (.cells #[u0, u1] 50)).alloc (.cells #[v0, v1] 50)) [] 0 105 (by simp) nil).room
  have h2 := (GAt.start (((w.alloc (.cells #[u0, u1] 50)).alloc (.cells #[v0, v1] 50)).alloc (.cells (gridC [] 0) 105)) [] 0 105 (by simp) nil).room
  refine ⟨by simpa using h1.below (below_alloc1 _ _), by simpa using h2, (below_alloc2 w _ _).trans ((below_alloc2 _ _ _).mono (by simp; omega)), ?_, ?_⟩
  · exact ((Box.one w u0 u1 _).next (below_alloc1 _ _)).next (below_alloc2 _ _ _)
  · exact (Box.two w _ v0 v1 _).next (below_alloc2 _ _ _)

theorem grids_results {fn : Func} {p s u : Tmp} (h : fn.results = #[.cell p 105, .cell s 105, .tmp u]) (tmps : Array Value) {W : World} {q q' : Nat} {L M : List Nat} {c d : Int}
    (hp : tmps.getD p undef = .pointer (some ⟨q, 0, none⟩)) (hs : tmps.getD s undef = .pointer (some ⟨q', 0, none⟩)) (hG : GAt W q L c) (hH : GAt W q' M d) :
    (results fn tmps).run Tryd.prog W = .ok (.tuple #[.agg (gridC L c), .agg (gridC M d), tmps.getD u undef]) W := by
  have hp' : tmps[p]?.getD undef = .pointer (some ⟨q, 0, none⟩) := by simpa using hp
  have hs' : tmps[s]?.getD undef = .pointer (some ⟨q', 0, none⟩) := by simpa using hs
  simp [results, h, hp', hs', asAddr, hG.load, hH.load, Sem.run_bind, Result.andThen]
theorem store_grid (W : World) (q : Nat) (hR : Room W q) (L : List Nat) (c : Int) (hl : L.length ≤ 10) (hr : ∀ j, nth L j < 4294967296) :
    ∃ W2, Sem.run Tryd.prog (storeCells ⟨q, 0, none⟩ (gridC L c).toList) W = .ok () W2 ∧ GAt W2 q L c ∧ Only q W W2 := by
  refine ⟨_, run_storeCells_cells (P := Tryd.prog) q 0 (gridC L c).toList 0 _ (fun j hj => ?_) (fun j hj => ?_) (fun v hv => ?_), GAt.store hR L c hl hr, ?_⟩
  · exact (hR.there j (by simpa [gridC] using hj)).1
  · exact (hR.there j (by simpa [gridC] using hj)).2
  · simp [gridC] at hv
    rcases hv with rfl | rfl | rfl | rfl | rfl | rfl | rfl | rfl | rfl | rfl | rfl | rfl <;> rfl
  · exact Only.setCells _ _ _ (Only.refl _ _)
/-- Two grids that are laid in two new blocks: zeros first, then the cells. -/
theorem grids_put (w : World) (L : List Nat) (c : Int) (hl : L.length ≤ 10) (hr : ∀ j, nth L j < 4294967296) (M : List Nat) (d : Int) (hm : M.length ≤ 10) (hs : ∀ j, nth M j < 4294967296) (W : World)
    (hW : W = (w.alloc (.cells #[.int .i64 0, .int .u32 0, .int .u32 0, .int .u32 0, .int .u32 0, .int .u32 0, .int .u32 0, .int .u32 0, .int .u32 0, .int .u32 0, .int .u32 0, .int .i64 0] 105)).alloc (.cells #[.int .i64 0, .int .u32 0, .int .u32 0, .int .u32 0, .int .u32 0, .int .u32 0, .int .u32 0, .int .u32 0, .int .u32 0, .int .u32 0, .int .u32 0, .int .i64 0] 105)) :
    ∃ W1 W2, Sem.run Tryd.prog (storeCells ⟨w.heap.size, 0, none⟩ (gridC L c).toList) W = .ok () W1 ∧ Sem.run Tryd.prog (storeCells ⟨w.heap.size + 1, 0, none⟩ (gridC M d).toList) W1 = .ok () W2 ∧
      GAt W2 w.heap.size L c ∧ GAt W2 (w.heap.size + 1) M d ∧ Below w.heap.size w W2 := by
  subst hW
  have hR := ((GAt.start w [] 0 105 (by simp) (by intro j; simp [nth])).room).below (below_alloc1 _ (.cells (gridC [] 0) 105))
  have hT : Room ((w.alloc (.cells (gridC [] 0) 105)).alloc (.cells (gridC [] 0) 105)) (w.heap.size + 1) := by
    have := (GAt.start (w.alloc (.cells (gridC [] 0) 105)) [] 0 105 (by simp) (by intro j; simp [nth])).room
    simpa using this
  obtain ⟨W1, r1, hG1, hO1⟩ := store_grid ((w.alloc (.cells #[.int .i64 0, .int .u32 0, .int .u32 0, .int .u32 0, .int .u32 0, .int .u32 0, .int .u32 0, .int .u32 0, .int .u32 0, .int .u32 0, .int .u32 0, .int .i64 0] 105)).alloc (.cells #[.int .i64 0, .int .u32 0, .int .u32 0, .int .u32 0, .int .u32 0, .int .u32 0, .int .u32 0, .int .u32 0, .int .u32 0, .int .u32 0, .int .u32 0, .int .i64 0] 105)) w.heap.size hR L c hl hr
  obtain ⟨W2, r2, hG2, hO2⟩ := store_grid _ _ (hT.only hO1 (by omega)) M d hm hs
  exact ⟨W1, W2, r1, r2, hG1.only hO2 (by omega), hG2, hO2.below (hO1.below (below_alloc2 _ _ _) (Nat.le_refl _)) (by omega)⟩
/-- Three blocks: two matrices, room for a third. -/
theorem three (w : World) (u0 u1 v0 v1 : Value) (W : World) (hW : W = ((w.alloc (.cells #[u0, u1] 50)).alloc (.cells #[v0, v1] 50)).alloc (.cells #[.int .i64 0, .slice none 0 0] 50)) :
    MRoom W (w.heap.size + 1 + 1) ∧ Below w.heap.size w W ∧ Box W w.heap.size u0 u1 ∧ Box W (w.heap.size + 1) v0 v1 := by
  subst hW
  have h1 := MRoom.start ((w.alloc (.cells #[u0, u1] 50)).alloc (.cells #[v0, v1] 50)) (.int .i64 0) (.slice none 0 0) 50
  exact ⟨by simpa using h1, below_alloc3 _ _ _ _, (Box.one w u0 u1 _).next (below_alloc2 _ _ _), (Box.two w _ v0 v1 _).next (below_alloc1 _ _)⟩
end Go.Proofs.YtilghmfffdmnjaaDoor
