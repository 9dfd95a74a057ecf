/- An array of thirty-two numbers in a variable: laid, read and copied. -/
import Derived.Test.YtlchelaohiojiaaDoorHasAll
import Derived.Test.YtlchelaohiojiaaDoorWr
import Derived.Lib.SmallJoins
import Derived.Deep.MidRow
namespace Go.Proofs.YtlchelaohiojiaaDoor
open Go.RowKit Go.Joins
set_option linter.unusedVariables false

/-- The cells of an array that a function tells. -/
def arrC (f : Nat → Nat) : Array Value := #[.int .i64 (f 0 : Nat), .int .i64 (f 1 : Nat), .int .i64 (f 2 : Nat), .int .i64 (f 3 : Nat), .int .i64 (f 4 : Nat), .int .i64 (f 5 : Nat), .int .i64 (f 6 : Nat), .int .i64 (f 7 : Nat), .int .i64 (f 8 : Nat), .int .i64 (f 9 : Nat), .int .i64 (f 10 : Nat), .int .i64 (f 11 : Nat), .int .i64 (f 12 : Nat), .int .i64 (f 13 : Nat), .int .i64 (f 14 : Nat), .int .i64 (f 15 : Nat), .int .i64 (f 16 : Nat), .int .i64 (f 17 : Nat), .int .i64 (f 18 : Nat), .int .i64 (f 19 : Nat), .int .i64 (f 20 : Nat), .int .i64 (f 21 : Nat), .int .i64 (f 22 : Nat), .int .i64 (f 23 : Nat), .int .i64 (f 24 : Nat), .int .i64 (f 25 : Nat), .int .i64 (f 26 : Nat), .int .i64 (f 27 : Nat), .int .i64 (f 28 : Nat), .int .i64 (f 29 : Nat), .int .i64 (f 30 : Nat), .int .i64 (f 31 : Nat)]
theorem arrC_list (f : Nat → Nat) : (arrC f).toList = (List.range 32).map fun j => Value.int .i64 (f j : Nat) := rfl
theorem arrC_get (f : Nat → Nat) {j : Nat} (h : j < 32) : (arrC f)[j]? = some (.int .i64 (f j : Nat)) := by
  rw [← Array.getElem?_toList, arrC_list, List.getElem?_map, List.getElem?_range h]; rfl
theorem arrC_size (f : Nat → Nat) : (arrC f).size = 32 := rfl
theorem Tryd.infoA : (Tryd.prog.info? 67).map (·.size) = some 32 := by kernel_rfl
/-- The array lies at the block q. -/
structure AAt (W : World) (q : Nat) (f : Nat → Nat) : Prop where
  cell : ∀ j, j < 32 → W.cell? ⟨q, j, none⟩ = some (.int .i64 (f j : Nat))
  free : ∀ j, j < 32 → W.frozen? ⟨q, j, none⟩ = false
  lt : q < W.heap.size
theorem AAt.below {W W' : World} {q : Nat} {f : Nat → Nat} (h : AAt W q f) (hb : Below W.heap.size W W') : AAt W' q f :=
  ⟨fun j hj => (hb.cell (p := ⟨q, j, none⟩) h.lt).trans (h.cell j hj), fun j hj => (hb.frozen (p := ⟨q, j, none⟩) h.lt).trans (h.free j hj), Nat.lt_of_lt_of_le h.lt hb.size⟩
theorem AAt.same {W W' : World} {q : Nat} {f : Nat → Nat} (h : AAt W q f) (e : W'.heap = W.heap) : AAt W' q f :=
  ⟨fun j hj => by rw [← h.cell j hj]; unfold World.cell?; rw [e], fun j hj => by rw [← h.free j hj]; unfold World.frozen?; rw [e], by rw [e]; exact h.lt⟩
theorem AAt.only {W W' : World} {q b : Nat} {f : Nat → Nat} (h : AAt W q f) (hb : Only b W W') (hq : q ≠ b) : AAt W' q f := by
  have hg : W'.heap[q]? = W.heap[q]? := hb.block q hq
  exact ⟨fun j hj => (World.cell?_of_block (w := W) (a := ⟨q, j, none⟩) hg).trans (h.cell j hj), fun j hj => (World.frozen?_of_block (w := W) (a := ⟨q, j, none⟩) hg).trans (h.free j hj), by rw [hb.size]; exact h.lt⟩
theorem AAt.set {W : World} {q : Nat} {f : Nat → Nat} (h : AAt W q f) (i : Nat) (hi : i < 32) (x : Nat) : AAt (W.setCell ⟨q, i, none⟩ (.int .i64 x)) q (put f i x) := by
  refine ⟨fun j hj => ?_, fun j hj => by rw [World.frozen?_setCell]; exact h.free j hj, by rw [show (W.setCell ⟨q, i, none⟩ (.int .i64 x)).heap.size = W.heap.size from Array.size_modify ..]; exact h.lt⟩
  simp only [put]
  by_cases e : j = i
  · subst e
    rw [if_pos rfl]
    exact World.cell?_setCell_same' _ _ _ (by rw [h.cell j hj]; rfl)
  · rw [if_neg e, World.cell?_setCell_other _ ⟨q, i, none⟩ ⟨q, j, none⟩ _ (fun h => e (by injection h with _ h _; omega))]
    exact h.cell j hj
theorem AAt.start (W : World) (f : Nat → Nat) (T : TypeId) : AAt (W.alloc (.cells (arrC f) T)) W.heap.size f := by
  refine ⟨fun j hj => ?_, fun j hj => ?_, by simp⟩
  · rw [World.cell?_alloc_at _ _ _ _ rfl]; exact arrC_get f hj
  · rw [World.frozen?_alloc_at _ _ _ _ rfl]
theorem AAt.range {W : World} {q : Nat} {f : Nat → Nat} (h : AAt W q f) : W.rangeAt q 0 (arrC f).toList := by
  intro j v hv
  rw [Nat.zero_add]
  have hv' : (arrC f)[j]? = some v := by simpa using hv
  have hj : j < 32 := by
    have := (Array.getElem?_eq_some_iff.1 hv').1
    simpa [arrC_size] using this
  rw [h.cell j hj, ← arrC_get f hj]; exact hv'
theorem AAt.load {W : World} {q : Nat} {f : Nat → Nat} (h : AAt W q f) : (loadVar 67 ⟨q, 0, none⟩).run Tryd.prog W = .ok (.agg (arrC f)) W := by
  have := run_loadVar_mid (P := Tryd.prog) W q 0 67 (arrC f).toList _ h.range Tryd.underlying67 rfl Tryd.infoA
  simpa using this
theorem AAt.there {W : World} {q : Nat} {f : Nat → Nat} (h : AAt W q f) : W.there q 0 32 := fun j hj => ⟨by rw [Nat.zero_add, h.cell j hj]; rfl, by rw [Nat.zero_add]; exact h.free j hj⟩
theorem Only.setCells' {b : Nat} {w : World} : ∀ (vs : List Value) (o : Nat) (w' : World), Only b w w' → Only b w (w'.setCells b o vs)
  | [], _, _, h => h
  | v :: r, o, w', h => by rw [World.setCells]; exact Only.setCells' r (o + 1) _ (h.setCell o v)
/-- The array is laid over another one. -/
theorem AAt.put {W : World} {q : Nat} {f : Nat → Nat} (h : AAt W q f) (g : Nat → Nat) :
    ∃ W2, Sem.run Tryd.prog (storeCells ⟨q, 0, none⟩ (arrC g).toList) W = .ok () W2 ∧ AAt W2 q g ∧ Only q W W2 := by
  have hT := h.there
  have hO : Only q W (W.setCells q 0 (arrC g).toList) := Only.setCells' (arrC g).toList 0 W (Only.refl q W)
  refine ⟨_, run_storeCells_cells (P := Tryd.prog) q 0 (arrC g).toList 0 _ (fun j hj => (hT j (by simpa [arrC_size] using hj)).1) (fun j hj => (hT j (by simpa [arrC_size] using hj)).2) (fun v hv => ?_), ⟨fun j hj => ?_, fun j hj => ?_, by rw [hO.size]; exact h.lt⟩, hO⟩
  · rw [arrC_list] at hv
    obtain ⟨j, _, rfl⟩ := List.mem_map.1 hv
    rfl
  · have := World.rangeAt_setCells_same W q 0 (arrC g).toList (by rw [Array.length_toList, arrC_size]; exact hT) j (.int .i64 (g j : Nat)) (by simpa using arrC_get g hj)
    rwa [Nat.zero_add] at this
  · rw [World.frozen?_setCells]; exact h.free j hj
/-- An array of thirty-two truth values at the block q. -/
structure BAt (W : World) (q : Nat) (f : Nat → Bool) : Prop where
  cell : ∀ j, j < 32 → W.cell? ⟨q, j, none⟩ = some (.bool (f j))
  free : ∀ j, j < 32 → W.frozen? ⟨q, j, none⟩ = false
  lt : q < W.heap.size
theorem BAt.below {W W' : World} {q : Nat} {f : Nat → Bool} (h : BAt W q f) (hb : Below W.heap.size W W') : BAt W' q f :=
  ⟨fun j hj => (hb.cell (p := ⟨q, j, none⟩) h.lt).trans (h.cell j hj), fun j hj => (hb.frozen (p := ⟨q, j, none⟩) h.lt).trans (h.free j hj), Nat.lt_of_lt_of_le h.lt hb.size⟩
theorem BAt.only {W W' : World} {q b : Nat} {f : Nat → Bool} (h : BAt W q f) (hb : Only b W W') (hq : q ≠ b) : BAt W' q f := by
  have hg : W'.heap[q]? = W.heap[q]? := hb.block q hq
  exact ⟨fun j hj => (World.cell?_of_block (w := W) (a := ⟨q, j, none⟩) hg).trans (h.cell j hj), fun j hj => (World.frozen?_of_block (w := W) (a := ⟨q, j, none⟩) hg).trans (h.free j hj), by rw [hb.size]; exact h.lt⟩
theorem BAt.set {W : World} {q : Nat} {f : Nat → Bool} (h : BAt W q f) (i : Nat) (hi : i < 32) (x : Bool) : BAt (W.setCell ⟨q, i, none⟩ (.bool x)) q (fun j => if j = i then x else f j) := by
  refine ⟨fun j hj => ?_, fun j hj => by rw [World.frozen?_setCell]; exact h.free j hj, by rw [show (W.setCell ⟨q, i, none⟩ (.bool x)).heap.size = W.heap.size from Array.size_modify ..]; exact h.lt⟩
  by_cases e : j = i
  · subst e
    rw [if_pos rfl]
    exact World.cell?_setCell_same' _ _ _ (by rw [h.cell j hj]; rfl)
  · rw [if_neg e, World.cell?_setCell_other _ ⟨q, i, none⟩ ⟨q, j, none⟩ _ (fun h => e (by injection h with _ h _; omega))]
    exact h.cell j hj
def falses : Array Value := #[.bool false, .bool false, .bool false, .bool false, .bool false, .bool false, .bool false, .bool false, .bool false, .bool false, .bool false, .bool false, .bool false, .bool false, .bool false, .bool false, .bool false, .bool false, .bool false, .bool false, .bool false, .bool false, .bool false, .bool false, .bool false, .bool false, .bool false, .bool false, .bool false, .bool false, .bool false, .bool false]
theorem falses_get {j : Nat} (h : j < 32) : falses[j]? = some (.bool false) := by
  rw [← Array.getElem?_toList, show falses.toList = List.replicate 32 (Value.bool false) from rfl, List.getElem?_replicate, if_pos h]
theorem BAt.start (W : World) (T : TypeId) : BAt (W.alloc (.cells falses T)) W.heap.size (fun _ => false) := by
  refine ⟨fun j hj => ?_, fun j hj => ?_, by simp⟩
  · rw [World.cell?_alloc_at _ _ _ _ rfl]; exact falses_get hj
  · rw [World.frozen?_alloc_at _ _ _ _ rfl]
theorem arr_results {fn : Func} {p u : Tmp} (h : fn.results = #[.cell p 67, .tmp u]) (tmps : Array Value) {W : World} {q : Nat} {f : Nat → Nat}
    (hp : tmps.getD p undef = .pointer (some ⟨q, 0, none⟩)) (hG : AAt W q f) : (results fn tmps).run Tryd.prog W = .ok (.tuple #[.agg (arrC f), tmps.getD u undef]) W := by
  rw [results_cell_tmp h, hp]
  simp [asAddr, hG.load, Result.andThen]
/-- The array is laid in a new block: zeros first. -/
theorem arr_put (W : World) (g : Nat → Nat) :
    ∃ W2, Sem.run Tryd.prog (storeCells ⟨W.heap.size, 0, none⟩ (arrC g).toList) (W.alloc (.cells (arrC fun _ => 0) 67)) = .ok () W2 ∧ AAt W2 W.heap.size g ∧ Below W.heap.size W W2 := by
  obtain ⟨W2, h1, h2, h3⟩ := (AAt.start W (fun _ => 0) 67).put g
  exact ⟨W2, h1, h2, h3.below (below_alloc1 W _) (Nat.le_refl _)⟩
theorem arr_load {ops : Array Oper} {rest : List Oper} {op : Oper} {a : Act} {w : World} {Q : Exit → Act → World → Prop} (hgd : op.guard = none) (x : Operand) (ho : op.op = .load 67 x)
    (q : Nat) (f : Nat → Nat) (hx : a.eval x = .pointer (some ⟨q, 0, none⟩)) (hA : AAt w q f) (h : wpList Tryd.prog ops Q rest (a.put op.dst (.agg (arrC f))) w) : wpList Tryd.prog ops Q (op :: rest) a w :=
  wpList_load_mid hgd 67 x ho q 0 hx (arrC f).toList _ hA.range Tryd.underlying67 rfl Tryd.infoA h
theorem arr_store {ops : Array Oper} {rest : List Oper} {op : Oper} {a : Act} {w : World} {Q : Exit → Act → World → Prop} (hgd : op.guard = none) (x y : Operand) (ho : op.op = .store 67 x y)
    (q : Nat) (f g : Nat → Nat) (hx : a.eval x = .pointer (some ⟨q, 0, none⟩)) (hy : a.eval y = .agg (arrC g)) (hA : AAt w q f) (h : ∀ W2, Hid (AAt W2 q g) → Hid (Only q w W2) → wpList Tryd.prog ops Q rest (a.put op.dst undef) W2) : wpList Tryd.prog ops Q (op :: rest) a w := by
  have hO : Only q w (w.setCells q 0 (arrC g).toList) := Only.setCells' (arrC g).toList 0 w (Only.refl q w)
  refine wpList_store_mid hgd 67 x y ho q 0 (arrC g) hx hy hA.there Tryd.infoA ?_ (h _ (Lib.hid ⟨fun j hj => ?_, fun j hj => ?_, by rw [hO.size]; exact hA.lt⟩) (Lib.hid hO))
  · refine Array.all_eq_true_iff_forall_mem.2 (fun v hv => ?_)
    have hv' : v ∈ (arrC g).toList := by simpa using hv
    rw [arrC_list] at hv'
    obtain ⟨j, _, rfl⟩ := List.mem_map.1 hv'
    rfl
  · have := World.rangeAt_setCells_same w q 0 (arrC g).toList (by rw [Array.length_toList, arrC_size]; exact hA.there) j (.int .i64 (g j : Nat)) (by simpa using arrC_get g hj)
    rwa [Nat.zero_add] at this
  · rw [World.frozen?_setCells]; exact hA.free j hj
end Go.Proofs.YtlchelaohiojiaaDoor
