/- Structures as values: some cells that lie at a block. -/
import Derived.Test.YtfpahdbkcdpchaaSs
import Derived.Test.YtfpahdbkcdpchaaToField
import Derived.Test.YtfpahdbkcdpchaaRes
import Derived.Deep.MidRow
namespace Go.Proofs.Ytfpahdbkcdpchaa
open Go.RowKit Go.Joins
set_option linter.unusedVariables false

/-- Some values that lie at the block q. -/
structure LB (W : World) (q : Nat) (vs : List Value) : Prop where
  cell : ∀ j v, vs[j]? = some v → W.cell? ⟨q, j, none⟩ = some v
  lt : q < W.heap.size
theorem LB.next {W W' : World} {q : Nat} {vs : List Value} (h : LB W q vs) (hb : Below W.heap.size W W') : LB W' q vs :=
  ⟨fun j v hv => (hb.cell (p := ⟨q, j, none⟩) h.lt).trans (h.cell j v hv), Nat.lt_of_lt_of_le h.lt hb.size⟩
theorem LB.chg {W W' : World} {q B T : Nat} {vs : List Value} (h : LB W q vs) (hb : Chg B T W W') (hq : q < B ∨ T ≤ q) : LB W' q vs := by
  have hg : W'.heap[q]? = W.heap[q]? := hb.block q h.lt hq
  exact ⟨fun j v hv => (World.cell?_of_block (w := W) (a := ⟨q, j, none⟩) hg).trans (h.cell j v hv), Nat.lt_of_lt_of_le h.lt hb.size⟩
theorem LB.one (w : World) (vs : List Value) (T : TypeId) : LB (w.alloc (.cells vs.toArray T)) w.heap.size vs :=
  ⟨fun j v hv => by rw [World.cell?_alloc_at _ _ _ _ rfl]; simpa using hv, by simp⟩
theorem LB.other {W : World} {q b : Nat} {vs : List Value} (h : LB W q vs) (hb : q ≠ b) (i : Nat) (v : Value) : LB (W.setCell ⟨b, i, none⟩ v) q vs :=
  ⟨fun j u hu => by rw [World.cell?_setCell_other _ ⟨b, i, none⟩ ⟨q, j, none⟩ _ (fun e => hb (by injection e with e _ _; omega))]; exact h.cell j u hu, by rw [size_setCell_]; exact h.lt⟩
/-- Some values that lie at the block q and may be overwritten. -/
structure LF (W : World) (q : Nat) (vs : List Value) : Prop where
  b : LB W q vs
  free : ∀ j, j < vs.length → W.frozen? ⟨q, j, none⟩ = false
theorem LF.next {W W' : World} {q : Nat} {vs : List Value} (h : LF W q vs) (hb : Below W.heap.size W W') : LF W' q vs :=
  ⟨h.b.next hb, fun j hj => (hb.frozen (p := ⟨q, j, none⟩) h.b.lt).trans (h.free j hj)⟩
theorem LF.set {W : World} {q : Nat} {vs : List Value} (h : LF W q vs) (i : Nat) (hi : i < vs.length) (v : Value) : LF (W.setCell ⟨q, i, none⟩ v) q (vs.set i v) := by
  refine ⟨⟨fun j u hu => ?_, by rw [size_setCell_]; exact h.b.lt⟩, fun j hj => by rw [World.frozen?_setCell]; exact h.free j (by simpa using hj)⟩
  by_cases e : j = i
  · subst e
    rw [List.getElem?_set_self hi] at hu
    injection hu with hu
    subst hu
    exact World.cell?_setCell_same' _ _ _ (by rw [h.b.cell j _ (List.getElem?_eq_getElem hi)]; rfl)
  · rw [List.getElem?_set_ne (fun h => e h.symm)] at hu
    rw [World.cell?_setCell_other _ ⟨q, i, none⟩ ⟨q, j, none⟩ _ (fun h => e (by injection h with _ h _; omega))]
    exact h.b.cell j u hu
theorem LF.other {W : World} {q b : Nat} {vs : List Value} (h : LF W q vs) (hb : q ≠ b) (i : Nat) (v : Value) : LF (W.setCell ⟨b, i, none⟩ v) q vs :=
  ⟨h.b.other hb i v, fun j hj => by rw [World.frozen?_setCell]; exact h.free j hj⟩
theorem LF.start (w : World) (vs : List Value) (T : TypeId) : LF (w.alloc (.cells vs.toArray T)) w.heap.size vs :=
  ⟨LB.one w vs T, fun j hj => by rw [World.frozen?_alloc_at _ _ _ _ rfl]⟩
/-- The copy of a structure among the arguments, in the call's first block. -/
structure G1 (w0 : World) (vs : List Value) (W : World) : Prop where
  b : Below w0.heap.size w0 W
  x : LB W w0.heap.size vs
theorem G1.start (w : World) (vs : List Value) (T : TypeId) : G1 w vs (w.alloc (.cells vs.toArray T)) := ⟨below_alloc1 w _, LB.one w vs T⟩
theorem G1.z {w0 W : World} {vs : List Value} (h : G1 w0 vs W) : w0.heap.size + 1 ≤ W.heap.size := h.x.lt
theorem G1.next {w0 W W' : World} {vs : List Value} (h : G1 w0 vs W) (hb : Below W.heap.size W W') : G1 w0 vs W' := ⟨h.b.trans (hb.mono (by have := h.z; omega)), h.x.next hb⟩
theorem G1.drew {w0 W : World} {vs : List Value} (h : G1 w0 vs W) : G1 w0 vs W.drew := ⟨h.b.drew, h.x.next (Below.refl _ W).drew⟩
theorem G1.chg {w0 W W' : World} {vs : List Value} {B T : Nat} (h : G1 w0 vs W) (hb : Chg B T W W') (hq : w0.heap.size < B) : G1 w0 vs W' :=
  ⟨Chg.below h.b (by have := h.z; omega) hb (by omega), h.x.chg hb (.inl hq)⟩
/-- The copies of two structures among the arguments, in the call's first two blocks. -/
structure G2 (w0 : World) (vs us : List Value) (W : World) : Prop where
  b : Below w0.heap.size w0 W
  x : LB W w0.heap.size vs
  y : LB W (w0.heap.size + 1) us
theorem G2.start (w : World) (vs us : List Value) (T U : TypeId) : G2 w vs us ((w.alloc (.cells vs.toArray T)).alloc (.cells us.toArray U)) := by
  refine ⟨below_alloc2 w _ _, (LB.one w vs T).next (below_alloc1 _ _), ?_⟩
  have := LB.one (w.alloc (.cells vs.toArray T)) us U
  rwa [World.size_alloc] at this
theorem G2.z {w0 W : World} {vs us : List Value} (h : G2 w0 vs us W) : w0.heap.size + 1 + 1 ≤ W.heap.size := h.y.lt
theorem G2.next {w0 W W' : World} {vs us : List Value} (h : G2 w0 vs us W) (hb : Below W.heap.size W W') : G2 w0 vs us W' := ⟨h.b.trans (hb.mono (by have := h.z; omega)), h.x.next hb, h.y.next hb⟩
theorem G2.drew {w0 W : World} {vs us : List Value} (h : G2 w0 vs us W) : G2 w0 vs us W.drew := ⟨h.b.drew, h.x.next (Below.refl _ W).drew, h.y.next (Below.refl _ W).drew⟩
theorem G2.chg {w0 W W' : World} {vs us : List Value} {B T : Nat} (h : G2 w0 vs us W) (hb : Chg B T W W') (hq : w0.heap.size + 1 < B) : G2 w0 vs us W' :=
  ⟨Chg.below h.b (by have := h.z; omega) hb (by omega), h.x.chg hb (.inl (by omega)), h.y.chg hb (.inl hq)⟩
/-- A structure's value, loaded and returned. -/
theorem lb_load {W : World} {q : Nat} {vs : List Value} (h : LB W q vs) (T : TypeId) {d : TypeDesc} (hU : Try.prog.underlying T = some d) (hd : d.isRow = true) (hI : (Try.prog.info? T).map (·.size) = some vs.length) :
    (loadVar T ⟨q, 0, none⟩).run Try.prog W = .ok (.agg vs.toArray) W :=
  run_loadVar_mid (P := Try.prog) W q 0 T vs _ (fun j v hv => by rw [Nat.zero_add]; exact h.cell j v hv) hU hd hI
theorem lb_result {fn : Func} {p : Tmp} {T : TypeId} (h : fn.results = #[.cell p T]) (tmps : Array Value) {W : World} {q : Nat} {vs : List Value}
    (hp : tmps.getD p undef = .pointer (some ⟨q, 0, none⟩)) (hG : LB W q vs) {d : TypeDesc} (hU : Try.prog.underlying T = some d) (hd : d.isRow = true) (hI : (Try.prog.info? T).map (·.size) = some vs.length) : (results fn tmps).run Try.prog W = .ok (.agg vs.toArray) W := by
  have hp' : tmps[p]?.getD undef = .pointer (some ⟨q, 0, none⟩) := by simpa using hp
  simp [results, h, hp', asAddr, lb_load hG T hU hd hI]
end Go.Proofs.Ytfpahdbkcdpchaa
