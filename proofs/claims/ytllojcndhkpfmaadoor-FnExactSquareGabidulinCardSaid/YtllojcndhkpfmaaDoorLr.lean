/- Rows of numbers that a call owns: one element written. · Rows of numbers of the call's own, maybe empty. -/
import Derived.Test.YtllojcndhkpfmaaDoorRow
import Derived.Test.YtllojcndhkpfmaaDoorMt
import Derived.Deep.MidRow
import Derived.Laws.Rows
import Derived.Laws.OwnMore
import Derived.Test.YtllojcndhkpfmaaDoorColPure
namespace Go.Proofs.YtllojcndhkpfmaaDoor
open Go.RowKit
set_option linter.unusedVariables false

theorem ownsRow_set {w : World} {B : Nat} {e : TypeId} {g n cap : Nat} {xs : List Value} (h : w.ownsRow B e 1 (.slice (some ⟨g, 0, none⟩) n cap) n xs) (j : Nat) (hj : j < n) (v : Value) :
    (w.setCell ⟨g, j, none⟩ v).ownsRow B e 1 (.slice (some ⟨g, 0, none⟩) n cap) n (xs.set j v) := by
  obtain ⟨hl, h⟩ := h
  rcases h with ⟨h, _⟩ | ⟨g', cap', cur, hv, hb, hg, h1, h2, h3, h4⟩
  · injection h with h; cases h
  · injection hv with e1 _ e2
    injection e1 with e1
    injection e1 with e1
    subst e1 e2
    refine ⟨by simpa using hl, .inr ⟨g, cap, cur.setIfInBounds j v, rfl, hb, heap_setCell_same w g j cur e v hg, h1, h2, by simpa using h3, ?_⟩⟩
    rw [Array.toList_setIfInBounds, ← h4, List.take_set]
/-- A row of numbers of the call's own, in a block from B on, with its place. -/
structure OR (W : World) (B : Nat) (T : TypeId) (g cap : Nat) (A : List Nat) : Prop where
  own : W.ownsRow B T 1 (.slice (some ⟨g, 0, none⟩) A.length cap) A.length ((ints A).map (Value.int .i64))
theorem OR.lt {W : World} {B g cap : Nat} {T : TypeId} {A : List Nat} (h : OR W B T g cap A) : B ≤ g ∧ g < W.heap.size := h.own.lt g rfl
theorem OR.at {W W' : World} {B g cap : Nat} {T : TypeId} {A : List Nat} (h : OR W B T g cap A) (hg : W'.heap[g]? = W.heap[g]?) : OR W' B T g cap A := by
  refine ⟨h.own.1, ?_⟩
  rcases h.own.2 with ⟨hn, _⟩ | ⟨g', cap', cur, hv, hb, hgg, rest⟩
  · injection hn with hn; cases hn
  · injection hv with e1 _ e2
    injection e1 with e1
    injection e1 with e1
    subst e1 e2
    exact .inr ⟨g, cap, cur, rfl, hb, hg.trans hgg, rest⟩
theorem OR.below {W W' : World} {B D g cap : Nat} {T : TypeId} {A : List Nat} (h : OR W B T g cap A) (hb : Below D W W') (hD : g < D) : OR W' B T g cap A := h.at (hb.block g hD)
theorem OR.drewN {W : World} {B g cap : Nat} {T : TypeId} {A : List Nat} (h : OR W B T g cap A) (k : Nat) : OR (W.drewN k) B T g cap A := ⟨h.own⟩
theorem OR.only {W W' : World} {B b g cap : Nat} {T : TypeId} {A : List Nat} (h : OR W B T g cap A) (hb : Only b W W') (hD : g ≠ b) : OR W' B T g cap A := h.at (hb.block g hD)
theorem OR.set {W : World} {B g cap : Nat} {T : TypeId} {A : List Nat} (h : OR W B T g cap A) (j : Nat) (hj : j < A.length) (x : Nat) : OR (W.setCell ⟨g, j, none⟩ (.int .i64 x)) B T g cap (A.set j x) := by
  refine ⟨?_⟩
  have := ownsRow_set h.own j hj (.int .i64 x)
  rw [ints_set, List.map_set, List.length_set]
  exact this
theorem OR.cell {W : World} {B g cap : Nat} {T : TypeId} {A : List Nat} (h : OR W B T g cap A) (j : Nat) (hj : j < A.length) : W.cell? ⟨g, j, none⟩ = some (.int .i64 (nth A j : Nat)) := by
  rw [h.own.cellAt j (by omega)]
  simp only [ints, List.getElem?_map, List.getElem?_eq_getElem hj, Option.map_some]
  simp [nth, hj]
theorem OR.free {W : World} {B g cap : Nat} {T : TypeId} {A : List Nat} (h : OR W B T g cap A) (j : Nat) : W.frozen? ⟨g, j, none⟩ = false := by
  rcases h.own.2 with ⟨hn, _⟩ | ⟨g', cap', cur, hv, hb, hgg, rest⟩
  · injection hn with hn; cases hn
  · injection hv with e1 _ e2
    injection e1 with e1
    injection e1 with e1
    subst e1 e2
    exact frozen_of_row W g j cur T hgg
theorem OR.mk' {W : World} {B : Nat} {T : TypeId} {v : Value} {n : Nat} {A : List Nat} (h : W.ownsRow B T 1 v n ((ints A).map (Value.int .i64))) (hn : 0 < n) : ∃ g cap, v = .slice (some ⟨g, 0, none⟩) A.length cap ∧ OR W B T g cap A := by
  have hl : A.length = n := by have := h.1; simpa [ints] using this
  rcases h.2 with ⟨_, h0⟩ | ⟨g, cap, cur, rfl, rest⟩
  · omega
  · subst hl
    exact ⟨g, cap, rfl, ⟨h.1, .inr ⟨g, cap, cur, rfl, rest⟩⟩⟩
theorem OR.snoc {W : World} {B : Nat} {T : TypeId} {v : Value} {A : List Nat} {x : Nat} (h : W.ownsRow B T 1 v (A.length + 1) ((ints A).map (Value.int .i64) ++ [.int .i64 x])) : ∃ g cap, v = .slice (some ⟨g, 0, none⟩) (A.length + 1) cap ∧ OR W B T g cap (A ++ [x]) := by
  have e : (ints A).map (Value.int .i64) ++ [.int .i64 x] = (ints (A ++ [x])).map (Value.int .i64) := by rw [ints_append, List.map_append]; rfl
  rw [e] at h
  obtain ⟨g, cap, rfl, h1⟩ := OR.mk' h (by omega)
  exact ⟨g, cap, by simp, h1⟩
end Go.Proofs.YtllojcndhkpfmaaDoor
namespace Go.Proofs.YtllojcndhkpfmaaDoor
open Go.RowKit Go.Joins
set_option linter.unusedVariables false

/-- A row of numbers of the call's own: where it has any, in a block from B to below T. -/
structure LR (W : World) (B T : Nat) (ao : Option Addr) (cap : Nat) (A : List Nat) : Prop where
  row : 0 < A.length → ∃ g, ao = some ⟨g, 0, none⟩ ∧ g < T ∧ OR W B 2 g cap A
theorem LR.below {W W' : World} {B T cap : Nat} {ao : Option Addr} {A : List Nat} (h : LR W B T ao cap A) (hb : Below T W W') : LR W' B T ao cap A :=
  ⟨fun h0 => by obtain ⟨g, e, h1, h2⟩ := h.row h0; exact ⟨g, e, h1, h2.below hb h1⟩⟩
theorem LR.drewN {W : World} {B T cap : Nat} {ao : Option Addr} {A : List Nat} (h : LR W B T ao cap A) (k : Nat) : LR (W.drewN k) B T ao cap A :=
  ⟨fun h0 => by obtain ⟨g, e, h1, h2⟩ := h.row h0; exact ⟨g, e, h1, h2.drewN k⟩⟩
theorem ints_news (W : World) (b n : Nat) (L : List Nat) (hM : Mt W b n (ints L)) : ∀ (j : Nat) (u : Value), ((ints L).map (Value.int .i64))[j]? = some u → W.cell? ((⟨b, 0, none⟩ : Addr).add j) = some u := by
  intro j u hu
  have hj : j < L.length := by
    have := (List.getElem?_eq_some_iff.1 hu).1
    simpa [ints] using this
  have hl := hM.len
  rw [ints_length] at hl
  have hc := hM.cell j (by omega)
  rw [ints_get] at hc
  have hu' : u = .int .i64 (nth L j : Nat) := by
    simp only [ints, List.getElem?_map, List.getElem?_eq_getElem hj, Option.map_some, Option.some.injEq] at hu
    rw [← hu]; simp [nth, hj]
  rw [hu', ← hc]
  simp only [Addr.add]
  first | rfl | (split <;> first | rfl | (congr 2; omega)) | simp
theorem ints_one (L : List Nat) : ∀ u ∈ (ints L).map (Value.int .i64), u.oneCell' = true := by
  intro u hu
  obtain ⟨x, _, rfl⟩ := List.mem_map.1 hu
  rfl

theorem LR.of_own {W : World} {B : Nat} {v : Value} {L : List Nat} (h : W.ownsRow B 2 1 v L.length ((ints L).map (Value.int .i64))) : ∃ ao cp, v = .slice ao L.length cp ∧ LR W B W.heap.size ao cp L := by
  by_cases h0 : L.length = 0
  · rcases ownsRow_forms h with ⟨rfl, _⟩ | ⟨g, cp, rfl⟩
    · exact ⟨none, 0, by rw [h0], ⟨fun h => by omega⟩⟩
    · exact ⟨_, _, rfl, ⟨fun h => by omega⟩⟩
  · obtain ⟨g, cp, rfl, ho⟩ := OR.mk' h (by omega)
    exact ⟨_, _, rfl, ⟨fun _ => ⟨g, rfl, ho.lt.2, ho⟩⟩⟩

end Go.Proofs.YtllojcndhkpfmaaDoor
