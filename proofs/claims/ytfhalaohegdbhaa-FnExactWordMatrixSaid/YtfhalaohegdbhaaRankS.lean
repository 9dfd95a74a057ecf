/- A list copied: the model's own. · The model's echelon form: column after column. · The rank of a matrix: the model's. -/
import Derived.Test.YtfhalaohegdbhaaWr
import Derived.Test.YtfhalaohegdbhaaSp1
namespace Go.Proofs.Ytfhalaohegdbhaa
open Go.RowKit Go.Joins
set_option linter.unusedVariables false

set_option maxHeartbeats 1600000 in
theorem l00Own_any (b n cap : Nat) (L : List Nat) (w : World) (hM : Mt w b n (ints L)) :
    Calls Try.prog 29 #[.slice (some ⟨b, 0, none⟩) n cap] w fun e w' => ∃ ao cap', e = .returned (.slice ao n cap') ∧ LR w' w.heap.size w'.heap.size ao cap' L ∧ Below w.heap.size w w' := by
  obtain ⟨i0, hi, hz0, hz1, hz2⟩ := info_parts Try.infoI
  have hll := hM.len
  rw [ints_length] at hll
  subst hll
  have hs := hM.small
  have hown : (w.alloc (.cells #[] 2)).ownsRow w.heap.size 2 1 (.slice (some ⟨w.heap.size, 0, none⟩) 0 0) 0 [] := World.ownsRow_made w #[] 0 (Nat.le_refl _) (by unfold maxLen; omega) (by simp)
  have hM2 := hM.below (below_alloc1 w (.cells #[] 2))
  go_enter Try.func29, Try.ntmps29
  go_wp2_with (at_builtin; refine wpList_append_own _ rfl _ _ 22 rfl w.heap.size 2 i0 (.int .i64 0) 1 8 Try.underlying22 hi hz0 hz1 hz2 rfl (by decide) _ _ _ rfl hown ⟨b, 0, none⟩ L.length cap ((ints L).map (Value.int .i64)) rfl (by simp [ints]) (ints_news _ b _ L hM2) (ints_one L) (by unfold maxLen; omega) (by omega) (by simp) ?_; intro v' w3 hown' hgrow _; have hb3 : Below w.heap.size w w3 := ((below_alloc1 w _).grown hgrow (by simp) (fun g hg => (hown.lt g hg).1)); obtain ⟨ao, cp, hv, hlr⟩ := LR.of_own (by simpa using hown'))
  subst hv
  clear hown' hgrow hown hM2
  go_wp2_with fail
  go_ret
  exact ⟨_, _, rfl, hlr, hb3⟩
end Go.Proofs.Ytfhalaohegdbhaa
namespace Go.Proofs.Ytfhalaohegdbhaa
open Go.RowKit Go.Joins
set_option linter.unusedVariables false

/-- What lies in the memory while the model goes from column to column: its own copy of the rows, the rows so far. -/
structure EB (w wr : World) (T : Nat) (ao : Option Addr) (cap : Nat) (A : List Nat) (g cp : Nat) (O : List Nat) : Prop where
  left : LR wr w.heap.size T ao cap A
  out : OR wr T 2 g cp O
  b : Below w.heap.size w wr
  z : w.heap.size ≤ T ∧ T ≤ wr.heap.size
theorem EB.setLeft {w wr : World} {T : Nat} {gl cap : Nat} {A : List Nat} {g cp : Nat} {O : List Nat} (h : EB w wr T (some ⟨gl, 0, none⟩) cap A g cp O) (j : Nat) (hj : j < A.length) (x : Nat) :
    EB w (wr.setCell ⟨gl, j, none⟩ (.int .i64 x)) T (some ⟨gl, 0, none⟩) cap (A.set j x) g cp O := by
  obtain ⟨g', e, h1, h2⟩ := h.left.row (by omega)
  injection e with e
  injection e with e
  subst e
  have hT := h.out.lt
  have hB := h2.lt
  refine ⟨⟨fun _ => ⟨gl, rfl, h1, h2.set j hj x⟩⟩, h.out.at (Below.heap_setCell wr ⟨gl, j, none⟩ _ g (by show g ≠ gl; omega)), h.b.setCell (p := ⟨gl, j, none⟩) hB.1 _, h.z.1, ?_⟩
  show T ≤ (Array.modify _ _ _).size
  rw [Array.size_modify]; exact h.z.2
theorem EB.setOut {w wr : World} {T : Nat} {ao : Option Addr} {cap : Nat} {A : List Nat} {g cp : Nat} {O : List Nat} (h : EB w wr T ao cap A g cp O) (j : Nat) (hj : j < O.length) (x : Nat) :
    EB w (wr.setCell ⟨g, j, none⟩ (.int .i64 x)) T ao cap A g cp (O.set j x) := by
  have hT := h.out.lt
  refine ⟨⟨fun h0 => ?_⟩, h.out.set j hj x, h.b.setCell (p := ⟨g, j, none⟩) (by show w.heap.size ≤ g; have := h.z.1; omega) _, h.z.1, ?_⟩
  · obtain ⟨g', e, h1, h2⟩ := h.left.row h0
    exact ⟨g', e, h1, h2.at (Below.heap_setCell wr ⟨g, j, none⟩ _ g' (by show g' ≠ g; omega))⟩
  · show T ≤ (Array.modify _ _ _).size
    rw [Array.size_modify]; exact h.z.2
theorem EB.cellL {w wr : World} {T : Nat} {gl cap : Nat} {A : List Nat} {g cp : Nat} {O : List Nat} (h : EB w wr T (some ⟨gl, 0, none⟩) cap A g cp O) (j : Nat) (hj : j < A.length) :
    wr.cell? ⟨gl, j, none⟩ = some (.int .i64 (nth A j : Nat)) ∧ wr.frozen? ⟨gl, j, none⟩ = false := by
  obtain ⟨g', e, h1, h2⟩ := h.left.row (by omega)
  injection e with e
  injection e with e
  subst e
  exact ⟨h2.cell j hj, h2.free j⟩
theorem EB.cellO {w wr : World} {T : Nat} {ao : Option Addr} {cap : Nat} {A : List Nat} {g cp : Nat} {O : List Nat} (h : EB w wr T ao cap A g cp O) (j : Nat) (hj : j < O.length) :
    wr.cell? ⟨g, j, none⟩ = some (.int .i64 (nth O j : Nat)) ∧ wr.frozen? ⟨g, j, none⟩ = false := ⟨h.out.cell j hj, h.out.free j⟩
theorem EB.grow {w wr w2 : World} {T : Nat} {ao : Option Addr} {cap : Nat} {A : List Nat} {g cp : Nat} {O : List Nat} {v' : Value} {x : Nat} {Ob : Obj} (h : EB w wr T ao cap A g cp O)
    (hown : w2.ownsRow T 2 1 v' (O.length + 1) ((ints O).map (Value.int .i64) ++ [.int .i64 x])) (hg : (wr.alloc Ob).grownBy w2 (Value.slice (some ⟨g, 0, none⟩) O.length cp).ownBlock) :
    ∃ g' cp', v' = .slice (some ⟨g', 0, none⟩) (O.length + 1) cp' ∧ EB w w2 T ao cap A g' cp' (O ++ [x]) := by
  obtain ⟨g', cp', rfl, ho⟩ := OR.snoc hown
  have hb : Below T wr w2 := ((Below.refl _ wr).alloc h.z.2 _).grown hg (by have := h.z; simp; omega) (fun g hg => (h.out.own.lt g hg).1)
  exact ⟨g', cp', rfl, ⟨h.left.below hb, ho, h.b.trans (hb.mono h.z.1), h.z.1, Nat.le_trans h.z.2 hb.size⟩⟩
theorem OR.own' {W : World} {B g cap : Nat} {T : TypeId} {A : List Nat} (h : OR W B T g cap A) {n : Nat} (hn : A.length = n) : W.ownsRow B T 1 (.slice (some ⟨g, 0, none⟩) n cap) n ((ints A).map (Value.int .i64)) := hn ▸ h.own
theorem EB.grow' {w wr w2 : World} {T : Nat} {ao : Option Addr} {cap : Nat} {A : List Nat} {g cp : Nat} {O : List Nat} {v' : Value} {x n : Nat} {Ob : Obj} (h : EB w wr T ao cap A g cp O) (hn : O.length = n)
    (hown : w2.ownsRow T 2 1 v' (n + 1) ((ints O).map (Value.int .i64) ++ [.int .i64 x])) (hg : (wr.alloc Ob).grownBy w2 (Value.slice (some ⟨g, 0, none⟩) n cp).ownBlock) :
    ∃ g' cp', v' = .slice (some ⟨g', 0, none⟩) (n + 1) cp' ∧ EB w w2 T ao cap A g' cp' (O ++ [x]) := by
  subst hn; exact h.grow hown hg
theorem OR.wide {W : World} {B B' g cap : Nat} {T : TypeId} {A : List Nat} (h : OR W B T g cap A) (hB : B' ≤ B) : OR W B' T g cap A := by
  refine ⟨h.own.1, ?_⟩
  rcases h.own.2 with ⟨hn, _⟩ | ⟨g', cap', cur, hv, hb, rest⟩
  · injection hn with hn; cases hn
  · exact .inr ⟨g', cap', cur, hv, Nat.le_trans hB hb, rest⟩
theorem OR.start {W : World} : OR (W.alloc (.cells #[] 2)) W.heap.size 2 W.heap.size 0 [] :=
  ⟨World.ownsRow_made W #[] 0 (Nat.le_refl _) (by unfold maxLen; omega) (by simp)⟩
/-- Where the model finds a row for a column. -/
def Fnd (A : List Nat) (k j : Nat) (v : Value) : Prop := (v = .int .i64 (-1) ∧ noneTo A k j) ∨ ∃ a, a < A.length ∧ v = .int .i64 (a : Nat) ∧ noneTo A k a ∧ (nth A a).testBit k = true

end Go.Proofs.Ytfhalaohegdbhaa
namespace Go.Proofs.Ytfhalaohegdbhaa
open Go.RowKit Go.Joins
set_option linter.unusedVariables false

end Go.Proofs.Ytfhalaohegdbhaa
