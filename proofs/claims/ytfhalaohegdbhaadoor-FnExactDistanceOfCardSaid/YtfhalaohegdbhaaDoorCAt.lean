/- A grid whose rows a function tells: single rows written, rows moved. -/
import Derived.Test.YtfhalaohegdbhaaDoorGrid
import Derived.Laws.IdiomCopy
namespace Go.Proofs.YtfhalaohegdbhaaDoor
open Go.RowKit Go.Joins
set_option linter.unusedVariables false

/-- At the block q of the world W lies a grid of n rows and c columns; its cells hold the numbers that f tells. -/
structure CAt (W : World) (q n : Nat) (f : Nat → Nat) (c : Int) : Prop where
  c0 : W.cell? ⟨q, 0, none⟩ = some (.int .i64 n)
  row : ∀ j, j < 10 → W.cell? ⟨q, 1 + j, none⟩ = some (.int .u32 (f j : Nat))
  c11 : W.cell? ⟨q, 11, none⟩ = some (.int .i64 c)
  free : ∀ j, j < 12 → W.frozen? ⟨q, j, none⟩ = false
  lt : q < W.heap.size
  len : n ≤ 10
  r32 : ∀ j, f j < 4294967296
theorem GAt.toC {W : World} {q : Nat} {L : List Nat} {c : Int} (h : GAt W q L c) : CAt W q L.length (nth L) c := ⟨h.c0, h.row, h.c11, h.free, h.lt, h.len, h.r32⟩
theorem CAt.toG {W : World} {q n : Nat} {f : Nat → Nat} {c : Int} (h : CAt W q n f c) (L : List Nat) (hn : L.length = n) (hf : ∀ j, nth L j = f j) : GAt W q L c :=
  ⟨by rw [hn]; exact h.c0, fun j hj => by rw [hf]; exact h.row j hj, h.c11, h.free, h.lt, by rw [hn]; exact h.len, fun j => by rw [hf]; exact h.r32 j⟩
theorem CAt.congr {W : World} {q n : Nat} {f g : Nat → Nat} {c : Int} (h : CAt W q n f c) (hf : ∀ j, g j = f j) : CAt W q n g c :=
  ⟨h.c0, fun j hj => by rw [hf]; exact h.row j hj, h.c11, h.free, h.lt, h.len, fun j => by rw [hf]; exact h.r32 j⟩
theorem CAt.drewN {W : World} {q n : Nat} {f : Nat → Nat} {c : Int} (h : CAt W q n f c) (k : Nat) : CAt (W.drewN k) q n f c := ⟨h.c0, h.row, h.c11, h.free, h.lt, h.len, h.r32⟩
theorem cat_other (W : World) (q i j : Nat) (v : Value) (hne : j ≠ i) : (W.setCell ⟨q, i, none⟩ v).cell? ⟨q, j, none⟩ = W.cell? ⟨q, j, none⟩ :=
  World.cell?_setCell_other W ⟨q, i, none⟩ ⟨q, j, none⟩ _ (fun e => hne (by injection e with _ e _; exact e.symm))
theorem CAt.setRow {W : World} {q n : Nat} {f : Nat → Nat} {c : Int} (h : CAt W q n f c) (i : Nat) (hi : i < 10) (x : Nat) (hx : x < 4294967296) :
    CAt (W.setCell ⟨q, 1 + i, none⟩ (.int .u32 x)) q n (fun j => if j = i then x else f j) c := by
  refine ⟨?_, fun j hj => ?_, ?_, fun j hj => ?_, ?_, h.len, fun j => ?_⟩
  · rw [cat_other _ _ _ _ _ (by omega)]; exact h.c0
  · by_cases e : j = i
    · subst e
      rw [World.cell?_setCell_same' _ _ _ (by rw [h.row j hj]; rfl)]
      simp
    · rw [cat_other _ _ _ _ _ (by omega), h.row j hj]
      simp [e]
  · rw [cat_other _ _ _ _ _ (by omega)]; exact h.c11
  · rw [World.frozen?_setCell]; exact h.free j hj
  · show q < (Array.modify _ _ _).size
    rw [Array.size_modify]; exact h.lt
  · show (if j = i then x else f j) < _
    split
    · exact hx
    · exact h.r32 j
theorem CAt.setLen {W : World} {q n : Nat} {f : Nat → Nat} {c : Int} (h : CAt W q n f c) (m : Nat) (hm : m ≤ 10) :
    CAt (W.setCell ⟨q, 0, none⟩ (.int .i64 m)) q m f c := by
  refine ⟨World.cell?_setCell_same' _ _ _ (by rw [h.c0]; rfl), fun j hj => ?_, ?_, fun j hj => ?_, ?_, hm, h.r32⟩
  · rw [cat_other _ _ _ _ _ (by omega)]; exact h.row j hj
  · rw [cat_other _ _ _ _ _ (by omega)]; exact h.c11
  · rw [World.frozen?_setCell]; exact h.free j hj
  · show q < (Array.modify _ _ _).size
    rw [Array.size_modify]; exact h.lt
/-- The rows from p to below n, as they are moved. -/
def movedC (f : Nat → Nat) (p n : Nat) : List Value := (List.range (n - p)).map fun j => .int .u32 (f (p + j) : Nat)
theorem movedC_len (f : Nat → Nat) (p n : Nat) : (movedC f p n).length = n - p := by simp [movedC]
theorem movedC_get {f : Nat → Nat} {p n j : Nat} {v : Value} (h : (movedC f p n)[j]? = some v) : j < n - p ∧ v = .int .u32 (f (p + j) : Nat) := by
  have hj : j < n - p := by
    have := (List.getElem?_eq_some_iff.1 h).1
    rwa [movedC_len] at this
  refine ⟨hj, ?_⟩
  simp [movedC, hj] at h
  exact h.symm
theorem CAt.move {W : World} {q n : Nat} {f : Nat → Nat} {c : Int} (h : CAt W q n f c) (p o : Nat) (hp : p ≤ n) (hn : n < 10) (ho : o = p + 2) :
    CAt (W.setCells q o (movedC f p n)) q n (fun j => if p < j ∧ j ≤ n then f (j - 1) else f j) c := by
  subst ho
  have hl := movedC_len f p n
  have hout : ∀ i, (i < p + 2 ∨ p + 2 + (n - p) ≤ i) → (W.setCells q (p + 2) (movedC f p n)).cell? ⟨q, i, none⟩ = W.cell? ⟨q, i, none⟩ := fun i hi =>
    World.cell?_setCells_out q _ _ _ ⟨q, i, none⟩ (fun _ _ => by rw [hl]; exact hi)
  refine ⟨?_, fun j hj => ?_, ?_, fun j hj => ?_, ?_, h.len, fun j => ?_⟩
  · rw [hout _ (by omega)]; exact h.c0
  · by_cases e : p < j ∧ j ≤ n
    · simp only [e, and_self, if_true]
      have hlt : j - 1 - p < (movedC f p n).length := by rw [hl]; omega
      have hi := World.cell?_setCells_in q (movedC f p n) (p + 2) W (fun j hj => by
        rw [hl] at hj
        have := h.row (p + 1 + j) (by omega)
        rw [show p + 2 + j = 1 + (p + 1 + j) by omega, this]; rfl) (j - 1 - p) hlt
      rw [show p + 2 + (j - 1 - p) = 1 + j by omega] at hi
      rw [hi]
      have hg := movedC_get (List.getElem?_eq_getElem hlt)
      first | rw [hg.2, show p + (j - 1 - p) = j - 1 by omega] | rw [List.getElem?_eq_getElem hlt, hg.2, show p + (j - 1 - p) = j - 1 by omega]
    · rw [if_neg e, hout _ (by omega)]; exact h.row j hj
  · rw [hout _ (by omega)]; exact h.c11
  · rw [World.frozen?_setCells]; exact h.free j hj
  · have := (Only.setCells (b := q) (movedC f p n) (p + 2) W (Only.refl q W)).size
    rw [this]; exact h.lt
  · show (if p < j ∧ j ≤ n then f (j - 1) else f j) < _
    split
    · exact h.r32 _
    · exact h.r32 j
theorem CAt.only {W W' : World} {q b n : Nat} {f : Nat → Nat} {c : Int} (h : CAt W q n f c) (hb : Only b W W') (hq : q ≠ b) : CAt W' q n f c := by
  have hg : W'.heap[q]? = W.heap[q]? := hb.block q hq
  exact ⟨(World.cell?_of_block (w := W) (a := ⟨q, 0, none⟩) hg).trans h.c0, fun j hj => (World.cell?_of_block (w := W) (a := ⟨q, 1 + j, none⟩) hg).trans (h.row j hj), (World.cell?_of_block (w := W) (a := ⟨q, 11, none⟩) hg).trans h.c11, fun j hj => (World.frozen?_of_block (w := W) (a := ⟨q, j, none⟩) hg).trans (h.free j hj), by rw [hb.size]; exact h.lt, h.len, h.r32⟩
end Go.Proofs.YtfhalaohegdbhaaDoor
