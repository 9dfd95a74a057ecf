/- A list of rows as a value. -/
import Derived.Test.YtilghmfffdmnjaaDoorGrid
namespace Go.Proofs.YtilghmfffdmnjaaDoor
open Go.RowKit Go.Joins
set_option linter.unusedVariables false

/-- Room for a list of rows. -/
structure RRoom (W : World) (q : Nat) : Prop where
  there : W.there q 0 11
  lt : q < W.heap.size
theorem RRoom.drewN {W : World} {q : Nat} (h : RRoom W q) (k : Nat) : RRoom (W.drewN k) q := ⟨h.there, h.lt⟩
theorem RRoom.below {W W' : World} {q : Nat} (h : RRoom W q) (hb : Below W.heap.size W W') : RRoom W' q :=
  ⟨fun j hj => ⟨by rw [hb.cell (p := ⟨q, 0 + j, none⟩) h.lt]; exact (h.there j hj).1, by rw [hb.frozen (p := ⟨q, 0 + j, none⟩) h.lt]; exact (h.there j hj).2⟩, Nat.lt_of_lt_of_le h.lt hb.size⟩
theorem RRoom.only {W W' : World} {q b : Nat} (h : RRoom W q) (hb : Only b W W') (hq : q ≠ b) : RRoom W' q := by
  have hg : W'.heap[q]? = W.heap[q]? := hb.block q hq
  exact ⟨fun j hj => ⟨by rw [World.cell?_of_block (w := W) (a := ⟨q, 0 + j, none⟩) hg]; exact (h.there j hj).1, by rw [World.frozen?_of_block (w := W) (a := ⟨q, 0 + j, none⟩) hg]; exact (h.there j hj).2⟩, by rw [hb.size]; exact h.lt⟩
/-- A list of rows as a value: its cells. -/
def rowsC (L : List Nat) : Array Value := #[.int .i64 (L.length : Nat), .int .u32 (nth L 0 : Nat), .int .u32 (nth L 1 : Nat), .int .u32 (nth L 2 : Nat), .int .u32 (nth L 3 : Nat), .int .u32 (nth L 4 : Nat), .int .u32 (nth L 5 : Nat), .int .u32 (nth L 6 : Nat), .int .u32 (nth L 7 : Nat), .int .u32 (nth L 8 : Nat), .int .u32 (nth L 9 : Nat)]
theorem rowsC_row (L : List Nat) (j : Nat) (h : j < 10) : (rowsC L)[1 + j]? = some (.int .u32 (nth L j : Nat)) := by
  match j, h with
  | 0, _ => rfl
  | 1, _ => rfl
  | 2, _ => rfl
  | 3, _ => rfl
  | 4, _ => rfl
  | 5, _ => rfl
  | 6, _ => rfl
  | 7, _ => rfl
  | 8, _ => rfl
  | 9, _ => rfl
theorem Tryd.infoRL : (Tryd.prog.info? 103).map (·.size) = some 11 := by kernel_rfl
theorem RAt.room {W : World} {q : Nat} {L : List Nat} (h : RAt W q L) : RRoom W q :=
  ⟨fun j hj => ⟨by
    rw [Nat.zero_add]
    by_cases h0 : j = 0
    · subst h0; rw [h.c0]; rfl
    · have := h.row (j - 1) (by omega)
      rw [show 1 + (j - 1) = j by omega] at this
      rw [this]; rfl, by rw [Nat.zero_add]; exact h.free j hj⟩, h.lt⟩
theorem RAt.store {W : World} {q : Nat} (h : RRoom W q) (L : List Nat) (hl : L.length ≤ 10) (hr : ∀ j, nth L j < 4294967296) : RAt (W.setCells q 0 (rowsC L).toList) q L := by
  have hR := World.rangeAt_setCells_same W q 0 (rowsC L).toList h.there
  have hget : ∀ j v, (rowsC L)[j]? = some v → (W.setCells q 0 (rowsC L).toList).cell? ⟨q, j, none⟩ = some v := fun j v hv => by
    have := hR j v (by simpa using hv)
    rwa [Nat.zero_add] at this
  refine ⟨hget 0 _ rfl, fun j hj => hget _ _ (rowsC_row L j hj), fun j hj => ?_, ?_, hl, hr⟩
  · rw [World.frozen?_setCells]
    have := (h.there j hj).2
    rwa [Nat.zero_add] at this
  · have := (Only.setCells (b := q) (rowsC L).toList 0 W (Only.refl q W)).size
    rw [this]; exact h.lt
theorem RAt.range {W : World} {q : Nat} {L : List Nat} (h : RAt W q L) : W.rangeAt q 0 (rowsC L).toList := by
  intro j v hv
  rw [Nat.zero_add]
  have hv' : (rowsC L)[j]? = some v := by simpa using hv
  have hj : j < 11 := by
    have := (Array.getElem?_eq_some_iff.1 hv').1
    simpa [rowsC] using this
  by_cases h0 : j = 0
  · subst h0; rw [h.c0]; exact hv'
  · have h1 := h.row (j - 1) (by omega)
    have h2 := rowsC_row L (j - 1) (by omega)
    rw [show 1 + (j - 1) = j by omega] at h1 h2
    rw [h1, ← h2]; exact hv'
theorem RAt.load {W : World} {q : Nat} {L : List Nat} (h : RAt W q L) : (loadVar 103 ⟨q, 0, none⟩).run Tryd.prog W = .ok (.agg (rowsC L)) W := by
  have := run_loadVar_mid (P := Tryd.prog) W q 0 103 (rowsC L).toList _ h.range Tryd.underlying103 rfl Tryd.infoRL
  simpa using this
theorem rows_result {fn : Func} {p : Tmp} (h : fn.results = #[.cell p 103]) (tmps : Array Value) {W : World} {q : Nat} {L : List Nat}
    (hp : tmps.getD p undef = .pointer (some ⟨q, 0, none⟩)) (hG : RAt W q L) : (results fn tmps).run Tryd.prog W = .ok (.agg (rowsC L)) W := by
  have hp' : tmps[p]?.getD undef = .pointer (some ⟨q, 0, none⟩) := by simpa using hp
  simp [results, h, hp', asAddr, hG.load]
/-- The eleven cells, one by one. -/
theorem RRoom.facts {W : World} {q : Nat} (h : RRoom W q) : (∃ u0 u1 u2 u3 u4 u5 u6 u7 u8 u9 u10, W.cell? ⟨q, 0, none⟩ = some u0 ∧ W.cell? ⟨q, 1, none⟩ = some u1 ∧ W.cell? ⟨q, 2, none⟩ = some u2 ∧ W.cell? ⟨q, 3, none⟩ = some u3 ∧ W.cell? ⟨q, 4, none⟩ = some u4 ∧ W.cell? ⟨q, 5, none⟩ = some u5 ∧ W.cell? ⟨q, 6, none⟩ = some u6 ∧ W.cell? ⟨q, 7, none⟩ = some u7 ∧ W.cell? ⟨q, 8, none⟩ = some u8 ∧ W.cell? ⟨q, 9, none⟩ = some u9 ∧ W.cell? ⟨q, 10, none⟩ = some u10) ∧ (W.frozen? ⟨q, 0, none⟩ = false ∧ W.frozen? ⟨q, 1, none⟩ = false ∧ W.frozen? ⟨q, 2, none⟩ = false ∧ W.frozen? ⟨q, 3, none⟩ = false ∧ W.frozen? ⟨q, 4, none⟩ = false ∧ W.frozen? ⟨q, 5, none⟩ = false ∧ W.frozen? ⟨q, 6, none⟩ = false ∧ W.frozen? ⟨q, 7, none⟩ = false ∧ W.frozen? ⟨q, 8, none⟩ = false ∧ W.frozen? ⟨q, 9, none⟩ = false ∧ W.frozen? ⟨q, 10, none⟩ = false) := by
  have hc : ∀ j, j < 11 → ∃ u, W.cell? ⟨q, j, none⟩ = some u := fun j hj => by
    have := (h.there j hj).1
    rw [Nat.zero_add] at this
    exact Option.isSome_iff_exists.1 this
  have hf : ∀ j, j < 11 → W.frozen? ⟨q, j, none⟩ = false := fun j hj => by
    have := (h.there j hj).2
    rwa [Nat.zero_add] at this
  obtain ⟨u0, h0⟩ := hc 0 (by omega)
  obtain ⟨u1, h1⟩ := hc 1 (by omega)
  obtain ⟨u2, h2⟩ := hc 2 (by omega)
  obtain ⟨u3, h3⟩ := hc 3 (by omega)
  obtain ⟨u4, h4⟩ := hc 4 (by omega)
  obtain ⟨u5, h5⟩ := hc 5 (by omega)
  obtain ⟨u6, h6⟩ := hc 6 (by omega)
  obtain ⟨u7, h7⟩ := hc 7 (by omega)
  obtain ⟨u8, h8⟩ := hc 8 (by omega)
  obtain ⟨u9, h9⟩ := hc 9 (by omega)
  obtain ⟨u10, h10⟩ := hc 10 (by omega)
  exact ⟨⟨u0, u1, u2, u3, u4, u5, u6, u7, u8, u9, u10, h0, h1, h2, h3, h4, h5, h6, h7, h8, h9, h10⟩, hf 0 (by omega), hf 1 (by omega), hf 2 (by omega), hf 3 (by omega), hf 4 (by omega), hf 5 (by omega), hf 6 (by omega), hf 7 (by omega), hf 8 (by omega), hf 9 (by omega), hf 10 (by omega)⟩
theorem RAt.facts {W : World} {q : Nat} {L : List Nat} (h : RAt W q L) : W.cell? ⟨q, 0, none⟩ = some (.int .i64 (L.length : Nat)) ∧ W.cell? ⟨q, 1, none⟩ = some (.int .u32 (nth L 0 : Nat)) ∧ W.cell? ⟨q, 2, none⟩ = some (.int .u32 (nth L 1 : Nat)) ∧ W.cell? ⟨q, 3, none⟩ = some (.int .u32 (nth L 2 : Nat)) ∧ W.cell? ⟨q, 4, none⟩ = some (.int .u32 (nth L 3 : Nat)) ∧ W.cell? ⟨q, 5, none⟩ = some (.int .u32 (nth L 4 : Nat)) ∧ W.cell? ⟨q, 6, none⟩ = some (.int .u32 (nth L 5 : Nat)) ∧ W.cell? ⟨q, 7, none⟩ = some (.int .u32 (nth L 6 : Nat)) ∧ W.cell? ⟨q, 8, none⟩ = some (.int .u32 (nth L 7 : Nat)) ∧ W.cell? ⟨q, 9, none⟩ = some (.int .u32 (nth L 8 : Nat)) ∧ W.cell? ⟨q, 10, none⟩ = some (.int .u32 (nth L 9 : Nat)) :=
  ⟨h.c0, h.row 0 (by omega), h.row 1 (by omega), h.row 2 (by omega), h.row 3 (by omega), h.row 4 (by omega), h.row 5 (by omega), h.row 6 (by omega), h.row 7 (by omega), h.row 8 (by omega), h.row 9 (by omega)⟩
theorem RAt.store11 {W : World} {q : Nat} (h : RRoom W q) (L : List Nat) (hl : L.length ≤ 10) (hr : ∀ j, nth L j < 4294967296) : RAt (((((((((((W.setCell ⟨q, 0, none⟩ (.int .i64 (L.length : Nat))).setCell ⟨q, 1, none⟩ (.int .u32 (nth L 0 : Nat))).setCell ⟨q, 2, none⟩ (.int .u32 (nth L 1 : Nat))).setCell ⟨q, 3, none⟩ (.int .u32 (nth L 2 : Nat))).setCell ⟨q, 4, none⟩ (.int .u32 (nth L 3 : Nat))).setCell ⟨q, 5, none⟩ (.int .u32 (nth L 4 : Nat))).setCell ⟨q, 6, none⟩ (.int .u32 (nth L 5 : Nat))).setCell ⟨q, 7, none⟩ (.int .u32 (nth L 6 : Nat))).setCell ⟨q, 8, none⟩ (.int .u32 (nth L 7 : Nat))).setCell ⟨q, 9, none⟩ (.int .u32 (nth L 8 : Nat))).setCell ⟨q, 10, none⟩ (.int .u32 (nth L 9 : Nat))) q L := RAt.store h L hl hr
theorem only11 (W : World) (q : Nat) (u0 u1 u2 u3 u4 u5 u6 u7 u8 u9 u10 : Value) : Only q W (((((((((((W.setCell ⟨q, 0, none⟩ u0).setCell ⟨q, 1, none⟩ u1).setCell ⟨q, 2, none⟩ u2).setCell ⟨q, 3, none⟩ u3).setCell ⟨q, 4, none⟩ u4).setCell ⟨q, 5, none⟩ u5).setCell ⟨q, 6, none⟩ u6).setCell ⟨q, 7, none⟩ u7).setCell ⟨q, 8, none⟩ u8).setCell ⟨q, 9, none⟩ u9).setCell ⟨q, 10, none⟩ u10) := Only.setCells [u0, u1, u2, u3, u4, u5, u6, u7, u8, u9, u10] 0 W (Only.refl q W)

end Go.Proofs.YtilghmfffdmnjaaDoor
