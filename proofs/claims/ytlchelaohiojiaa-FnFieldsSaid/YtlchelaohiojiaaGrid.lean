/- The program's grids: rows as values, a list of at most ten of them, and what it does with them. -/
import Derived.Test.YtlchelaohiojiaaRes
import Derived.Test.YtlchelaohiojiaaValid
import Derived.RegionTactic
import Derived.Deep.MidRow
import Derived.Laws.ResultCell
import Derived.BigRegion
namespace Go.Proofs.Ytlchelaohiojiaa
open Go.RowKit Go.Joins
set_option linter.unusedVariables false

theorem IntKind.wrap_u32g (n : Int) : IntKind.u32.wrap n = n % 4294967296 := by simp [IntKind.wrap, IntKind.signed, IntKind.bits]
theorem u32_and1 (a : Nat) (ha : a < 4294967296) : bits .and .u32 (a : Int) 1 = ((a % 2 : Nat) : Int) := by
  have h1 : (BitVec.ofInt 32 (a : Int)).toNat = a := by
    rw [BitVec.ofInt_natCast, BitVec.toNat_ofNat]; exact Nat.mod_eq_of_lt (by omega)
  show IntKind.u32.wrap ((BitVec.ofInt 32 (a : Int) &&& BitVec.ofInt 32 (1 : Int)).toNat : Int) = _
  rw [BitVec.toNat_and, h1, show (BitVec.ofInt 32 (1 : Int)).toNat = 1 from rfl, Nat.and_one_is_mod, IntKind.wrap_u32g]
  omega
theorem u32_has (a k : Nat) (ha : a < 4294967296) : (bits .and .u32 ((a : Int) / 2 ^ min k 32) 1 == 1) = a.testBit k := by
  have e : ((a : Int) / 2 ^ min k 32) = ((a / 2 ^ min k 32 : Nat) : Int) := by simp
  rw [e, u32_and1 _ (Nat.lt_of_le_of_lt (Nat.div_le_self _ _) ha)]
  have h1 : a.testBit k = decide (a / 2 ^ min k 32 % 2 = 1) := by
    rw [Nat.testBit_eq_decide_div_mod_eq]
    by_cases hk : k ≤ 32
    · rw [Nat.min_eq_left hk]
    · have h2 : a < 2 ^ k := Nat.lt_of_lt_of_le (show a < 2 ^ 32 by omega) (Nat.pow_le_pow_right (by omega) (by omega))
      rw [Nat.min_eq_right (by omega), Nat.div_eq_of_lt h2, Nat.div_eq_of_lt (show a < 2 ^ 32 by omega)]
  rw [h1]
  by_cases h : a / 2 ^ min k 32 % 2 = 1
  · rw [h]; rfl
  · rw [show a / 2 ^ min k 32 % 2 = 0 by omega]; rfl
theorem u32_xor_nat (a b : Nat) (ha : a < 4294967296) (hb : b < 4294967296) : bits .xor .u32 (a : Int) (b : Int) = ((a ^^^ b : Nat) : Int) := by
  have hx : a ^^^ b < 2 ^ 32 := Nat.xor_lt_two_pow (by omega) (by omega)
  have h1 : (BitVec.ofInt 32 (a : Int)).toNat = a := by
    rw [BitVec.ofInt_natCast, BitVec.toNat_ofNat]; exact Nat.mod_eq_of_lt (by omega)
  have h2 : (BitVec.ofInt 32 (b : Int)).toNat = b := by
    rw [BitVec.ofInt_natCast, BitVec.toNat_ofNat]; exact Nat.mod_eq_of_lt (by omega)
  show IntKind.u32.wrap ((BitVec.ofInt 32 (a : Int) ^^^ BitVec.ofInt 32 (b : Int)).toNat : Int) = _
  rw [BitVec.toNat_xor, h1, h2]
  rw [IntKind.wrap_u32g]; omega



/-- In the world W a grid with the rows L and c columns lies at the block q. -/
structure GAt (W : World) (q : Nat) (L : List Nat) (c : Int) : Prop where
  c0 : W.cell? ⟨q, 0, none⟩ = some (.int .i64 (L.length : Nat))
  row : ∀ j, j < 10 → W.cell? ⟨q, 1 + j, none⟩ = some (.int .u32 (nth L j : Nat))
  c11 : W.cell? ⟨q, 11, none⟩ = some (.int .i64 c)
  free : ∀ j, j < 12 → W.frozen? ⟨q, j, none⟩ = false
  lt : q < W.heap.size
  len : L.length ≤ 10
  r32 : ∀ j, nth L j < 4294967296

theorem GAt.drewN {W : World} {q : Nat} {L : List Nat} {c : Int} (h : GAt W q L c) (k : Nat) : GAt (W.drewN k) q L c := ⟨h.c0, h.row, h.c11, h.free, h.lt, h.len, h.r32⟩
theorem GAt.below {W W' : World} {q : Nat} {L : List Nat} {c : Int} (h : GAt W q L c) (hb : Below W.heap.size W W') : GAt W' q L c :=
  ⟨(hb.cell (p := ⟨q, 0, none⟩) h.lt).trans h.c0, fun j hj => (hb.cell (p := ⟨q, 1 + j, none⟩) h.lt).trans (h.row j hj), (hb.cell (p := ⟨q, 11, none⟩) h.lt).trans h.c11, fun j hj => (hb.frozen (p := ⟨q, j, none⟩) h.lt).trans (h.free j hj), Nat.lt_of_lt_of_le h.lt hb.size, h.len, h.r32⟩
theorem GAt.only {W W' : World} {q b : Nat} {L : List Nat} {c : Int} (h : GAt W q L c) (hb : Only b W W') (hq : q ≠ b) : GAt W' q L c := by
  have hg : W'.heap[q]? = W.heap[q]? := hb.block q hq
  exact ⟨(World.cell?_of_block (w := W) (a := ⟨q, 0, none⟩) hg).trans h.c0, fun j hj => (World.cell?_of_block (w := W) (a := ⟨q, 1 + j, none⟩) hg).trans (h.row j hj), (World.cell?_of_block (w := W) (a := ⟨q, 11, none⟩) hg).trans h.c11, fun j hj => (World.frozen?_of_block (w := W) (a := ⟨q, j, none⟩) hg).trans (h.free j hj), by rw [hb.size]; exact h.lt, h.len, h.r32⟩
theorem Only.drew {b : Nat} {w w' : World} (h : Only b w w') : Only b w w'.drew := ⟨h.os, h.tape, h.output, h.size, h.block⟩
theorem Only.trans {b : Nat} {a w w' : World} (h : Only b a w) (k : Only b w w') : Only b a w' :=
  ⟨k.os.trans h.os, k.tape.trans h.tape, k.output.trans h.output, k.size.trans h.size, fun i hi => (k.block i hi).trans (h.block i hi)⟩
theorem getD_push (L : List Nat) (r j : Nat) : nth (L ++ [r]) j = if j = L.length then r else nth L j := by
  simp only [nth, List.getD_eq_getElem?_getD, List.getElem?_append]
  rcases Nat.lt_trichotomy j L.length with h | h | h
  · simp [h]; omega
  · subst h; simp
  · have h1 : ¬ j < L.length := by omega
    have h2 : ¬ j = L.length := by omega
    rw [if_neg h1, if_neg h2, List.getElem?_eq_none (by simp; omega), List.getElem?_eq_none (by omega)]
theorem GAt.push {w : World} {q : Nat} {L : List Nat} {c : Int} (h : GAt w q L c) (r : Nat) (hr : r < 4294967296) (hl : L.length < 10) :
    GAt ((w.setCell ⟨q, 1 + L.length, none⟩ (.int .u32 r)).setCell ⟨q, 0, none⟩ (.int .i64 ((L.length : Int) + 1))) q (L ++ [r]) c ∧ True := by
  have other : ∀ (W : World) (i j : Nat) (v : Value), j ≠ i → (W.setCell ⟨q, i, none⟩ v).cell? ⟨q, j, none⟩ = W.cell? ⟨q, j, none⟩ := fun W i j v hne =>
    World.cell?_setCell_other W ⟨q, i, none⟩ ⟨q, j, none⟩ _ (fun e => hne (by injection e with _ e _; exact e.symm))
  refine ⟨⟨?_, fun j hj => ?_, ?_, fun j hj => ?_, ?_, by simp; omega, fun j => ?_⟩, trivial⟩
  · rw [World.cell?_setCell_same' _ _ _ (by rw [other _ _ _ _ (by omega), h.c0]; rfl)]
    simp
  · rw [other _ _ _ _ (by omega), getD_push]
    by_cases e : j = L.length
    · subst e
      rw [if_pos rfl]
      exact World.cell?_setCell_same' _ _ _ (by rw [h.row _ hl]; rfl)
    · rw [if_neg e, other _ _ _ _ (by omega)]
      exact h.row j hj
  · rw [other _ _ _ _ (by omega), other _ _ _ _ (by omega)]; exact h.c11
  · rw [World.frozen?_setCell, World.frozen?_setCell]; exact h.free j hj
  · show q < (Array.modify _ _ _).size
    rw [Array.size_modify]
    show q < (Array.modify _ _ _).size
    rw [Array.size_modify]; exact h.lt
  · rw [getD_push]; split
    · exact hr
    · exact h.r32 j


/-- A grid as a value: its cells. -/
def gridC (L : List Nat) (c : Int) : Array Value := #[.int .i64 (L.length : Nat), .int .u32 (nth L 0 : Nat), .int .u32 (nth L 1 : Nat), .int .u32 (nth L 2 : Nat), .int .u32 (nth L 3 : Nat), .int .u32 (nth L 4 : Nat), .int .u32 (nth L 5 : Nat), .int .u32 (nth L 6 : Nat), .int .u32 (nth L 7 : Nat), .int .u32 (nth L 8 : Nat), .int .u32 (nth L 9 : Nat), .int .i64 c]
theorem gridC_row (L : List Nat) (c : Int) (j : Nat) (h : j < 10) : (gridC L c)[1 + j]? = some (.int .u32 (nth L j : Nat)) := by
  match j, h with
  | 0, _ => rfl
  | 1, _ => rfl
  | 2, _ => rfl
  | 3, _ => rfl
  | 4, _ => rfl
  | 5, _ => rfl
  | 6, _ => rfl
  | 7, _ => rfl
  | 8, _ => rfl
  | 9, _ => rfl
theorem GAt.start (W : World) (L : List Nat) (c : Int) (T : TypeId) (hl : L.length ≤ 10) (hr : ∀ j, nth L j < 4294967296) : GAt (W.alloc (.cells (gridC L c) T)) W.heap.size L c :=
  ⟨by rw [World.cell?_alloc_at _ _ _ _ rfl]; rfl, fun j hj => by rw [World.cell?_alloc_at _ _ _ _ rfl]; exact gridC_row L c j hj, by rw [World.cell?_alloc_at _ _ _ _ rfl]; rfl, fun j _ => World.frozen?_alloc_at _ _ _ _ rfl, by simp, hl, hr⟩

/-- In the world W a list with the rows L lies at the block q. -/
structure RAt (W : World) (q : Nat) (L : List Nat) : Prop where
  c0 : W.cell? ⟨q, 0, none⟩ = some (.int .i64 (L.length : Nat))
  row : ∀ j, j < 10 → W.cell? ⟨q, 1 + j, none⟩ = some (.int .u32 (nth L j : Nat))
  free : ∀ j, j < 11 → W.frozen? ⟨q, j, none⟩ = false
  lt : q < W.heap.size
  len : L.length ≤ 10
  r32 : ∀ j, nth L j < 4294967296
theorem RAt.drewN {W : World} {q : Nat} {L : List Nat} (h : RAt W q L) (k : Nat) : RAt (W.drewN k) q L := ⟨h.c0, h.row, h.free, h.lt, h.len, h.r32⟩
theorem RAt.at {W W' : World} {q : Nat} {L : List Nat} (h : RAt W q L) (hg : W'.heap[q]? = W.heap[q]?) (hs : W.heap.size ≤ W'.heap.size) : RAt W' q L :=
  ⟨(World.cell?_of_block (w := W) (a := ⟨q, 0, none⟩) hg).trans h.c0, fun j hj => (World.cell?_of_block (w := W) (a := ⟨q, 1 + j, none⟩) hg).trans (h.row j hj), fun j hj => (World.frozen?_of_block (w := W) (a := ⟨q, j, none⟩) hg).trans (h.free j hj), Nat.lt_of_lt_of_le h.lt hs, h.len, h.r32⟩
theorem RAt.below {W W' : World} {q : Nat} {L : List Nat} (h : RAt W q L) (hb : Below W.heap.size W W') : RAt W' q L := h.at (hb.block q h.lt) hb.size
theorem RAt.only {W W' : World} {q b : Nat} {L : List Nat} (h : RAt W q L) (hb : Only b W W') (hq : q ≠ b) : RAt W' q L := h.at (hb.block q hq) (Nat.le_of_eq hb.size.symm)
/-- A list of no rows, in a new block. -/
theorem RAt.start (W : World) (T : TypeId) : RAt (W.alloc (.cells #[.int .i64 0, .int .u32 0, .int .u32 0, .int .u32 0, .int .u32 0, .int .u32 0, .int .u32 0, .int .u32 0, .int .u32 0, .int .u32 0, .int .u32 0] T)) W.heap.size [] :=
  ⟨by rw [World.cell?_alloc_at _ _ _ _ rfl]; rfl, fun j hj => by
    rw [World.cell?_alloc_at _ _ _ _ rfl]
    match j, hj with
    | 0, _ => rfl
    | 1, _ => rfl
    | 2, _ => rfl
    | 3, _ => rfl
    | 4, _ => rfl
    | 5, _ => rfl
    | 6, _ => rfl
    | 7, _ => rfl
    | 8, _ => rfl
    | 9, _ => rfl, fun j _ => World.frozen?_alloc_at _ _ _ _ rfl, by simp, by simp, fun j => by simp [nth]⟩


theorem GAt.toR {W : World} {q : Nat} {L : List Nat} {c : Int} (h : GAt W q L c) : RAt W q L := ⟨h.c0, h.row, fun j hj => h.free j (by omega), h.lt, h.len, h.r32⟩

theorem RAt.push {w : World} {q : Nat} {L : List Nat} (h : RAt w q L) (r : Nat) (hr : r < 4294967296) (hl : L.length < 10) :
    RAt ((w.setCell ⟨q, 1 + L.length, none⟩ (.int .u32 r)).setCell ⟨q, 0, none⟩ (.int .i64 ((L.length : Int) + 1))) q (L ++ [r]) := by
  have other : ∀ (W : World) (i j : Nat) (v : Value), j ≠ i → (W.setCell ⟨q, i, none⟩ v).cell? ⟨q, j, none⟩ = W.cell? ⟨q, j, none⟩ := fun W i j v hne =>
    World.cell?_setCell_other W ⟨q, i, none⟩ ⟨q, j, none⟩ _ (fun e => hne (by injection e with _ e _; exact e.symm))
  refine ⟨?_, fun j hj => ?_, fun j hj => ?_, ?_, by simp; omega, fun j => ?_⟩
  · rw [World.cell?_setCell_same' _ _ _ (by rw [other _ _ _ _ (by omega), h.c0]; rfl)]
    simp
  · rw [other _ _ _ _ (by omega), getD_push]
    by_cases e : j = L.length
    · subst e
      rw [if_pos rfl]
      exact World.cell?_setCell_same' _ _ _ (by rw [h.row _ hl]; rfl)
    · rw [if_neg e, other _ _ _ _ (by omega)]
      exact h.row j hj
  · rw [World.frozen?_setCell, World.frozen?_setCell]; exact h.free j hj
  · show q < (Array.modify _ _ _).size
    rw [Array.size_modify]
    show q < (Array.modify _ _ _).size
    rw [Array.size_modify]; exact h.lt
  · rw [getD_push]; split
    · exact hr
    · exact h.r32 j




/-- Room for a grid at the block q. -/
structure Room (W : World) (q : Nat) : Prop where
  there : W.there q 0 12
  lt : q < W.heap.size
theorem Room.drewN {W : World} {q : Nat} (h : Room W q) (k : Nat) : Room (W.drewN k) q := ⟨h.there, h.lt⟩
theorem Room.below {W W' : World} {q : Nat} (h : Room W q) (hb : Below W.heap.size W W') : Room W' q :=
  ⟨fun j hj => ⟨by rw [hb.cell (p := ⟨q, 0 + j, none⟩) h.lt]; exact (h.there j hj).1, by rw [hb.frozen (p := ⟨q, 0 + j, none⟩) h.lt]; exact (h.there j hj).2⟩, Nat.lt_of_lt_of_le h.lt hb.size⟩
theorem Room.only {W W' : World} {q b : Nat} (h : Room W q) (hb : Only b W W') (hq : q ≠ b) : Room W' q := by
  have hg : W'.heap[q]? = W.heap[q]? := hb.block q hq
  exact ⟨fun j hj => ⟨by rw [World.cell?_of_block (w := W) (a := ⟨q, 0 + j, none⟩) hg]; exact (h.there j hj).1, by rw [World.frozen?_of_block (w := W) (a := ⟨q, 0 + j, none⟩) hg]; exact (h.there j hj).2⟩, by rw [hb.size]; exact h.lt⟩
theorem GAt.room {W : World} {q : Nat} {L : List Nat} {c : Int} (h : GAt W q L c) : Room W q :=
  ⟨fun j hj => ⟨by
    rw [Nat.zero_add]
    by_cases h0 : j = 0
    · subst h0; rw [h.c0]; rfl
    · by_cases h11 : j = 11
      · subst h11; rw [h.c11]; rfl
      · have := h.row (j - 1) (by omega)
        rw [show 1 + (j - 1) = j by omega] at this
        rw [this]; rfl, by rw [Nat.zero_add]; exact h.free j hj⟩, h.lt⟩
theorem Only.setCells {b : Nat} {w : World} : ∀ (vs : List Value) (o : Nat) (w' : World), Only b w w' → Only b w (w'.setCells b o vs)
  | [], _, _, h => h
  | v :: r, o, w', h => by rw [World.setCells]; exact Only.setCells r (o + 1) _ (h.setCell o v)
theorem GAt.store {W : World} {q : Nat} (h : Room W q) (L : List Nat) (c : Int) (hl : L.length ≤ 10) (hr : ∀ j, nth L j < 4294967296) : GAt (W.setCells q 0 (gridC L c).toList) q L c := by
  have hR := World.rangeAt_setCells_same W q 0 (gridC L c).toList h.there
  have hget : ∀ j v, (gridC L c)[j]? = some v → (W.setCells q 0 (gridC L c).toList).cell? ⟨q, j, none⟩ = some v := fun j v hv => by
    have := hR j v (by simpa using hv)
    rwa [Nat.zero_add] at this
  refine ⟨hget 0 _ rfl, fun j hj => hget _ _ (gridC_row L c j hj), hget 11 _ rfl, fun j hj => ?_, ?_, hl, hr⟩
  · rw [World.frozen?_setCells]
    have := (h.there j hj).2
    rwa [Nat.zero_add] at this
  · have := (Only.setCells (b := q) (gridC L c).toList 0 W (Only.refl q W)).size
    rw [this]; exact h.lt
theorem GAt.range {W : World} {q : Nat} {L : List Nat} {c : Int} (h : GAt W q L c) : W.rangeAt q 0 (gridC L c).toList := by
  intro j v hv
  rw [Nat.zero_add]
  have hv' : (gridC L c)[j]? = some v := by simpa using hv
  have hj : j < 12 := by
    have := (Array.getElem?_eq_some_iff.1 hv').1
    simpa [gridC] using this
  by_cases h0 : j = 0
  · subst h0; rw [h.c0]; exact hv'
  · by_cases h11 : j = 11
    · subst h11; rw [h.c11]; exact hv'
    · have h1 := h.row (j - 1) (by omega)
      have h2 := gridC_row L c (j - 1) (by omega)
      rw [show 1 + (j - 1) = j by omega] at h1 h2
      rw [h1, ← h2]; exact hv'

/-- The twelve cells, one by one. -/
theorem Room.facts {W : World} {q : Nat} (h : Room W q) : (∃ u0 u1 u2 u3 u4 u5 u6 u7 u8 u9 u10 u11, W.cell? ⟨q, 0, none⟩ = some u0 ∧ W.cell? ⟨q, 1, none⟩ = some u1 ∧ W.cell? ⟨q, 2, none⟩ = some u2 ∧ W.cell? ⟨q, 3, none⟩ = some u3 ∧ W.cell? ⟨q, 4, none⟩ = some u4 ∧ W.cell? ⟨q, 5, none⟩ = some u5 ∧ W.cell? ⟨q, 6, none⟩ = some u6 ∧ W.cell? ⟨q, 7, none⟩ = some u7 ∧ W.cell? ⟨q, 8, none⟩ = some u8 ∧ W.cell? ⟨q, 9, none⟩ = some u9 ∧ W.cell? ⟨q, 10, none⟩ = some u10 ∧ W.cell? ⟨q, 11, none⟩ = some u11) ∧ (W.frozen? ⟨q, 0, none⟩ = false ∧ W.frozen? ⟨q, 1, none⟩ = false ∧ W.frozen? ⟨q, 2, none⟩ = false ∧ W.frozen? ⟨q, 3, none⟩ = false ∧ W.frozen? ⟨q, 4, none⟩ = false ∧ W.frozen? ⟨q, 5, none⟩ = false ∧ W.frozen? ⟨q, 6, none⟩ = false ∧ W.frozen? ⟨q, 7, none⟩ = false ∧ W.frozen? ⟨q, 8, none⟩ = false ∧ W.frozen? ⟨q, 9, none⟩ = false ∧ W.frozen? ⟨q, 10, none⟩ = false ∧ W.frozen? ⟨q, 11, none⟩ = false) := by
  have hc : ∀ j, j < 12 → ∃ u, W.cell? ⟨q, j, none⟩ = some u := fun j hj => by
    have := (h.there j hj).1
    rw [Nat.zero_add] at this
    exact Option.isSome_iff_exists.1 this
  have hf : ∀ j, j < 12 → W.frozen? ⟨q, j, none⟩ = false := fun j hj => by
    have := (h.there j hj).2
    rwa [Nat.zero_add] at this
  obtain ⟨u0, h0⟩ := hc 0 (by omega)
  obtain ⟨u1, h1⟩ := hc 1 (by omega)
  obtain ⟨u2, h2⟩ := hc 2 (by omega)
  obtain ⟨u3, h3⟩ := hc 3 (by omega)
  obtain ⟨u4, h4⟩ := hc 4 (by omega)
  obtain ⟨u5, h5⟩ := hc 5 (by omega)
  obtain ⟨u6, h6⟩ := hc 6 (by omega)
  obtain ⟨u7, h7⟩ := hc 7 (by omega)
  obtain ⟨u8, h8⟩ := hc 8 (by omega)
  obtain ⟨u9, h9⟩ := hc 9 (by omega)
  obtain ⟨u10, h10⟩ := hc 10 (by omega)
  obtain ⟨u11, h11⟩ := hc 11 (by omega)
  exact ⟨⟨u0, u1, u2, u3, u4, u5, u6, u7, u8, u9, u10, u11, h0, h1, h2, h3, h4, h5, h6, h7, h8, h9, h10, h11⟩, hf 0 (by omega), hf 1 (by omega), hf 2 (by omega), hf 3 (by omega), hf 4 (by omega), hf 5 (by omega), hf 6 (by omega), hf 7 (by omega), hf 8 (by omega), hf 9 (by omega), hf 10 (by omega), hf 11 (by omega)⟩
theorem GAt.facts {W : World} {q : Nat} {L : List Nat} {c : Int} (h : GAt W q L c) : W.cell? ⟨q, 0, none⟩ = some (.int .i64 (L.length : Nat)) ∧ W.cell? ⟨q, 1, none⟩ = some (.int .u32 (nth L 0 : Nat)) ∧ W.cell? ⟨q, 2, none⟩ = some (.int .u32 (nth L 1 : Nat)) ∧ W.cell? ⟨q, 3, none⟩ = some (.int .u32 (nth L 2 : Nat)) ∧ W.cell? ⟨q, 4, none⟩ = some (.int .u32 (nth L 3 : Nat)) ∧ W.cell? ⟨q, 5, none⟩ = some (.int .u32 (nth L 4 : Nat)) ∧ W.cell? ⟨q, 6, none⟩ = some (.int .u32 (nth L 5 : Nat)) ∧ W.cell? ⟨q, 7, none⟩ = some (.int .u32 (nth L 6 : Nat)) ∧ W.cell? ⟨q, 8, none⟩ = some (.int .u32 (nth L 7 : Nat)) ∧ W.cell? ⟨q, 9, none⟩ = some (.int .u32 (nth L 8 : Nat)) ∧ W.cell? ⟨q, 10, none⟩ = some (.int .u32 (nth L 9 : Nat)) ∧ W.cell? ⟨q, 11, none⟩ = some (.int .i64 c) :=
  ⟨h.c0, h.row 0 (by omega), h.row 1 (by omega), h.row 2 (by omega), h.row 3 (by omega), h.row 4 (by omega), h.row 5 (by omega), h.row 6 (by omega), h.row 7 (by omega), h.row 8 (by omega), h.row 9 (by omega), h.c11⟩
theorem GAt.free' {W : World} {q : Nat} {L : List Nat} {c : Int} (h : GAt W q L c) : W.frozen? ⟨q, 0, none⟩ = false ∧ W.frozen? ⟨q, 1, none⟩ = false ∧ W.frozen? ⟨q, 2, none⟩ = false ∧ W.frozen? ⟨q, 3, none⟩ = false ∧ W.frozen? ⟨q, 4, none⟩ = false ∧ W.frozen? ⟨q, 5, none⟩ = false ∧ W.frozen? ⟨q, 6, none⟩ = false ∧ W.frozen? ⟨q, 7, none⟩ = false ∧ W.frozen? ⟨q, 8, none⟩ = false ∧ W.frozen? ⟨q, 9, none⟩ = false ∧ W.frozen? ⟨q, 10, none⟩ = false ∧ W.frozen? ⟨q, 11, none⟩ = false :=
  ⟨h.free 0 (by omega), h.free 1 (by omega), h.free 2 (by omega), h.free 3 (by omega), h.free 4 (by omega), h.free 5 (by omega), h.free 6 (by omega), h.free 7 (by omega), h.free 8 (by omega), h.free 9 (by omega), h.free 10 (by omega), h.free 11 (by omega)⟩

theorem GAt.store12 {W : World} {q : Nat} (h : Room W q) (L : List Nat) (c : Int) (hl : L.length ≤ 10) (hr : ∀ j, nth L j < 4294967296) : GAt ((((((((((((W.setCell ⟨q, 0, none⟩ (.int .i64 (L.length : Nat))).setCell ⟨q, 1, none⟩ (.int .u32 (nth L 0 : Nat))).setCell ⟨q, 2, none⟩ (.int .u32 (nth L 1 : Nat))).setCell ⟨q, 3, none⟩ (.int .u32 (nth L 2 : Nat))).setCell ⟨q, 4, none⟩ (.int .u32 (nth L 3 : Nat))).setCell ⟨q, 5, none⟩ (.int .u32 (nth L 4 : Nat))).setCell ⟨q, 6, none⟩ (.int .u32 (nth L 5 : Nat))).setCell ⟨q, 7, none⟩ (.int .u32 (nth L 6 : Nat))).setCell ⟨q, 8, none⟩ (.int .u32 (nth L 7 : Nat))).setCell ⟨q, 9, none⟩ (.int .u32 (nth L 8 : Nat))).setCell ⟨q, 10, none⟩ (.int .u32 (nth L 9 : Nat))).setCell ⟨q, 11, none⟩ (.int .i64 c)) q L c := GAt.store h L c hl hr
theorem only12 (W : World) (q : Nat) (u0 u1 u2 u3 u4 u5 u6 u7 u8 u9 u10 u11 : Value) : Only q W ((((((((((((W.setCell ⟨q, 0, none⟩ u0).setCell ⟨q, 1, none⟩ u1).setCell ⟨q, 2, none⟩ u2).setCell ⟨q, 3, none⟩ u3).setCell ⟨q, 4, none⟩ u4).setCell ⟨q, 5, none⟩ u5).setCell ⟨q, 6, none⟩ u6).setCell ⟨q, 7, none⟩ u7).setCell ⟨q, 8, none⟩ u8).setCell ⟨q, 9, none⟩ u9).setCell ⟨q, 10, none⟩ u10).setCell ⟨q, 11, none⟩ u11) := Only.setCells [u0, u1, u2, u3, u4, u5, u6, u7, u8, u9, u10, u11] 0 W (Only.refl q W)

theorem two_setCell (W : World) (q : Nat) (a b : Value) {x y : Value} (h0 : W.cell? ⟨q, 0, none⟩ = some x) (h1 : W.cell? ⟨q, 1, none⟩ = some y) :
    ((W.setCell ⟨q, 0, none⟩ a).setCell ⟨q, 1, none⟩ b).cell? ⟨q, 0, none⟩ = some a ∧ ((W.setCell ⟨q, 0, none⟩ a).setCell ⟨q, 1, none⟩ b).cell? ⟨q, 1, none⟩ = some b := by
  refine ⟨?_, World.cell?_setCell_same' _ _ _ ?_⟩
  · rw [World.cell?_setCell_other _ ⟨q, 1, none⟩ ⟨q, 0, none⟩ _ (by simp)]
    exact World.cell?_setCell_same' _ _ _ (by rw [h0]; rfl)
  · rw [World.cell?_setCell_other _ ⟨q, 0, none⟩ ⟨q, 1, none⟩ _ (by simp), h1]; rfl
/-- Room for a matrix at the block q. -/
structure MRoom (W : World) (q : Nat) : Prop where
  ex : ∃ x y, W.cell? ⟨q, 0, none⟩ = some x ∧ W.cell? ⟨q, 1, none⟩ = some y
  f0 : W.frozen? ⟨q, 0, none⟩ = false
  f1 : W.frozen? ⟨q, 1, none⟩ = false
  lt : q < W.heap.size
theorem MRoom.below {W W' : World} {q : Nat} (h : MRoom W q) (hb : Below W.heap.size W W') : MRoom W' q := by
  obtain ⟨x, y, h0, h1⟩ := h.ex
  exact ⟨⟨x, y, (hb.cell (p := ⟨q, 0, none⟩) h.lt).trans h0, (hb.cell (p := ⟨q, 1, none⟩) h.lt).trans h1⟩, (hb.frozen (p := ⟨q, 0, none⟩) h.lt).trans h.f0, (hb.frozen (p := ⟨q, 1, none⟩) h.lt).trans h.f1, Nat.lt_of_lt_of_le h.lt hb.size⟩
theorem MRoom.start (W : World) (x y : Value) (T : TypeId) : MRoom (W.alloc (.cells #[x, y] T)) W.heap.size := ⟨⟨x, y, by simp, by simp⟩, by simp, by simp, by simp⟩
theorem only2 (W : World) (q : Nat) (a b : Value) : Only q W ((W.setCell ⟨q, 0, none⟩ a).setCell ⟨q, 1, none⟩ b) := ((Only.refl q W).setCell 0 a).setCell 1 b
theorem Res.only {W W' : World} {B T q : Nat} {v : Value} {xs : List Int} (h : Res W B T v xs) (ho : Only q W W') (hq : q < B ∨ T ≤ q) : Res W' B T v xs := by
  cases h with
  | nil A cap => exact .nil A cap
  | row g n cap xs h1 h2 h3 h4 h5 h6 h7 =>
    have hg : W'.heap[g]? = W.heap[g]? := ho.block g (by omega)
    exact .row g n cap xs h1 h2 (by rw [ho.size]; exact h3) h4 h5 (fun j hj => (World.cell?_of_block (w := W) (a := ⟨g, j, none⟩) hg).trans (h6 j hj)) (fun j hj => (World.frozen?_of_block (w := W) (a := ⟨g, j, none⟩) hg).trans (h7 j hj))
theorem Res.wide {W : World} {B B' T T' : Nat} {v : Value} {xs : List Int} (h : Res W B T v xs) (hB : B' ≤ B) (hT : T ≤ T') (hT' : T' ≤ W.heap.size) : Res W B' T' v xs := by
  cases h with
  | nil A cap => exact .nil A cap
  | row g n cap xs h1 h2 h3 h4 h5 h6 h7 => exact .row g n cap xs (by omega) (by omega) hT' h4 h5 h6 h7

theorem MRoom.only {W W' : World} {q b : Nat} (h : MRoom W q) (ho : Only b W W') (hq : q ≠ b) : MRoom W' q := by
  obtain ⟨x, y, h0, h1⟩ := h.ex
  have hg : W'.heap[q]? = W.heap[q]? := ho.block q hq
  exact ⟨⟨x, y, (World.cell?_of_block (w := W) (a := ⟨q, 0, none⟩) hg).trans h0, (World.cell?_of_block (w := W) (a := ⟨q, 1, none⟩) hg).trans h1⟩, (World.frozen?_of_block (w := W) (a := ⟨q, 0, none⟩) hg).trans h.f0, (World.frozen?_of_block (w := W) (a := ⟨q, 1, none⟩) hg).trans h.f1, by rw [ho.size]; exact h.lt⟩
theorem Res.fin {W : World} {q B B' : Nat} {v : Value} {xs : List Int} (h : Res W B W.heap.size v xs) (hq : q < B) (hB : B' ≤ B) (a b : Value) :
    Res ((W.setCell ⟨q, 0, none⟩ a).setCell ⟨q, 1, none⟩ b) B' ((W.setCell ⟨q, 0, none⟩ a).setCell ⟨q, 1, none⟩ b).heap.size v xs := by
  have hs := (only2 W q a b).size
  rw [hs]
  exact (h.only (only2 W q a b) (.inl hq)).wide hB (Nat.le_refl _) (by rw [hs]; exact Nat.le_refl _)
end Go.Proofs.Ytlchelaohiojiaa
