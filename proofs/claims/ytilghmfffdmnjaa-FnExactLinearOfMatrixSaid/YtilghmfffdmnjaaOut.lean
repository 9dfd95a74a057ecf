/- The matrix of a grid: the program's. · A matrix in a block of its own whose rows are appended one by one. -/
import Derived.Test.YtilghmfffdmnjaaGrid
import Derived.Deep.RegionHeld3
namespace Go.Proofs.Ytilghmfffdmnjaa
open Go.RowKit Go.Joins
set_option linter.unusedVariables false

theorem RAt.drew {W : World} {q : Nat} {L : List Nat} (h : RAt W q L) : RAt W.drew q L := ⟨h.c0, h.row, h.free, h.lt, h.len, h.r32⟩

end Go.Proofs.Ytilghmfffdmnjaa
namespace Go.Proofs.Ytilghmfffdmnjaa
open Go.RowKit Go.Joins
set_option linter.unusedVariables false

/-- The result's block r, the matrix's block o, and its rows v so far, owned from B on. -/
structure OB (wr : World) (r o B : Nat) (c : Int) (k : Nat) (v : Value) (xs : List Int) : Prop where
  rB : r < B
  oB : o < B
  ne : r ≠ o
  a0 : wr.cell? ⟨o, 0, none⟩ = some (.int .i64 c)
  a1 : wr.cell? ⟨o, 1, none⟩ = some v
  f1 : wr.frozen? ⟨o, 1, none⟩ = false
  room : MRoom wr r
  own : wr.ownsRow B 2 1 v k (xs.map (Value.int .i64))
  z : B ≤ wr.heap.size
theorem OB.len {wr : World} {r o B : Nat} {c : Int} {k : Nat} {v : Value} {xs : List Int} (h : OB wr r o B c k v xs) : xs.length = k := by have := h.own.1; simpa using this
theorem OB.form {wr : World} {r o B : Nat} {c : Int} {k : Nat} {v : Value} {xs : List Int} (h : OB wr r o B c k v xs) : ∃ ao m cap, v = .slice ao m cap := by
  rcases ownsRow_forms h.own with ⟨rfl, _⟩ | ⟨g, cap, rfl⟩
  · exact ⟨_, _, _, rfl⟩
  · exact ⟨_, _, _, rfl⟩
theorem OB.drewN {wr : World} {r o B : Nat} {c : Int} {k : Nat} {v : Value} {xs : List Int} (h : OB wr r o B c k v xs) (q : Nat) : OB (wr.drewN q) r o B c k v xs :=
  ⟨h.rB, h.oB, h.ne, h.a0, h.a1, h.f1, ⟨h.room.ex, h.room.f0, h.room.f1, h.room.lt⟩, h.own, h.z⟩
theorem MRoom.at {W W' : World} {q : Nat} (h : MRoom W q) (hg : W'.heap[q]? = W.heap[q]?) (hs : W.heap.size ≤ W'.heap.size) : MRoom W' q := by
  obtain ⟨x, y, h0, h1⟩ := h.ex
  exact ⟨⟨x, y, (World.cell?_of_block (w := W) (a := ⟨q, 0, none⟩) hg).trans h0, (World.cell?_of_block (w := W) (a := ⟨q, 1, none⟩) hg).trans h1⟩, (World.frozen?_of_block (w := W) (a := ⟨q, 0, none⟩) hg).trans h.f0, (World.frozen?_of_block (w := W) (a := ⟨q, 1, none⟩) hg).trans h.f1, Nat.lt_of_lt_of_le h.lt hs⟩
theorem MAt.at {W W' : World} {q : Nat} {c : Int} {b n cap : Nat} (h : MAt W q c b n cap) (hg : W'.heap[q]? = W.heap[q]?) (hs : W.heap.size ≤ W'.heap.size) : MAt W' q c b n cap :=
  ⟨(World.cell?_of_block (w := W) (a := ⟨q, 0, none⟩) hg).trans h.c0, (World.cell?_of_block (w := W) (a := ⟨q, 1, none⟩) hg).trans h.c1, Nat.lt_of_lt_of_le h.lt hs⟩
theorem Mt.at {W W' : World} {b n : Nat} {xs : List Int} (h : Mt W b n xs) (hg : W'.heap[b]? = W.heap[b]?) (hs : W.heap.size ≤ W'.heap.size) : Mt W' b n xs :=
  ⟨h.len, h.small, Nat.lt_of_lt_of_le h.lt hs, fun j hj => (World.cell?_of_block (w := W) (a := ⟨b, j, none⟩) hg).trans (h.cell j hj), fun j => (World.frozen?_of_block (w := W) (a := ⟨b, j, none⟩) hg).trans (h.free j)⟩
theorem GAt.at {W W' : World} {q : Nat} {L : List Nat} {c : Int} (h : GAt W q L c) (hg : W'.heap[q]? = W.heap[q]?) (hs : W.heap.size ≤ W'.heap.size) : GAt W' q L c :=
  ⟨(World.cell?_of_block (w := W) (a := ⟨q, 0, none⟩) hg).trans h.c0, fun j hj => (World.cell?_of_block (w := W) (a := ⟨q, 1 + j, none⟩) hg).trans (h.row j hj), (World.cell?_of_block (w := W) (a := ⟨q, 11, none⟩) hg).trans h.c11, fun j hj => (World.frozen?_of_block (w := W) (a := ⟨q, j, none⟩) hg).trans (h.free j hj), Nat.lt_of_lt_of_le h.lt hs, h.len, h.r32⟩

/-- What a step leaves as it was: every block below B but o. -/
structure Kept (B o : Nat) (wr w2 : World) : Prop where
  heap : ∀ q, q < B → q ≠ o → w2.heap[q]? = wr.heap[q]?
  size : wr.heap.size ≤ w2.heap.size
  below : ∀ D, D ≤ o → D ≤ B → Below D wr w2
theorem OB.step {wr w1 : World} {r o B : Nat} {c : Int} {k : Nat} {v v' : Value} {xs : List Int} {x : Int} (h : OB wr r o B c k v xs) (hb : Below B wr w1)
    (hown : w1.ownsRow B 2 1 v' (k + 1) (xs.map (Value.int .i64) ++ [.int .i64 x])) :
    OB (w1.setCell ⟨o, 1, none⟩ v') r o B c (k + 1) v' (xs ++ [x]) ∧ Kept B o wr (w1.setCell ⟨o, 1, none⟩ v') := by
  have hs : (w1.setCell ⟨o, 1, none⟩ v').heap.size = w1.heap.size := Array.size_modify ..
  have hK : ∀ q, q < B → q ≠ o → (w1.setCell ⟨o, 1, none⟩ v').heap[q]? = wr.heap[q]? := fun q hq hne => (Below.heap_setCell w1 ⟨o, 1, none⟩ v' q hne).trans (hb.block q hq)
  have hsz : wr.heap.size ≤ (w1.setCell ⟨o, 1, none⟩ v').heap.size := by rw [hs]; exact hb.size
  refine ⟨⟨h.rB, h.oB, h.ne, ?_, ?_, ?_, h.room.at (hK r h.rB h.ne) hsz, ?_, Nat.le_trans h.z hsz⟩, hK, hsz, fun D h1 h2 => (hb.mono h2).setCell (p := ⟨o, 1, none⟩) h1 _⟩
  · rw [World.cell?_setCell_other _ ⟨o, 1, none⟩ ⟨o, 0, none⟩ _ (by simp), hb.cell (p := ⟨o, 0, none⟩) h.oB]; exact h.a0
  · exact World.cell?_setCell_same' _ _ _ (by rw [hb.cell (p := ⟨o, 1, none⟩) h.oB, h.a1]; rfl)
  · rw [World.frozen?_setCell, hb.frozen (p := ⟨o, 1, none⟩) h.oB]; exact h.f1
  · rw [List.map_append]; exact ownsRow_setCell_below hown h.oB _
theorem OB.res {wr : World} {r o B : Nat} {c : Int} {k : Nat} {v : Value} {xs : List Int} (h : OB wr r o B c k v xs) (hk : k ≤ 1048576) {B' : Nat} (hB : B' ≤ B) (a b : Value) :
    Res ((wr.setCell ⟨r, 0, none⟩ a).setCell ⟨r, 1, none⟩ b) B' ((wr.setCell ⟨r, 0, none⟩ a).setCell ⟨r, 1, none⟩ b).heap.size v xs :=
  (own_res h.own hk (Nat.le_refl B)).fin h.rB hB a b
/-- Behind an append: the new rows are a slice, and old memory is as it was. -/
theorem OB.grown {wr w2 : World} {r o B : Nat} {c : Int} {k : Nat} {v v' : Value} {xs : List Int} {ys : List Value} {O : Obj} (h : OB wr r o B c k v xs) (hown : w2.ownsRow B 2 1 v' (k + 1) ys)
    (hg : (wr.alloc O).grownBy w2 v.ownBlock) : (∃ g cap, v' = .slice (some ⟨g, 0, none⟩) (k + 1) cap) ∧ Below B wr w2 :=
  ⟨(ownsRow_forms hown).resolve_left (fun h => by have := h.2; omega), ((Below.refl _ wr).alloc h.z _).grown hg (by have := h.z; simp; omega) (fun g hg => (h.own.lt g hg).1)⟩
theorem i64_or_pow (s j : Nat) (hs : s < 1024) (hj : j ≤ 10) : bits .or .i64 (s : Int) (wrap64 (2 ^ j)) = ((s ||| 2 ^ j : Nat) : Int) := by
  have hp : 2 ^ j ≤ 1024 := pow_le10 hj
  have e := shl_nat 1 j (by omega)
  simp only [Nat.one_mul, Int.natCast_one, Int.one_mul] at e
  rw [e, i64_or_nat s _ (by omega) (by omega)]
theorem i64_or_zero (s : Nat) (hs : s < 1024) : bits .or .i64 (s : Int) 0 = (s : Int) := by
  have := i64_or_nat s 0 (by omega) (by omega)
  rwa [Nat.or_zero] at this
end Go.Proofs.Ytilghmfffdmnjaa
