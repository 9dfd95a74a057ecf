/- The function that squares each element of a word: the program's. -/
import Derived.Test.YtcdhdgflgdmhdaaElems
import Derived.Test.YtcdhdgflgdmhdaaSqr
import Derived.Test.YtcdhdgflgdmhdaaWr
import Derived.Test.YtcdhdgflgdmhdaaInfoE
import Derived.Test.YtcdhdgflgdmhdaaLr
import Derived.RangeFuncWrites
import Derived.Lib.SmallJoins
namespace Go.Proofs.Ytcdhdgflgdmhdaa
open Go.RowKit Go.Joins Go.Shelf
attribute [local go_sem] Oper.semAt_some
set_option linter.unusedVariables false

/-- An array of thirty-two elements lies at the block q. -/
structure UAt (W : World) (q : Nat) (f : Nat → Nat) : Prop where
  cell : ∀ j, j < 32 → W.cell? ⟨q, j, none⟩ = some (.int .u8 (f j : Nat))
  free : ∀ j, j < 32 → W.frozen? ⟨q, j, none⟩ = false
  lt : q < W.heap.size
theorem UAt.at {W W' : World} {q : Nat} {f : Nat → Nat} (h : UAt W q f) (hg : W'.heap[q]? = W.heap[q]?) (hs : W.heap.size ≤ W'.heap.size) : UAt W' q f :=
  ⟨fun j hj => (World.cell?_of_block (w := W) (a := ⟨q, j, none⟩) hg).trans (h.cell j hj), fun j hj => (World.frozen?_of_block (w := W) (a := ⟨q, j, none⟩) hg).trans (h.free j hj), Nat.lt_of_lt_of_le h.lt hs⟩
theorem UAt.below {W W' : World} {q : Nat} {f : Nat → Nat} (h : UAt W q f) (hb : Below W.heap.size W W') : UAt W' q f := h.at (hb.block q h.lt) hb.size
theorem UAt.set {W : World} {q : Nat} {f : Nat → Nat} (h : UAt W q f) (i : Nat) (hi : i < 32) (x : Nat) : UAt (W.setCell ⟨q, i, none⟩ (.int .u8 x)) q (put f i x) := by
  refine ⟨fun j hj => ?_, fun j hj => by rw [World.frozen?_setCell]; exact h.free j hj, by rw [show (W.setCell ⟨q, i, none⟩ (.int .u8 x)).heap.size = W.heap.size from Array.size_modify ..]; exact h.lt⟩
  simp only [put]
  by_cases e : j = i
  · subst e
    rw [if_pos rfl]
    exact World.cell?_setCell_same' _ _ _ (by rw [h.cell j hj]; rfl)
  · rw [if_neg e, World.cell?_setCell_other _ ⟨q, i, none⟩ ⟨q, j, none⟩ _ (fun h => e (by injection h with _ h _; omega))]
    exact h.cell j hj
theorem zeros_get {j : Nat} (h : j < 32) : (#[.int .u8 0, .int .u8 0, .int .u8 0, .int .u8 0, .int .u8 0, .int .u8 0, .int .u8 0, .int .u8 0, .int .u8 0, .int .u8 0, .int .u8 0, .int .u8 0, .int .u8 0, .int .u8 0, .int .u8 0, .int .u8 0, .int .u8 0, .int .u8 0, .int .u8 0, .int .u8 0, .int .u8 0, .int .u8 0, .int .u8 0, .int .u8 0, .int .u8 0, .int .u8 0, .int .u8 0, .int .u8 0, .int .u8 0, .int .u8 0, .int .u8 0, .int .u8 0] : Array Value)[j]? = some (.int .u8 0) := by
  have e : (#[.int .u8 0, .int .u8 0, .int .u8 0, .int .u8 0, .int .u8 0, .int .u8 0, .int .u8 0, .int .u8 0, .int .u8 0, .int .u8 0, .int .u8 0, .int .u8 0, .int .u8 0, .int .u8 0, .int .u8 0, .int .u8 0, .int .u8 0, .int .u8 0, .int .u8 0, .int .u8 0, .int .u8 0, .int .u8 0, .int .u8 0, .int .u8 0, .int .u8 0, .int .u8 0, .int .u8 0, .int .u8 0, .int .u8 0, .int .u8 0, .int .u8 0, .int .u8 0] : Array Value) = Array.replicate 32 (.int .u8 0) := rfl
  rw [e, Array.getElem?_replicate, if_pos h]
theorem UAt.start (W : World) (T : TypeId) : UAt (W.alloc (.cells #[.int .u8 0, .int .u8 0, .int .u8 0, .int .u8 0, .int .u8 0, .int .u8 0, .int .u8 0, .int .u8 0, .int .u8 0, .int .u8 0, .int .u8 0, .int .u8 0, .int .u8 0, .int .u8 0, .int .u8 0, .int .u8 0, .int .u8 0, .int .u8 0, .int .u8 0, .int .u8 0, .int .u8 0, .int .u8 0, .int .u8 0, .int .u8 0, .int .u8 0, .int .u8 0, .int .u8 0, .int .u8 0, .int .u8 0, .int .u8 0, .int .u8 0, .int .u8 0] T)) W.heap.size (fun _ => 0) := by
  refine ⟨fun j hj => ?_, fun j hj => ?_, by simp⟩
  · rw [World.cell?_alloc_at _ _ _ _ rfl]; exact zeros_get hj
  · rw [World.frozen?_alloc_at _ _ _ _ rfl]

/-- The squares of those elements that came up; and the two boxes. -/
structure SqI (P k b : Nat) (va vb : Value) (w : World) (n : Nat) (pre : List (El n)) (W : World) : Prop where
  arr : ∃ F, UAt W (b + 1 + 1) F ∧ ∀ x ∈ pre, F x.1 = sq P x.1 k
  b0 : W.cell? ⟨b, 0, none⟩ = some va
  b1 : W.cell? ⟨b + 1, 0, none⟩ = some vb
  bel : Below b w W
theorem sqI_own (P k b : Nat) (va vb : Value) (w : World) (n B : Nat) (hq : b + 1 + 1 < B) (hb : b ≤ w.heap.size) : OwnFrom B (SqI P k b va vb w n) := by
  rintro pre W W' row ⟨⟨F, hU, hF⟩, h0, h1, hB⟩ hg hr
  have hne : ∀ q, q < B → row ≠ some q := fun q hqB e => by have := (hr q e).1; omega
  have hlt := hU.lt
  exact ⟨⟨F, hU.at (hg.block _ hlt (fun e => hne _ hq e.symm)) hg.size, hF⟩, (World.cell?_of_block (w := W) (a := ⟨b, 0, none⟩) (hg.block b (by omega) (fun e => hne b (by omega) e.symm))).trans h0, (World.cell?_of_block (w := W) (a := ⟨b + 1, 0, none⟩) (hg.block (b + 1) (by omega) (fun e => hne (b + 1) (by omega) e.symm))).trans h1, hB.grown hg (Nat.le_trans hb hB.size) (fun k e => by have := (hr k e).1; omega)⟩
theorem keeps_set {B q i : Nat} (hq : q < B) (W : World) (v : Value) : KeepsFrom B W (W.setCell ⟨q, i, none⟩ v) :=
  ⟨by rw [show (W.setCell ⟨q, i, none⟩ v).heap.size = W.heap.size from Array.size_modify ..]; exact Nat.le_refl _, fun k o hB hk _ => (Below.heap_setCell W ⟨q, i, none⟩ v k (by show k ≠ q; omega)).trans hk⟩

set_option maxRecDepth 100000 in
set_option maxHeartbeats 4000000 in
theorem squarer_any (c m P n : Nat) (hF : Fld m P n) (k : Nat) (hk : k ≤ 1000) (w : World) (hC : Calc c m P n w) :
    Calls Try.prog 84 #[.pointer (some ⟨c, 0, none⟩), .int .i64 k] w fun e w' => ∃ q F, e = .returned (.func (.func 124) #[] #[.pointer (some ⟨q, 0, none⟩)]) ∧ Below w.heap.size w w' ∧ UAt w' q F ∧ ∀ x, x < n → F x = sq P x k := by
  have h32 := hF.n32
  have hcl := hC.lt
  have HC := Lib.hid hC
  have hmf : ∀ (fn : Fn) (first cap : Array Value) (w : World), (Instr.makeFunc fn first cap).run Try.prog w = .ok (.func fn first cap) w := fun _ _ _ _ => rfl
  refine (callsIn_wide (n := 9)).1 ?_
  refine callsIn_of_wp_marks Try.func84 rfl trivial ?_ rfl
  simp only [Try.ntmps84, List.size_toArray, List.length_cons, List.length_nil, Nat.reduceAdd, Nat.reduceSub, Array.replicate_succ, Array.replicate_zero, List.push_toArray, List.append_toArray, List.nil_append, List.cons_append]
  obtain ⟨W1, hW1⟩ : ∃ W1, (w.alloc (.cells #[.pointer (some ⟨c, 0, none⟩)] 71)).alloc (.cells #[.int .i64 k] 2) = W1 := ⟨_, rfl⟩
  have hs1 : W1.heap.size = w.heap.size + 1 + 1 := by rw [← hW1]; simp
  have hb1 : Below w.heap.size w W1 := by rw [← hW1]; exact (below_alloc1 w _).alloc (by simp) _
  have hc0 : W1.cell? ⟨w.heap.size, 0, none⟩ = some (.pointer (some ⟨c, 0, none⟩)) := by rw [← hW1]; exact cell_alloc_l _ (cell_new_l w _ _).1
  have hc1 : W1.cell? ⟨w.heap.size + 1, 0, none⟩ = some (.int .i64 k) := by
    have := (cell_new_l (w.alloc (.cells #[.pointer (some ⟨c, 0, none⟩)] 71)) (.int .i64 k) 2).1
    rw [World.size_alloc] at this
    rw [← hW1]; exact this
  have hU2 := UAt.start W1 80
  have hb2 := below_alloc1 W1 (.cells #[.int .u8 0, .int .u8 0, .int .u8 0, .int .u8 0, .int .u8 0, .int .u8 0, .int .u8 0, .int .u8 0, .int .u8 0, .int .u8 0, .int .u8 0, .int .u8 0, .int .u8 0, .int .u8 0, .int .u8 0, .int .u8 0, .int .u8 0, .int .u8 0, .int .u8 0, .int .u8 0, .int .u8 0, .int .u8 0, .int .u8 0, .int .u8 0, .int .u8 0, .int .u8 0, .int .u8 0, .int .u8 0, .int .u8 0, .int .u8 0, .int .u8 0, .int .u8 0] 80)
  have HU2 := Lib.hid hU2
  have HB1 := Lib.hid hb1
  have HB2 := Lib.hid hb2
  have HS1 := Lib.hid hs1
  gi_wp2_with fail
  refine ⟨trivial, ?_⟩
  refine (callsIn_wide.2 (elements_any (.pointer (some ⟨c, 0, none⟩)) _ c rfl)).mono ?_
  rintro e w' ⟨rfl, rfl⟩
  clear hU2 hb1 hb2 hW1 hs1
  obtain ⟨W2, hW2⟩ : ∃ W2, W1.alloc (.cells #[.int .u8 0, .int .u8 0, .int .u8 0, .int .u8 0, .int .u8 0, .int .u8 0, .int .u8 0, .int .u8 0, .int .u8 0, .int .u8 0, .int .u8 0, .int .u8 0, .int .u8 0, .int .u8 0, .int .u8 0, .int .u8 0, .int .u8 0, .int .u8 0, .int .u8 0, .int .u8 0, .int .u8 0, .int .u8 0, .int .u8 0, .int .u8 0, .int .u8 0, .int .u8 0, .int .u8 0, .int .u8 0, .int .u8 0, .int .u8 0, .int .u8 0, .int .u8 0] 80) = W2 := ⟨_, rfl⟩
  have hs2 : W2.heap.size = W1.heap.size + 1 := by rw [← hW2]; simp
  have hB2 := HB2.out
  have hU2 := HU2.out
  rw [hW2] at hB2 hU2
  rw [hW2]
  have hB02 : Below w.heap.size w W2 := HB1.out.trans (hB2.mono HB1.out.size)
  have c3 := cell_new_l W2 (.pointer (some ⟨c, 0, none⟩)) 71
  have hB23 := below_alloc1 W2 (.cells #[.pointer (some ⟨c, 0, none⟩)] 71)
  have hC2 := HC.out.below hcl (hB02.mono (Nat.le_refl _))
  have hd2 := HB1.out.size
  have hlt2 : c < W2.heap.size := hC2.lt
  clear hW2
  rw [HS1.out] at hU2
  have hs2' : w.heap.size + 1 + 1 + 1 = W2.heap.size := by have := HS1.out; omega
  have hB0 := (hB2.cell (p := ⟨w.heap.size, 0, none⟩) (by have := HS1.out; show w.heap.size < W1.heap.size; omega)).trans hc0
  have hB1 := (hB2.cell (p := ⟨w.heap.size + 1, 0, none⟩) (by have := HS1.out; show w.heap.size + 1 < W1.heap.size; omega)).trans hc1
  have HS2 := Lib.hid hs2'
  clear hs2 hs2' hc0 hc1 hB2
  gi_wp2
  refine wpIn_rangeFunc_ownG (α := El n) rfl (by omega) (gf := 142) (lb := #[.pointer (some ⟨W2.heap.size, 0, none⟩)]) rfl trivial (enters_of Try.func142 (by kernel_rfl) rfl)
    (elements_stops m P n hF W2.heap.size c _ c3.1 (by simp) ((hB23.cell (p := ⟨c, 0, none⟩) hlt2).trans hC2.deg) (by simp; omega)) (fun _ _ => trivial) (fun _ _ _ _ _ _ _ _ => trivial) (Below.refl _ _) (fun _ => rfl)
    (SqI P k w.heap.size (.pointer (some ⟨c, 0, none⟩)) (.int .i64 k) w n)
    (fun _ _ _ => False)
    (sqI_own P k w.heap.size _ _ w n _ (by have := HS2.out; simp; omega) (Nat.le_refl _))
    (fun _ _ _ _ _ hs _ _ => hs)
    ⟨⟨fun _ => 0, hU2.below hB23, fun x hx => by cases hx⟩, (hB23.cell (p := ⟨w.heap.size, 0, none⟩) (by have := HS2.out; show w.heap.size < W2.heap.size; omega)).trans hB0, (hB23.cell (p := ⟨w.heap.size + 1, 0, none⟩) (by have := HS2.out; show w.heap.size + 1 < W2.heap.size; omega)).trans hB1, hB02.trans (hB23.mono hB02.size)⟩
    (fun x => { tmps := #[.pointer (some ⟨c, 0, none⟩), .int .i64 k, .pointer (some ⟨w.heap.size, 0, none⟩), .pointer (some ⟨w.heap.size + 1, 0, none⟩), .nilFunc, .pointer (some ⟨w.heap.size + 1 + 1, 0, none⟩), .int .u8 x.1, .pointer (some ⟨c, 0, none⟩), .func (.func 142) #[] #[.pointer (some ⟨W2.heap.size, 0, none⟩)], .int .u8 x.1, undef, undef, undef, undef, undef, undef, undef], defers := [] }) ?assign ?body ?done ?stop
  case assign =>
    intro l x W K hK
    gi_wp2
    exact hK
  case body =>
    rintro l pre x W ⟨⟨F, hU, hFx⟩, h0, h1, hB⟩ hlt
    have hxn := x.2
    have hcell := hU.cell x.1 (by omega)
    have hfree := hU.free x.1 (by omega)
    have hV := squared_any c m P n hF x.1 x.2 k (by omega) W (HC.out.below hcl (hB.mono (Nat.le_refl _)))
    have hx32 : (x.1 : Int) < 32 := by omega
    obtain ⟨y, hy⟩ : ∃ y, sq P x.1 k = y := ⟨_, rfl⟩
    rw [hy] at hV
    have HV := Lib.hid hV
    have HU := Lib.hid hU
    have HB := Lib.hid hB
    have HY := Lib.hid hy
    have HFX := Lib.hid hFx
    clear hV hU hB hy hFx
    gi_wp2_with (refine ⟨trivial, ?_⟩; gi_at_call 100; refine (CallsIn.inRound l (callsIn_wide.2 HV.out)).mono ?_; rintro e w' ⟨rfl, rfl⟩)
    have h2 := HS2.out
    refine ⟨keeps_set (by simp; omega) _ _, trivial, ⟨_, HU.out.set x.1 (by omega) y, ?_⟩, ?_, ?_, HB.out.setCell (p := ⟨w.heap.size + 1 + 1, x.1, none⟩) (by show w.heap.size ≤ w.heap.size + 1 + 1; omega) _⟩
    · intro z hz
      simp only [put]
      by_cases e : z.1 = x.1
      · rw [if_pos e, e, HY.out]
      · rw [if_neg e]
        rcases List.mem_append.1 hz with h | h
        · exact HFX.out z h
        · have : z = x := by simpa using h
          exact absurd (by rw [this]) e
    · rw [World.cell?_setCell_other _ ⟨w.heap.size + 1 + 1, x.1, none⟩ ⟨w.heap.size, 0, none⟩ _ (fun e => by injection e with e; omega)]; exact h0
    · rw [World.cell?_setCell_other _ ⟨w.heap.size + 1 + 1, x.1, none⟩ ⟨w.heap.size + 1, 0, none⟩ _ (fun e => by injection e with e; omega)]; exact h1
  case done =>
    rintro D ys W hD rfl ⟨⟨F, hU, hFx⟩, h0, h1, hB⟩ hK
    have h2 := HS2.out
    have hBK := hB.trans (belowK_b (w := w) (Nat.le_refl _) W D _ (.deferred none) (by simp at hD; omega) hK rfl rfl)
    gi_wp2
    refine ⟨by simp, .inl ⟨_, _, rfl, run_takeDeferred hK, ?_⟩⟩
    exact ⟨_, results_tmp rfl _ _ _, _, F, rfl, hBK, hU.at (World.putObj_heap_other (by simp at hD; omega)) (by simp), fun x hx => hFx ⟨x, hx⟩ (elems_mem n (Nat.le_refl _) ⟨x, hx⟩ hx)⟩
  case stop =>
    rintro D cc pre W _ _ h _
    exact h.elim
end Go.Proofs.Ytcdhdgflgdmhdaa
