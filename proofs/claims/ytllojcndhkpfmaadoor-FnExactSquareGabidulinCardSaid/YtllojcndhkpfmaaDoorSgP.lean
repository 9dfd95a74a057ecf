/- The program's iterator over the elements of a field, and the least element that passes a test. · Squarings: what the model's and the program's function return. · The function that squares each element of a word: the program's. · The squares of the elements of a word: both sides. · The checks of a field, an element and a number of times: what the model's and the program's function return. · A Gabidulin code as a result: its room, its four values. · SquareGabidulin: what both sides share. -/
import Derived.Test.YtllojcndhkpfmaaDoorMakeArgs
import Derived.RangeFuncFrom
import Derived.Test.YtllojcndhkpfmaaDoorSpecMul
import Derived.Test.YtllojcndhkpfmaaDoorSqr
import Derived.Test.YtllojcndhkpfmaaDoorWr
import Derived.Test.YtllojcndhkpfmaaDoorInfoE
import Derived.Test.YtllojcndhkpfmaaDoorLr
import Derived.RangeFuncWrites
import Derived.Lib.SmallJoins
import Derived.Test.YtllojcndhkpfmaaDoorSv
import Derived.Test.YtllojcndhkpfmaaDoorStep
import Derived.Test.YtllojcndhkpfmaaDoorMtRes
import Derived.Test.YtllojcndhkpfmaaDoorGiven
import Derived.Test.YtllojcndhkpfmaaDoorGab
import Derived.Test.YtllojcndhkpfmaaDoorGabI
namespace Go.Proofs.YtllojcndhkpfmaaDoor
open Go.RowKit Go.Shelf
attribute [local go_sem] Oper.semAt_some
set_option linter.unusedVariables false

/-- The elements, as many as k of them. -/
abbrev El (n : Nat) := { x : Nat // x < n }
def elems (n : Nat) : Nat → List (El n)
  | 0 => []
  | k + 1 => if hk : k < n then elems n k ++ [⟨k, hk⟩] else elems n k
theorem elems_succ {n k : Nat} (hk : k < n) : elems n (k + 1) = elems n k ++ [⟨k, hk⟩] := by simp [elems, hk]
theorem elems_length {n : Nat} : ∀ k, k ≤ n → (elems n k).length = k := by
  intro k
  induction k with
  | zero => intro _; rfl
  | succ k ih => intro hk; rw [elems_succ (by omega)]; simp [ih (by omega)]
theorem elems_mem {n : Nat} : ∀ k, k ≤ n → ∀ d : El n, d.1 < k → d ∈ elems n k := by
  intro k
  induction k with
  | zero => intro _ d hd; omega
  | succ k ih =>
    intro hk d hd
    rw [elems_succ (by omega)]
    by_cases e : d.1 = k
    · exact List.mem_append.2 (.inr (by have : d = ⟨k, by omega⟩ := Subtype.ext e; simp [this]))
    · exact List.mem_append.2 (.inl (ih (by omega) d (by omega)))
theorem elems_last {n k : Nat} (hk : k ≤ n) {pre : List (El n)} {d : El n} (h : pre ++ [d] = elems n k) : pre = elems n d.1 ∧ d.1 + 1 = k := by
  cases k with
  | zero => simp [elems] at h
  | succ j =>
    rw [elems_succ (by omega)] at h
    obtain ⟨h1, h2⟩ := List.append_inj' h rfl
    have : d = ⟨j, by omega⟩ := by simpa using h2
    have e1 : d.1 = j := by rw [this]
    exact ⟨by rw [e1]; exact h1, by omega⟩

set_option maxRecDepth 100000 in
set_option maxHeartbeats 2000000 in
theorem elements_yields (m P n : Nat) (hF : Fld m P n) (l B c : Nat) (J Jx : List (El n) → World → Prop)
    (hY : ∀ pre x W, J pre W → pre.length < n → YieldAt Fence.wide 7 Tryd.prog l #[.int .u8 (x.1 : Int)] W fun e W' =>
      (e = .returned (.bool true) ∧ J (pre ++ [x]) W' ∧ True) ∨ (e = .returned (.bool false) ∧ Jx (pre ++ [x]) W'))
    (W : World) (hB : W.cell? ⟨B, 0, none⟩ = some (.pointer (some ⟨c, 0, none⟩))) (hD : W.cell? ⟨c, 0, none⟩ = some (.int .i64 m)) (h0 : J [] W) :
    CallsIn Fence.wide 8 Tryd.prog 48 #[.func (.yield l) #[] #[], .pointer (some ⟨B, 0, none⟩)] W fun e W' => (∃ v, e = .returned v) ∧
      ((∃ ys, ys = elems n n ∧ J ys W') ∨ (∃ pre, (∃ k, k ≤ n ∧ pre = elems n k) ∧ Jx pre W')) := by
  have h32 := hF.n32
  refine callsIn_of_wp Tryd.func48 rfl trivial ?_ rfl
  simp only [Tryd.ntmps48, List.size_toArray, List.length_cons, List.length_nil, Nat.reduceAdd, Nat.reduceSub, Array.replicate_succ, Array.replicate_zero, List.push_toArray, List.append_toArray, List.nil_append, List.cons_append]
  gi_wp2_with (refine ⟨trivial, ?_⟩; gi_at_call 43; refine (callsIn_wide.2 (size_any c m P n hF _ hD)).mono ?_; rintro e w' ⟨rfl, rfl⟩)
  gi_loopw [3, 6] (fun _ i wr => ∃ k : Nat, k ≤ n ∧ i = .int .i64 k ∧ J (elems n k) wr)
    (fun _ i _ => n - (intOf i).toNat)
  case atStart => exact ⟨0, Nat.zero_le _, rfl, h0⟩
  case round =>
    obtain ⟨k, hk, rfl, hJs⟩ := hrel
    by_cases hlt : k < n
    · obtain ⟨fn, tmps, assign, body, hy, hR⟩ := hY _ ⟨k, hlt⟩ wr hJs (by rw [elems_length k hk]; exact hlt)
      have HJ := Lib.hid (elems_succ (n := n) (k := k) hlt)
      have e1 : IntKind.u8.wrap (k : Int) = k := by rw [IntKind.wrap_u8']; omega
      dsimp only at hy
      gi_wp2
      refine hR.mono ?_
      rintro e W3 (⟨rfl, hJ3, hk3⟩ | ⟨rfl, hJx3⟩)
      · gi_wp2
        go_roundw
        case rel => exact ⟨k + 1, by omega, by go_num, by rw [HJ.out]; exact hJ3⟩
        case measure => simp [intOf]; omega
      · gi_wp2
        refine bodyPost_ret (results_none rfl _ _ _) rfl ?_
        exact ⟨⟨_, rfl⟩, .inr ⟨_, ⟨k + 1, by omega, HJ.out.symm⟩, hJx3⟩⟩
    · obtain rfl : k = n := by omega
      gi_wp2
      go_end0
      exact ⟨⟨_, rfl⟩, .inl ⟨_, rfl, hJs⟩⟩

theorem elements_stops (m P n : Nat) (hF : Fld m P n) (B c : Nat) (w : World) (hB : w.cell? ⟨B, 0, none⟩ = some (.pointer (some ⟨c, 0, none⟩))) (hlt : B < w.heap.size) (hD : w.cell? ⟨c, 0, none⟩ = some (.int .i64 m)) (hc : c < w.heap.size) :
    SeqStopsK Fence.wide 8 Tryd.prog 48 #[.pointer (some ⟨B, 0, none⟩)] (fun x : El n => #[.int .u8 (x.1 : Int)]) (fun _ _ => True) (fun ys => ys = elems n n) (fun pre => ∃ k, k ≤ n ∧ pre = elems n k) n w :=
  fun l J Jx W hW _ _ hY h0 => elements_yields m P n hF l B c J Jx hY W ((hW.cell (p := ⟨B, 0, none⟩) hlt).trans hB) ((hW.cell (p := ⟨c, 0, none⟩) hc).trans hD) h0

set_option maxHeartbeats 400000 in
theorem elements_any (v : Value) (w : World) (c : Nat) (hv : v = .pointer (some ⟨c, 0, none⟩)) :
    Calls Tryd.prog 32 #[.pointer (some ⟨c, 0, none⟩)] w fun e w' => e = .returned (.func (.func 48) #[] #[.pointer (some ⟨w.heap.size, 0, none⟩)]) ∧ w.alloc (.cells #[.pointer (some ⟨c, 0, none⟩)] 53) = w' := by
  have hmf : ∀ (fn : Fn) (first cap : Array Value) (w : World), (Instr.makeFunc fn first cap).run Tryd.prog w = .ok (.func fn first cap) w := fun _ _ _ _ => rfl
  go_enter Tryd.func32, Tryd.ntmps32
  go_wp2
  go_ret
  exact ⟨rfl, rfl⟩
end Go.Proofs.YtllojcndhkpfmaaDoor
namespace Go.Proofs.YtllojcndhkpfmaaDoor
open Go.RowKit
set_option linter.unusedVariables false

set_option maxHeartbeats 800000 in
theorem l01Square_any (m P n : Nat) (hF : Fld m P n) (a : Nat) (ha : a < n) (k : Nat) (hk : k ≤ 1000000) (w : World) :
    Calls Tryd.prog 28 #[.agg #[.int .i64 m, .int .i64 P], .int .i64 a, .int .i64 k] w fun e w' => e = .returned (.int .i64 (sq P a k)) ∧ Below w.heap.size w w' := by
  have HS := Lib.hid (sq_mod hF ha k)
  have hm1 := hF.m1
  have hm5 := hF.m5
  have hm0 : ¬ (m : Int) = 0 := by omega
  have hmod : k % m < m := Nat.mod_lt _ (by omega)
  have e0 : (k : Int) % (m : Int) = ((k % m : Nat) : Int) := by simp
  generalize k % m = r at HS hmod e0
  have E0 := Lib.hid e0
  clear e0
  go_enter Tryd.func28, Tryd.ntmps28
  go_wp2
  rw [E0.out]
  go_loopw [1, 2] (fun s i wr => ∃ j : Nat, j ≤ r ∧ i = .int .i64 ((r - j : Nat) : Int) ∧ s = .int .i64 (sq P a j) ∧ FAt w m P wr) (fun _ i _ => (intOf i).toNat)
  case atStart => exact ⟨0, Nat.zero_le _, rfl, rfl, FAt.start w m P 28⟩
  case round =>
    obtain ⟨j, hj, rfl, rfl, hA⟩ := hrel
    have z1 := hA.z; have c1 := hA.c0; have d1 := hA.c1
    obtain ⟨i, hi⟩ : ∃ i : Nat, r - j = i := ⟨_, rfl⟩
    have hlt := sq_lt hF ha j
    have hik : i ≤ r := by omega
    rw [hi]
    by_cases hlt0 : 0 < i
    · have HI := Lib.hid hi
      clear hi
      go_wp2_with fail
      refine (l01Mul_any _ _ _ hF _ _ hlt hlt _).mono ?_
      rintro e w2 ⟨rfl, hb⟩
      have h2 := hA.next hb
      clear hb
      go_wp2
      go_roundw
      case rel => exact ⟨j + 1, by have := HI.out; omega, by have := HI.out; rw [show r - (j + 1) = i - 1 by omega]; go_num, rfl, h2⟩
      case measure => simp [intOf]; omega
    · have HI := Lib.hid hi
      clear hi
      go_wp2
      go_ret
      exact ⟨ret_int (by have := HI.out; rw [← HS.out, show j = r by omega]), hA.b⟩

end Go.Proofs.YtllojcndhkpfmaaDoor
namespace Go.Proofs.YtllojcndhkpfmaaDoor
open Go.RowKit Go.Joins Go.Shelf
attribute [local go_sem] Oper.semAt_some
set_option linter.unusedVariables false

/-- An array of thirty-two elements lies at the block q. -/
structure UAt (W : World) (q : Nat) (f : Nat → Nat) : Prop where
  cell : ∀ j, j < 32 → W.cell? ⟨q, j, none⟩ = some (.int .u8 (f j : Nat))
  free : ∀ j, j < 32 → W.frozen? ⟨q, j, none⟩ = false
  lt : q < W.heap.size
theorem UAt.at {W W' : World} {q : Nat} {f : Nat → Nat} (h : UAt W q f) (hg : W'.heap[q]? = W.heap[q]?) (hs : W.heap.size ≤ W'.heap.size) : UAt W' q f :=
  ⟨fun j hj => (World.cell?_of_block (w := W) (a := ⟨q, j, none⟩) hg).trans (h.cell j hj), fun j hj => (World.frozen?_of_block (w := W) (a := ⟨q, j, none⟩) hg).trans (h.free j hj), Nat.lt_of_lt_of_le h.lt hs⟩
theorem UAt.below {W W' : World} {q : Nat} {f : Nat → Nat} (h : UAt W q f) (hb : Below W.heap.size W W') : UAt W' q f := h.at (hb.block q h.lt) hb.size
theorem UAt.set {W : World} {q : Nat} {f : Nat → Nat} (h : UAt W q f) (i : Nat) (hi : i < 32) (x : Nat) : UAt (W.setCell ⟨q, i, none⟩ (.int .u8 x)) q (put f i x) := by
  refine ⟨fun j hj => ?_, fun j hj => by rw [World.frozen?_setCell]; exact h.free j hj, by rw [show (W.setCell ⟨q, i, none⟩ (.int .u8 x)).heap.size = W.heap.size from Array.size_modify ..]; exact h.lt⟩
  simp only [put]
  by_cases e : j = i
  · subst e
    rw [if_pos rfl]
    exact World.cell?_setCell_same' _ _ _ (by rw [h.cell j hj]; rfl)
  · rw [if_neg e, World.cell?_setCell_other _ ⟨q, i, none⟩ ⟨q, j, none⟩ _ (fun h => e (by injection h with _ h _; omega))]
    exact h.cell j hj
theorem zeros_get {j : Nat} (h : j < 32) : (#[.int .u8 0, .int .u8 0, .int .u8 0, .int .u8 0, .int .u8 0, .int .u8 0, .int .u8 0, .int .u8 0, .int .u8 0, .int .u8 0, .int .u8 0, .int .u8 0, .int .u8 0, .int .u8 0, .int .u8 0, .int .u8 0, .int .u8 0, .int .u8 0, .int .u8 0, .int .u8 0, .int .u8 0, .int .u8 0, .int .u8 0, .int .u8 0, .int .u8 0, .int .u8 0, .int .u8 0, .int .u8 0, .int .u8 0, .int .u8 0, .int .u8 0, .int .u8 0] : Array Value)[j]? = some (.int .u8 0) := by
  have e : (#[.int .u8 0, .int .u8 0, .int .u8 0, .int .u8 0, .int .u8 0, .int .u8 0, .int .u8 0, .int .u8 0, .int .u8 0, .int .u8 0, .int .u8 0, .int .u8 0, .int .u8 0, .int .u8 0, .int .u8 0, .int .u8 0, .int .u8 0, .int .u8 0, .int .u8 0, .int .u8 0, .int .u8 0, .int .u8 0, .int .u8 0, .int .u8 0, .int .u8 0, .int .u8 0, .int .u8 0, .int .u8 0, .int .u8 0, .int .u8 0, .int .u8 0, .int .u8 0] : Array Value) = Array.replicate 32 (.int .u8 0) := rfl
  rw [e, Array.getElem?_replicate, if_pos h]
theorem UAt.start (W : World) (T : TypeId) : UAt (W.alloc (.cells #[.int .u8 0, .int .u8 0, .int .u8 0, .int .u8 0, .int .u8 0, .int .u8 0, .int .u8 0, .int .u8 0, .int .u8 0, .int .u8 0, .int .u8 0, .int .u8 0, .int .u8 0, .int .u8 0, .int .u8 0, .int .u8 0, .int .u8 0, .int .u8 0, .int .u8 0, .int .u8 0, .int .u8 0, .int .u8 0, .int .u8 0, .int .u8 0, .int .u8 0, .int .u8 0, .int .u8 0, .int .u8 0, .int .u8 0, .int .u8 0, .int .u8 0, .int .u8 0] T)) W.heap.size (fun _ => 0) := by
  refine ⟨fun j hj => ?_, fun j hj => ?_, by simp⟩
  · rw [World.cell?_alloc_at _ _ _ _ rfl]; exact zeros_get hj
  · rw [World.frozen?_alloc_at _ _ _ _ rfl]

/-- The squares of those elements that came up; and the two boxes. -/
structure SqI (P k b : Nat) (va vb : Value) (w : World) (n : Nat) (pre : List (El n)) (W : World) : Prop where
  arr : ∃ F, UAt W (b + 1 + 1) F ∧ ∀ x ∈ pre, F x.1 = sq P x.1 k
  b0 : W.cell? ⟨b, 0, none⟩ = some va
  b1 : W.cell? ⟨b + 1, 0, none⟩ = some vb
  bel : Below b w W
theorem sqI_own (P k b : Nat) (va vb : Value) (w : World) (n B : Nat) (hq : b + 1 + 1 < B) (hb : b ≤ w.heap.size) : OwnFrom B (SqI P k b va vb w n) := by
  rintro pre W W' row ⟨⟨F, hU, hF⟩, h0, h1, hB⟩ hg hr
  have hne : ∀ q, q < B → row ≠ some q := fun q hqB e => by have := (hr q e).1; omega
  have hlt := hU.lt
  exact ⟨⟨F, hU.at (hg.block _ hlt (fun e => hne _ hq e.symm)) hg.size, hF⟩, (World.cell?_of_block (w := W) (a := ⟨b, 0, none⟩) (hg.block b (by omega) (fun e => hne b (by omega) e.symm))).trans h0, (World.cell?_of_block (w := W) (a := ⟨b + 1, 0, none⟩) (hg.block (b + 1) (by omega) (fun e => hne (b + 1) (by omega) e.symm))).trans h1, hB.grown hg (Nat.le_trans hb hB.size) (fun k e => by have := (hr k e).1; omega)⟩
theorem keeps_set {B q i : Nat} (hq : q < B) (W : World) (v : Value) : KeepsFrom B W (W.setCell ⟨q, i, none⟩ v) :=
  ⟨by rw [show (W.setCell ⟨q, i, none⟩ v).heap.size = W.heap.size from Array.size_modify ..]; exact Nat.le_refl _, fun k o hB hk _ => (Below.heap_setCell W ⟨q, i, none⟩ v k (by show k ≠ q; omega)).trans hk⟩

set_option maxRecDepth 100000 in
set_option maxHeartbeats 4000000 in
theorem squarer_any (c m P n : Nat) (hF : Fld m P n) (k : Nat) (hk : k ≤ 1000) (w : World) (hC : Calc c m P n w) :
    Calls Tryd.prog 20 #[.pointer (some ⟨c, 0, none⟩), .int .i64 k] w fun e w' => ∃ q F, e = .returned (.func (.func 34) #[] #[.pointer (some ⟨q, 0, none⟩)]) ∧ Below w.heap.size w w' ∧ UAt w' q F ∧ ∀ x, x < n → F x = sq P x k := by
  have h32 := hF.n32
  have hcl := hC.lt
  have HC := Lib.hid hC
  have hmf : ∀ (fn : Fn) (first cap : Array Value) (w : World), (Instr.makeFunc fn first cap).run Tryd.prog w = .ok (.func fn first cap) w := fun _ _ _ _ => rfl
  refine (callsIn_wide (n := 9)).1 ?_
  refine callsIn_of_wp_marks Tryd.func20 rfl trivial ?_ rfl
  simp only [Tryd.ntmps20, List.size_toArray, List.length_cons, List.length_nil, Nat.reduceAdd, Nat.reduceSub, Array.replicate_succ, Array.replicate_zero, List.push_toArray, List.append_toArray, List.nil_append, List.cons_append]
  obtain ⟨W1, hW1⟩ : ∃ W1, (w.alloc (.cells #[.pointer (some ⟨c, 0, none⟩)] 53)).alloc (.cells #[.int .i64 k] 2) = W1 := ⟨_, rfl⟩
  have hs1 : W1.heap.size = w.heap.size + 1 + 1 := by rw [← hW1]; simp
  have hb1 : Below w.heap.size w W1 := by rw [← hW1]; exact (below_alloc1 w _).alloc (by simp) _
  have hc0 : W1.cell? ⟨w.heap.size, 0, none⟩ = some (.pointer (some ⟨c, 0, none⟩)) := by rw [← hW1]; exact cell_alloc_l _ (cell_new_l w _ _).1
  have hc1 : W1.cell? ⟨w.heap.size + 1, 0, none⟩ = some (.int .i64 k) := by
    have := (cell_new_l (w.alloc (.cells #[.pointer (some ⟨c, 0, none⟩)] 53)) (.int .i64 k) 2).1
    rw [World.size_alloc] at this
    rw [← hW1]; exact this
  have hU2 := UAt.start W1 67
  have hb2 := below_alloc1 W1 (.cells #[.int .u8 0, .int .u8 0, .int .u8 0, .int .u8 0, .int .u8 0, .int .u8 0, .int .u8 0, .int .u8 0, .int .u8 0, .int .u8 0, .int .u8 0, .int .u8 0, .int .u8 0, .int .u8 0, .int .u8 0, .int .u8 0, .int .u8 0, .int .u8 0, .int .u8 0, .int .u8 0, .int .u8 0, .int .u8 0, .int .u8 0, .int .u8 0, .int .u8 0, .int .u8 0, .int .u8 0, .int .u8 0, .int .u8 0, .int .u8 0, .int .u8 0, .int .u8 0] 67)
  have HU2 := Lib.hid hU2
  have HB1 := Lib.hid hb1
  have HB2 := Lib.hid hb2
  have HS1 := Lib.hid hs1
  gi_wp2_with fail
  refine ⟨trivial, ?_⟩
  refine (callsIn_wide.2 (elements_any (.pointer (some ⟨c, 0, none⟩)) _ c rfl)).mono ?_
  rintro e w' ⟨rfl, rfl⟩
  clear hU2 hb1 hb2 hW1 hs1
  obtain ⟨W2, hW2⟩ : ∃ W2, W1.alloc (.cells #[.int .u8 0, .int .u8 0, .int .u8 0, .int .u8 0, .int .u8 0, .int .u8 0, .int .u8 0, .int .u8 0, .int .u8 0, .int .u8 0, .int .u8 0, .int .u8 0, .int .u8 0, .int .u8 0, .int .u8 0, .int .u8 0, .int .u8 0, .int .u8 0, .int .u8 0, .int .u8 0, .int .u8 0, .int .u8 0, .int .u8 0, .int .u8 0, .int .u8 0, .int .u8 0, .int .u8 0, .int .u8 0, .int .u8 0, .int .u8 0, .int .u8 0, .int .u8 0] 67) = W2 := ⟨_, rfl⟩
  have hs2 : W2.heap.size = W1.heap.size + 1 := by rw [← hW2]; simp
  have hB2 := HB2.out
  have hU2 := HU2.out
  rw [hW2] at hB2 hU2
  rw [hW2]
  have hB02 : Below w.heap.size w W2 := HB1.out.trans (hB2.mono HB1.out.size)
  have c3 := cell_new_l W2 (.pointer (some ⟨c, 0, none⟩)) 53
  have hB23 := below_alloc1 W2 (.cells #[.pointer (some ⟨c, 0, none⟩)] 53)
  have hC2 := HC.out.below hcl (hB02.mono (Nat.le_refl _))
  have hd2 := HB1.out.size
  have hlt2 : c < W2.heap.size := hC2.lt
  clear hW2
  rw [HS1.out] at hU2
  have hs2' : w.heap.size + 1 + 1 + 1 = W2.heap.size := by have := HS1.out; omega
  have hB0 := (hB2.cell (p := ⟨w.heap.size, 0, none⟩) (by have := HS1.out; show w.heap.size < W1.heap.size; omega)).trans hc0
  have hB1 := (hB2.cell (p := ⟨w.heap.size + 1, 0, none⟩) (by have := HS1.out; show w.heap.size + 1 < W1.heap.size; omega)).trans hc1
  have HS2 := Lib.hid hs2'
  clear hs2 hs2' hc0 hc1 hB2
  gi_wp2
  refine wpIn_rangeFunc_ownG (α := El n) rfl (by omega) (gf := 48) (lb := #[.pointer (some ⟨W2.heap.size, 0, none⟩)]) rfl trivial (enters_of Tryd.func48 (by kernel_rfl) rfl)
    (elements_stops m P n hF W2.heap.size c _ c3.1 (by simp) ((hB23.cell (p := ⟨c, 0, none⟩) hlt2).trans hC2.deg) (by simp; omega)) (fun _ _ => trivial) (fun _ _ _ _ _ _ _ _ => trivial) (Below.refl _ _) (fun _ => rfl)
    (SqI P k w.heap.size (.pointer (some ⟨c, 0, none⟩)) (.int .i64 k) w n)
    (fun _ _ _ => False)
    (sqI_own P k w.heap.size _ _ w n _ (by have := HS2.out; simp; omega) (Nat.le_refl _))
    (fun _ _ _ _ _ hs _ _ => hs)
    ⟨⟨fun _ => 0, hU2.below hB23, fun x hx => by cases hx⟩, (hB23.cell (p := ⟨w.heap.size, 0, none⟩) (by have := HS2.out; show w.heap.size < W2.heap.size; omega)).trans hB0, (hB23.cell (p := ⟨w.heap.size + 1, 0, none⟩) (by have := HS2.out; show w.heap.size + 1 < W2.heap.size; omega)).trans hB1, hB02.trans (hB23.mono hB02.size)⟩
    (fun x => { tmps := #[.pointer (some ⟨c, 0, none⟩), .int .i64 k, .pointer (some ⟨w.heap.size, 0, none⟩), .pointer (some ⟨w.heap.size + 1, 0, none⟩), .nilFunc, .pointer (some ⟨w.heap.size + 1 + 1, 0, none⟩), .int .u8 x.1, .pointer (some ⟨c, 0, none⟩), .func (.func 48) #[] #[.pointer (some ⟨W2.heap.size, 0, none⟩)], .int .u8 x.1, undef, undef, undef, undef, undef, undef, undef], defers := [] }) ?assign ?body ?done ?stop
  case assign =>
    intro l x W K hK
    gi_wp2
    exact hK
  case body =>
    rintro l pre x W ⟨⟨F, hU, hFx⟩, h0, h1, hB⟩ hlt
    have hxn := x.2
    have hcell := hU.cell x.1 (by omega)
    have hfree := hU.free x.1 (by omega)
    have hV := squared_any c m P n hF x.1 x.2 k (by omega) W (HC.out.below hcl (hB.mono (Nat.le_refl _)))
    have hx32 : (x.1 : Int) < 32 := by omega
    obtain ⟨y, hy⟩ : ∃ y, sq P x.1 k = y := ⟨_, rfl⟩
    rw [hy] at hV
    have HV := Lib.hid hV
    have HU := Lib.hid hU
    have HB := Lib.hid hB
    have HY := Lib.hid hy
    have HFX := Lib.hid hFx
    clear hV hU hB hy hFx
    gi_wp2_with (refine ⟨trivial, ?_⟩; gi_at_call 33; refine (CallsIn.inRound l (callsIn_wide.2 HV.out)).mono ?_; rintro e w' ⟨rfl, rfl⟩)
    have h2 := HS2.out
    refine ⟨keeps_set (by simp; omega) _ _, trivial, ⟨_, HU.out.set x.1 (by omega) y, ?_⟩, ?_, ?_, HB.out.setCell (p := ⟨w.heap.size + 1 + 1, x.1, none⟩) (by show w.heap.size ≤ w.heap.size + 1 + 1; omega) _⟩
    · intro z hz
      simp only [put]
      by_cases e : z.1 = x.1
      · rw [if_pos e, e, HY.out]
      · rw [if_neg e]
        rcases List.mem_append.1 hz with h | h
        · exact HFX.out z h
        · have : z = x := by simpa using h
          exact absurd (by rw [this]) e
    · rw [World.cell?_setCell_other _ ⟨w.heap.size + 1 + 1, x.1, none⟩ ⟨w.heap.size, 0, none⟩ _ (fun e => by injection e with e; omega)]; exact h0
    · rw [World.cell?_setCell_other _ ⟨w.heap.size + 1 + 1, x.1, none⟩ ⟨w.heap.size + 1, 0, none⟩ _ (fun e => by injection e with e; omega)]; exact h1
  case done =>
    rintro D ys W hD rfl ⟨⟨F, hU, hFx⟩, h0, h1, hB⟩ hK
    have h2 := HS2.out
    have hBK := hB.trans (belowK_b (w := w) (Nat.le_refl _) W D _ (.deferred none) (by simp at hD; omega) hK rfl rfl)
    gi_wp2
    refine ⟨by simp, .inl ⟨_, _, rfl, run_takeDeferred hK, ?_⟩⟩
    exact ⟨_, results_tmp rfl _ _ _, _, F, rfl, hBK, hU.at (World.putObj_heap_other (by simp at hD; omega)) (by simp), fun x hx => hFx ⟨x, hx⟩ (elems_mem n (Nat.le_refl _) ⟨x, hx⟩ hx)⟩
  case stop =>
    rintro D cc pre W _ _ h _
    exact h.elim
end Go.Proofs.YtllojcndhkpfmaaDoor
namespace Go.Proofs.YtllojcndhkpfmaaDoor
open Go.RowKit Go.Joins
set_option linter.unusedVariables false

/-- The squares of the elements of a word. -/
def sqW (P : Nat) (L : List Nat) (s k : Nat) : List Nat := lst (fun j => sq P (nth L j) s) k
theorem sqW_len (P : Nat) (L : List Nat) (s k : Nat) : (sqW P L s k).length = k := lst_length _ _
theorem sqW_succ (P : Nat) (L : List Nat) (s k : Nat) : sqW P L s (k + 1) = sqW P L s k ++ [sq P (nth L k) s] := by simp [sqW, lst, List.range_succ]
theorem OL.startS {W : World} {B : Nat} (hB : B ≤ W.heap.size) : OL (W.alloc (.cells #[] 2)) B (some ⟨W.heap.size, 0, none⟩) 0 0 [] := ⟨rfl, World.ownsRow_made W #[] 0 hB (by unfold maxLen; omega) (by simp)⟩
set_option maxRecDepth 100000 in
set_option maxHeartbeats 3200000 in
theorem l05Squared_any (m P n : Nat) (hF : Fld m P n) (b len cap : Nat) (zs : List Int) (hi : allIn n zs = true) (hlen : len ≤ 1000) (s : Nat) (hs : s ≤ 1000) (w : World) (hM : Mt w b len zs) :
    Calls Tryd.prog 14 #[.agg #[.int .i64 m, .int .i64 P], .slice (some ⟨b, 0, none⟩) len cap, .int .i64 s] w fun e w' => ∃ D cd, e = .returned (.slice D len cd) ∧ Below w.heap.size w w' ∧ OL w' w.heap.size D len cd (sqW P (nats zs) s len) := by
  obtain ⟨i0, hi0, hz0, hz1', hz2⟩ := info_parts Tryd.infoI
  have h32 := hF.n32
  have hn0 : 0 < n := by have := hF.n2; omega
  have HP := Lib.hid (nats_lt hi hn0)
  have HI := Lib.hid hi
  have HM := Lib.hid hM
  have hA0 := FAt.start w m P 28
  have HA0 := Lib.hid (hA0.alloc (.cells #[] 2))
  have HO0 : Hid (OL ((w.alloc (.cells #[.int .i64 m, .int .i64 P] 28)).alloc (.cells #[] 2)) (w.heap.size + 1) (some ⟨w.heap.size + 1, 0, none⟩) 0 0 []) := Lib.hid (by have := OL.startS (W := w.alloc (.cells #[.int .i64 m, .int .i64 P] 28)) (B := w.heap.size + 1) (by simp); simpa using this)
  clear hM hi hA0
  go_enter Tryd.func14, Tryd.ntmps14
  go_wp2_with fail
  go_loopw [7, 8] (fun v i wr => ∃ (j cp : Nat) (D : Option Addr), j ≤ len ∧ i = .int .i64 j ∧ v = .slice D j cp ∧ FAt w m P wr ∧ OL wr (w.heap.size + 1) D j cp (sqW P (nats zs) s j)) (fun _ i _ => len - (intOf i).toNat)
  case atStart => exact ⟨0, 0, _, Nat.zero_le _, rfl, rfl, HA0.out, HO0.out⟩
  case round =>
    obtain ⟨j, cp, D, hj, rfl, rfl, hA, hO⟩ := hrel
    clear HA0 HO0
    have z1 := hA.z; have c0 := hA.c0; have c1 := hA.c1
    by_cases hlt : j < len
    · obtain ⟨g1, e1, hg1, hcr1⟩ := ((HM.out.below hA.b).rl HI.out).row (by omega)
      injection e1 with e1; injection e1 with e1; subst e1
      have hrow := hcr1 j hlt
      clear hcr1
      have hx := HP.out j
      have hts := sqW_succ P (nats zs) s j
      generalize nth (nats zs) j = x at hrow hx hts
      have hsl := sq_lt hF hx s
      have HSX := Lib.hid (fun W => l01Square_any m P n hF x hx s (by omega) W)
      generalize sq P x s = t at hsl hts HSX
      have HTS := Lib.hid hts
      have HOD := Lib.hid (show OL wr.drew (w.heap.size + 1) D j cp (sqW P (nats zs) s j) from hO.drewN 1)
      have HAD := Lib.hid hA.drew
      have hz1w : w.heap.size + 1 ≤ wr.drew.heap.size := z1
      clear hts hA hO
      go_wp2_with fail
      go_region_law (first | (refine step_append_own rfl (.tmp 16) (.tmp 24) 24 rfl (w.heap.size + 1) 2 i0 (.int .i64 0) 1 8 Tryd.underlying24 hi0 hz0 hz1' hz2 rfl (by decide) (.slice D j cp) j _ (by simp [Act.eval]) (HO1.out.own.alloc _) ⟨w1.heap.size, 0, none⟩ 1 1 [.int .i64 t] (by simp [Act.eval]) rfl (one_new w1 _ _) (one_one _ _) (by unfold maxLen; omega) (by omega) (by simp; omega) ?_; intro v' w2 hown' hgrow; have HG := Lib.hid (And.intro hown' hgrow); clear hown' hgrow) | (go_simp; go_wp2_with (go_at_call 28; refine (HSX.out _).mono ?_; rintro e w1 ⟨rfl, hbm⟩; have HO1 := Lib.hid (HOD.out.below hbm); have HA1 := Lib.hid (HAD.out.next hbm); have z2 := HA1.out.z; clear hbm)))
      all_goals
        obtain ⟨hown', hgrow⟩ := HG.out
        have hb4 : Below (w.heap.size + 1) w1 w2 := ((Below.refl _ w1).alloc (by omega) _).grown hgrow (by simp; omega) (fun g hg => (HO1.out.own.lt g hg).1)
        have HA4 := Lib.hid (show FAt w m P w2 from ⟨HA1.out.b.trans (hb4.mono (by omega)), Nat.le_trans HA1.out.z hb4.size, (hb4.cell (p := ⟨w.heap.size, 0, none⟩) (by simp)).trans HA1.out.c0, (hb4.cell (p := ⟨w.heap.size, 1, none⟩) (by simp)).trans HA1.out.c1⟩)
        obtain ⟨A4, cp4, hv4, hO4⟩ := OL.of (n := j + 1) (p := sqW P (nats zs) s (j + 1)) (by rw [HTS.out, ints_append, List.map_append]; exact hown')
        subst hv4
        have HO4 := Lib.hid hO4
        clear hown' hgrow hO4 hb4 HG z2 hz1w c0 c1 hrow z1
        go_wp2_with fail
        go_roundw
        case rel => exact ⟨j + 1, cp4, A4, by omega, by go_num, rfl, HA4.out, HO4.out⟩
        case measure => simp [intOf]; omega
    · obtain rfl : j = len := by omega
      have HO := Lib.hid hO
      have HB := Lib.hid hA.b
      clear hO hA c0 c1
      go_wp2_with fail
      go_ret
      exact ⟨D, cp, rfl, HB.out, HO.out.less (by omega)⟩

set_option maxRecDepth 100000 in
set_option maxHeartbeats 1600000 in
theorem squarer1_any (q : Nat) (F : Nat → Nat) (n : Nat) (hn : n ≤ 32) (hFl : ∀ x, x < n → F x < n) (A : Option Addr) (k cap : Nat) (L : List Nat) (hL : ∀ j, nth L j < n) (hk : k ≤ 1048576) (w : World) (hU : UAt w q F) (hR : Rl w .u8 A k L) :
    Calls Tryd.prog 34 #[.slice A k cap, .pointer (some ⟨q, 0, none⟩)] w fun e w' => ∃ b, e = .returned (.slice (some ⟨b, 0, none⟩) k k) ∧ Below w.heap.size w w' ∧ Rl w' .u8 (some ⟨b, 0, none⟩) k (lst (fun j => F (nth L j)) k) := by
  obtain ⟨i0, hi, hz0, hz1, hz2⟩ := info_parts Tryd.infoE
  have HL := Lib.hid hL
  have HR := Lib.hid hR
  have HU := Lib.hid hU
  have HFL := Lib.hid hFl
  clear hR hU hL hFl
  go_enter Tryd.func34, Tryd.ntmps34
  go_wp2_with (at_make; refine wpList_make_full _ rfl _ _ 50 rfl w.heap.size 66 i0 (.int .u8 0) 1 Tryd.underlying50 hi hz0 hz1 .i64 .i64 _ _ k rfl rfl rfl rfl (by rw [hz2]; omega) (by unfold maxLen; omega) (Nat.le_refl _) ?_; intro w1 hown hgrow)
  have hb1 : Below w.heap.size w w1 := (Below.refl _ w).grown hgrow (Nat.le_refl _) (fun k h => by cases h)
  have HW := Lib.hid (Wr.made (K := .u8) hown)
  have HB := Lib.hid hb1
  clear hown hgrow hz0 hz1 hz2 hi hb1
  go_loopw [5, 6, 12] (fun _ _ i wr => ∃ (j : Nat) (G : Nat → Nat), j ≤ k ∧ i = .int .i64 j ∧ Below w.heap.size w wr ∧ Wr wr .u8 w.heap.size k G ∧ Hid (∀ i, i < j → G i = F (nth L i))) (fun _ _ i _ => k - (intOf i).toNat)
  case atStart => exact ⟨0, _, Nat.zero_le _, rfl, HB.out, HW.out, Lib.hid (fun j hj => by omega)⟩
  case round =>
    obtain ⟨j, G, hj, rfl, hb, hW, HI⟩ := hrel
    clear HW HB
    by_cases hlt : j < k
    · obtain ⟨g, rfl, hg, hc⟩ := (HR.out.below hb).row (by omega)
      have hck := hc j hlt
      clear hc
      have hx := HL.out j
      obtain ⟨x, hxe⟩ : ∃ x, nth L j = x := ⟨_, rfl⟩
      rw [hxe] at hck hx
      have HX := Lib.hid hxe
      clear hxe
      have hcu := (HU.out.below hb).cell x (by omega)
      have hx32 : (x : Int) < 32 := by omega
      have hcw := hW.cell j hlt
      have hfw := hW.free j
      have HB2 := Lib.hid hb
      have HW2 := Lib.hid hW
      clear hb hW
      go_wp2_with fail
      go_roundw
      case rel => exact ⟨j + 1, _, by omega, by go_num, below_set HB2.out _ _ (Nat.le_refl _) _, HW2.out.set j hlt _, Lib.hid (fun i hi => by
        simp only [put]
        by_cases e : i = j
        · subst e; rw [if_pos rfl, HX.out]
        · rw [if_neg e]; exact HI.out i (by omega))⟩
      case measure => simp [intOf]; omega
    · obtain rfl : j = k := by omega
      have HB2 := Lib.hid hb
      have HW2 := Lib.hid hW
      clear hb hW
      go_wp2
      go_ret
      refine ⟨_, rfl, HB2.out, ?_⟩
      have h1 := HW2.out.rl
      rwa [show lst G j = lst (fun j => F (nth L j)) j from lst_congr fun i hi => HI.out i hi] at h1

end Go.Proofs.YtllojcndhkpfmaaDoor
namespace Go.Proofs.YtllojcndhkpfmaaDoor
open Go.RowKit
set_option linter.unusedVariables false


set_option maxHeartbeats 400000 in
theorem isTimes_yes (k : Int) (h1 : 0 ≤ k) (h2 : k ≤ 1000) (w : World) :
    Calls Tryd.prog 18 #[.int .i64 k] w fun e w' => e = .returned (.bool true) ∧ w = w' := by
  go_enter Tryd.func18, Tryd.ntmps18
  go_wp2
  go_ret
  exact ⟨ret_bool (by first | rfl | (simp; done) | (simp; omega)), rfl⟩
set_option maxHeartbeats 400000 in
theorem isTimes_no (k : Int) (h : k < 0 ∨ 1000 < k) (w : World) :
    Calls Tryd.prog 18 #[.int .i64 k] w fun e w' => e = .returned (.bool false) ∧ w = w' := by
  by_cases h1 : 0 ≤ k
  · have h2 : 1000 < k := by omega
    go_enter Tryd.func18, Tryd.ntmps18
    go_wp2
    go_ret
    exact ⟨ret_bool (by first | rfl | (simp; done) | (simp; omega)), rfl⟩
  · have h2 : k < 0 := by omega
    go_enter Tryd.func18, Tryd.ntmps18
    go_wp2
    go_ret
    exact ⟨ret_bool (by first | rfl | (simp; done) | (simp; omega)), rfl⟩

end Go.Proofs.YtllojcndhkpfmaaDoor
namespace Go.Proofs.YtllojcndhkpfmaaDoor
open Go.RowKit Go.Joins
set_option linter.unusedVariables false

theorem gab_results {fn : Func} {p u : Tmp} (h : fn.results = #[.cell p 30, .tmp u]) (tmps : Array Value) {W : World} {q : Nat} {a b c d : Value}
    (hp : tmps.getD p undef = .pointer (some ⟨q, 0, none⟩)) (hG : Box4 W q a b c d) : (results fn tmps).run Tryd.prog W = .ok (.tuple #[.agg #[a, b, c, d], tmps.getD u undef]) W := by
  rw [results_cell_tmp h, hp]
  simp [asAddr, gab_load hG, Result.andThen]
abbrev four (W : World) (q : Nat) (a b c d : Value) : World := (((W.setCell ⟨q, 0, none⟩ a).setCell ⟨q, 1, none⟩ b).setCell ⟨q, 2, none⟩ c).setCell ⟨q, 3, none⟩ d
theorem FB.four {W : World} {q : Nat} {v0 v1 v2 v3 : Value} (h : FB W q [v0, v1, v2, v3]) (a b c d : Value) : Box4 (four W q a b c d) q a b c d :=
  FB.box ((((h.set 0 (by simp) a).set 1 (by simp) b).set 2 (by simp) c).set 3 (by simp) d)
theorem below_four {w W : World} {B q : Nat} (h : Below B w W) (hq : B ≤ q) (a b c d : Value) : Below B w (four W q a b c d) :=
  (((h.setCell (p := ⟨q, 0, none⟩) hq a).setCell (p := ⟨q, 1, none⟩) hq b).setCell (p := ⟨q, 2, none⟩) hq c).setCell (p := ⟨q, 3, none⟩) hq d
theorem Mt.four {W : World} {g n q : Nat} {xs : List Int} (h : Mt W g n xs) (hq : g ≠ q) (a b c d : Value) : Mt (four W q a b c d) g n xs :=
  (((h.setCell (p := ⟨q, 0, none⟩) hq a).setCell (p := ⟨q, 1, none⟩) hq b).setCell (p := ⟨q, 2, none⟩) hq c).setCell (p := ⟨q, 3, none⟩) hq d
theorem OL.mtX {W : World} {B : Nat} {A : Option Addr} {n cap : Nat} {p : List Nat} (h : OL W B A n cap p) (h0 : 0 < n) (hn : n ≤ 1048576) : ∃ g, A = some ⟨g, 0, none⟩ ∧ B ≤ g ∧ Mt W g n (ints p) := by
  obtain ⟨g, e, hB, hg, hc, hf⟩ := h.row h0
  exact ⟨g, e, hB, by rw [ints_length]; exact h.len, hn, hg, fun j hj => by rw [hc j hj, ints_get], hf⟩
theorem Wr.mtX {W : World} {g n k : Nat} {f : Nat → Nat} (h : Wr W .i64 g n f) (hk : k ≤ n) (hn : k ≤ 1048576) : Mt W g k (ints (lst f k)) :=
  ⟨by rw [ints_length, lst_length], hn, h.lt, fun j hj => by rw [h.cell j (by omega), ints_get, lst_nth f hj], h.free⟩
abbrev POSTG (w : World) (gd gp : Int) (xs : List Int) (gk c : Int) : Ending → World → Prop := fun e w' => ∃ v, e = .returned (.tuple #[.agg (gabC gd gp v gk), .int .i64 c]) ∧ Below w.heap.size w w' ∧ Res w' w.heap.size w'.heap.size v xs

end Go.Proofs.YtllojcndhkpfmaaDoor
namespace Go.Proofs.YtllojcndhkpfmaaDoor
open Go.RowKit Go.Joins
set_option linter.unusedVariables false

def fSquareGabidulin (d p : Int) (zs : List Int) (kd s : Int) : Int × Int × List Int × Int × Int :=
  if gabF d p zs kd = false then (0, 0, [], 0, 1) else if 0 ≤ s ∧ s ≤ 1000 then (d, p, ints (sqW p.toNat (nats zs) s.toNat zs.length), kd, 0) else (0, 0, [], 0, 2)
theorem fSG_A {d p kd s : Int} {zs : List Int} (h : gabF d p zs kd = false) : fSquareGabidulin d p zs kd s = (0, 0, [], 0, 1) := by rw [fSquareGabidulin, if_pos h]
theorem fSG_B {d p kd s : Int} {zs : List Int} (h : gabF d p zs kd = true) (hs : ¬ (0 ≤ s ∧ s ≤ 1000)) : fSquareGabidulin d p zs kd s = (0, 0, [], 0, 2) := by rw [fSquareGabidulin, if_neg (by rw [h]; simp), if_neg hs]
theorem fSG_C {m P n : Nat} (hF : Fld m P n) {kd : Int} {s : Nat} {zs : List Int} (h : gabF m P zs kd = true) (hs : s ≤ 1000) : fSquareGabidulin m P zs kd s = ((m : Int), (P : Int), ints (sqW P (nats zs) s zs.length), kd, 0) := by
  rw [fSquareGabidulin, if_neg (by rw [h]; simp), if_pos (by omega), Int.toNat_natCast, Int.toNat_natCast]

theorem cell_four (W : World) (q : Nat) (a b c d : Value) (p : Addr) (hp : q ≠ p.block) : (four W q a b c d).cell? p = W.cell? p := by
  have h : ∀ i, (⟨q, i, none⟩ : Addr) ≠ p := fun i e => hp (by rw [← e])
  rw [World.cell?_setCell_other _ _ _ _ (h 3), World.cell?_setCell_other _ _ _ _ (h 2), World.cell?_setCell_other _ _ _ _ (h 1), World.cell?_setCell_other _ _ _ _ (h 0)]
/-- The memory at the start: the code's copy and the result's room. -/
theorem sg_start (w : World) (d p kd : Int) (v : Value) (W : World) (hW : (w.alloc (.cells (gabC d p v kd) 30)).alloc (.cells (gabC 0 0 (.slice none 0 0) 0) 30) = W) : FB W (w.heap.size + 1) [.int .i64 0, .int .i64 0, .slice none 0 0, .int .i64 0] ∧ G4 w d p v kd W := by
  have h := FB.start (w.alloc (.cells (gabC d p v kd) 30)) [.int .i64 0, .int .i64 0, .slice none 0 0, .int .i64 0] 30
  rw [World.size_alloc] at h
  subst hW
  exact ⟨h, (G4.start w d p v kd 30).next (below_alloc1 _ _)⟩

end Go.Proofs.YtllojcndhkpfmaaDoor
