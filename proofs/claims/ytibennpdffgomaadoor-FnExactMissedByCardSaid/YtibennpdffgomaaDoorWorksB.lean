/- A gathering before all deeds: the program's worksFor, at a good one. -/
import Derived.Test.YtibennpdffgomaaDoorWorks
namespace Go.Proofs.YtibennpdffgomaaDoor
open Go.RowKit Go.Joins Go.ChangeShapes Go.WideShapes Go.Deep
set_option linter.unusedVariables false
set_option linter.unusedSimpArgs false

theorem Tryd.infoK : (Tryd.prog.info? 168).map (fun i => (i.zero, i.size, i.bytes)) = some (some (.agg #[.int .i64 0, .int .u32 0, .int .u32 0, .int .u32 0, .int .u32 0, .int .u32 0, .int .u32 0, .int .u32 0, .int .u32 0, .int .u32 0, .int .u32 0, .int .i64 0, .int .u32 0, .int .u32 0, .int .u32 0, .int .u32 0, .int .u32 0, .int .u32 0, .int .u32 0, .int .u32 0, .int .u32 0, .int .u32 0]), 22, 96) := by kernel_rfl
theorem made_k (N : Nat) (h1 : 1 ≤ N) (h2 : N ≤ 7) (j : Nat) (hj : j < 22) : (madeCells #[.int .i64 0, .int .u32 0, .int .u32 0, .int .u32 0, .int .u32 0, .int .u32 0, .int .u32 0, .int .u32 0, .int .u32 0, .int .u32 0, .int .u32 0, .int .i64 0, .int .u32 0, .int .u32 0, .int .u32 0, .int .u32 0, .int .u32 0, .int .u32 0, .int .u32 0, .int .u32 0, .int .u32 0, .int .u32 0] (N * 22))[j]? = (#[.int .i64 0, .int .u32 0, .int .u32 0, .int .u32 0, .int .u32 0, .int .u32 0, .int .u32 0, .int .u32 0, .int .u32 0, .int .u32 0, .int .u32 0, .int .i64 0, .int .u32 0, .int .u32 0, .int .u32 0, .int .u32 0, .int .u32 0, .int .u32 0, .int .u32 0, .int .u32 0, .int .u32 0, .int .u32 0] : Array Value)[j]? := by
  have h : j < N * 22 := by omega
  rw [madeCells, Array.getElem?_map, Array.getElem?_range, if_pos h]
  simp only [Option.map_some]
  have e : j % (#[.int .i64 0, .int .u32 0, .int .u32 0, .int .u32 0, .int .u32 0, .int .u32 0, .int .u32 0, .int .u32 0, .int .u32 0, .int .u32 0, .int .u32 0, .int .i64 0, .int .u32 0, .int .u32 0, .int .u32 0, .int .u32 0, .int .u32 0, .int .u32 0, .int .u32 0, .int .u32 0, .int .u32 0, .int .u32 0] : Array Value).size = j := Nat.mod_eq_of_lt (by simpa using hj)
  rw [e]
  clear h e
  match j, hj with
  | 0, _ => rfl
  | 1, _ => rfl
  | 2, _ => rfl
  | 3, _ => rfl
  | 4, _ => rfl
  | 5, _ => rfl
  | 6, _ => rfl
  | 7, _ => rfl
  | 8, _ => rfl
  | 9, _ => rfl
  | 10, _ => rfl
  | 11, _ => rfl
  | 12, _ => rfl
  | 13, _ => rfl
  | 14, _ => rfl
  | 15, _ => rfl
  | 16, _ => rfl
  | 17, _ => rfl
  | 18, _ => rfl
  | 19, _ => rfl
  | 20, _ => rfl
  | 21, _ => rfl
  | j + 22, hj => omega
theorem pk_eq : ∀ P, P < 5 → ∀ i, i < P → ∀ x, x < 64 → 2 ^ i ^^^ (x * 2 ^ P) = 2 ^ i + x * 2 ^ P := by decide +kernel
theorem pk_or : ∀ P, P < 5 → ∀ i, i < P → ∀ x, x < 64 → 2 ^ i ||| (x * 2 ^ P) = 2 ^ i + x * 2 ^ P := by decide +kernel

/-- The values of a gathering at work. -/
def wkL (L : List Nat) (Y : Nat) (f : Int) (v : Value) : List Value := [.int .i64 (L.length : Nat), .int .i64 Y, .int .i64 (L.length : Nat), .int .u32 (nth L 0 : Nat), .int .u32 (nth L 1 : Nat), .int .u32 (nth L 2 : Nat), .int .u32 (nth L 3 : Nat), .int .u32 (nth L 4 : Nat), .int .u32 (nth L 5 : Nat), .int .u32 (nth L 6 : Nat), .int .u32 (nth L 7 : Nat), .int .u32 (nth L 8 : Nat), .int .u32 (nth L 9 : Nat), .int .i64 f, v, .slice none 0 0, .int .i64 0, .int .i64 0, .nilIface]
/-- A gathering at work, in the call's own memory: its numbers, and what the source keeps. -/
structure WK (W : World) (B q b : Nat) (P Y N : Nat) (S : List Nat) : Prop where
  c0 : W.cell? ⟨q, 0, none⟩ = some (.int .i64 P)
  c1 : W.cell? ⟨q, 1, none⟩ = some (.int .i64 Y)
  c14 : W.cell? ⟨q, 14, none⟩ = some (.slice (some ⟨b, 0, none⟩) N N)
  n1 : 1 ≤ N
  src : RAt W b S
  Bq : B ≤ q
  Bb : B ≤ b
  ne : b ≠ q
  lt : q < W.heap.size
theorem WK.next {W W' : World} {B q b P Y N : Nat} {S : List Nat} (h : WK W B q b P Y N S) (hb : Below W.heap.size W W') : WK W' B q b P Y N S :=
  ⟨(hb.cell (p := ⟨q, 0, none⟩) h.lt).trans h.c0, (hb.cell (p := ⟨q, 1, none⟩) h.lt).trans h.c1, (hb.cell (p := ⟨q, 14, none⟩) h.lt).trans h.c14, h.n1, h.src.below hb, h.Bq, h.Bb, h.ne, Nat.lt_of_lt_of_le h.lt hb.size⟩

set_option maxHeartbeats 800000 in
/-- push, in a block that goes on behind the list. -/
theorem push_k (q : Nat) (L : List Nat) (r : Nat) (hr : r < 4294967296) (w : World) (hG : RAt w q L) (hl : L.length < 10) :
    Calls Tryd.prog 93 #[.pointer (some ⟨q, 0, none⟩), .int .u32 r] w fun e w' => e = .returned (.tuple #[]) ∧ RAt w' q (L ++ [r]) ∧ Only q w w' ∧ (∀ j, 11 ≤ j → w'.cell? ⟨q, j, none⟩ = w.cell? ⟨q, j, none⟩) ∧ ∀ j, w'.frozen? ⟨q, j, none⟩ = w.frozen? ⟨q, j, none⟩ := by
  have c0 := hG.c0
  have cr := hG.row L.length hl
  have f0 := hG.free 0 (by omega)
  have fr := hG.free (1 + L.length) (by omega)
  have other : ∀ (W : World) (i j : Nat) (v : Value), j ≠ i → (W.setCell ⟨q, i, none⟩ v).cell? ⟨q, j, none⟩ = W.cell? ⟨q, j, none⟩ := fun W i j v hne =>
    World.cell?_setCell_other W ⟨q, i, none⟩ ⟨q, j, none⟩ _ (fun e => hne (by injection e with _ e _; exact e.symm))
  have hA := (hG.push r hr hl).drewN 1
  have hB : ∀ j, 11 ≤ j → ((w.setCell ⟨q, 1 + L.length, none⟩ (.int .u32 r)).setCell ⟨q, 0, none⟩ (.int .i64 ((L.length : Int) + 1))).drew.cell? ⟨q, j, none⟩ = w.cell? ⟨q, j, none⟩ := fun j hj => by
    show ((w.setCell ⟨q, 1 + L.length, none⟩ (.int .u32 r)).setCell ⟨q, 0, none⟩ (.int .i64 ((L.length : Int) + 1))).cell? ⟨q, j, none⟩ = _
    rw [other _ _ _ _ (by omega), other _ _ _ _ (by omega)]
  have hF : ∀ j, ((w.setCell ⟨q, 1 + L.length, none⟩ (.int .u32 r)).setCell ⟨q, 0, none⟩ (.int .i64 ((L.length : Int) + 1))).drew.frozen? ⟨q, j, none⟩ = w.frozen? ⟨q, j, none⟩ := fun j => by
    show ((w.setCell ⟨q, 1 + L.length, none⟩ (.int .u32 r)).setCell ⟨q, 0, none⟩ (.int .i64 ((L.length : Int) + 1))).frozen? ⟨q, j, none⟩ = _
    rw [World.frozen?_setCell, World.frozen?_setCell]
  have HK := Lib.hid (And.intro hA (And.intro hB hF))
  clear hA hB hF other
  go_enter Tryd.func93, Tryd.ntmps93
  go_wp2
  go_region
  all_goals
    go_wp2
    go_end0
    exact ⟨rfl, HK.out.1, ((Only.refl q w).setCell _ _).setCell _ _ |>.drew, HK.out.2.1, HK.out.2.2⟩

/-- A keeper at the head of a block: what it keeps, and room for what it saves. -/
structure KB (W : World) (b : Nat) (S : List Nat) : Prop where
  r : RAt W b S
  t : ∀ j, j < 11 → (W.cell? ⟨b, 11 + j, none⟩).isSome = true ∧ W.frozen? ⟨b, 11 + j, none⟩ = false
theorem KB.next {W W' : World} {b : Nat} {S : List Nat} (h : KB W b S) (hb : Below W.heap.size W W') : KB W' b S :=
  ⟨h.r.below hb, fun j hj => ⟨by rw [hb.cell (p := ⟨b, 11 + j, none⟩) h.r.lt]; exact (h.t j hj).1, by rw [hb.frozen (p := ⟨b, 11 + j, none⟩) h.r.lt]; exact (h.t j hj).2⟩⟩
theorem KB.push {W W' : World} {b : Nat} {S S' : List Nat} (h : KB W b S) (hr : RAt W' b S') (hc : ∀ j, 11 ≤ j → W'.cell? ⟨b, j, none⟩ = W.cell? ⟨b, j, none⟩) (hf : ∀ j, W'.frozen? ⟨b, j, none⟩ = W.frozen? ⟨b, j, none⟩) : KB W' b S' :=
  ⟨hr, fun j hj => ⟨by rw [hc _ (by omega)]; exact (h.t j hj).1, by rw [hf]; exact (h.t j hj).2⟩⟩
theorem RAt.beyond {W : World} {q : Nat} {L : List Nat} (h : RAt W q L) (i : Nat) (hi : 11 ≤ i) (v : Value) : RAt (W.setCell ⟨q, i, none⟩ v) q L := by
  have other : ∀ j, j < 11 → (W.setCell ⟨q, i, none⟩ v).cell? ⟨q, j, none⟩ = W.cell? ⟨q, j, none⟩ := fun j hj =>
    World.cell?_setCell_other W ⟨q, i, none⟩ ⟨q, j, none⟩ _ (fun e => by injection e with _ e _; omega)
  exact ⟨(other 0 (by omega)).trans h.c0, fun j hj => (other (1 + j) (by omega)).trans (h.row j hj), fun j hj => by rw [World.frozen?_setCell]; exact h.free j hj, by
    show q < (Array.modify _ _ _).size
    rw [Array.size_modify]; exact h.lt, h.len, h.r32⟩
theorem KB.facts {W : World} {b : Nat} {S : List Nat} (h : KB W b S) : (∃ u0 u1 u2 u3 u4 u5 u6 u7 u8 u9 u10, W.cell? ⟨b, 11, none⟩ = some u0 ∧ W.cell? ⟨b, 12, none⟩ = some u1 ∧ W.cell? ⟨b, 13, none⟩ = some u2 ∧ W.cell? ⟨b, 14, none⟩ = some u3 ∧ W.cell? ⟨b, 15, none⟩ = some u4 ∧ W.cell? ⟨b, 16, none⟩ = some u5 ∧ W.cell? ⟨b, 17, none⟩ = some u6 ∧ W.cell? ⟨b, 18, none⟩ = some u7 ∧ W.cell? ⟨b, 19, none⟩ = some u8 ∧ W.cell? ⟨b, 20, none⟩ = some u9 ∧ W.cell? ⟨b, 21, none⟩ = some u10) ∧ (W.frozen? ⟨b, 11, none⟩ = false ∧ W.frozen? ⟨b, 12, none⟩ = false ∧ W.frozen? ⟨b, 13, none⟩ = false ∧ W.frozen? ⟨b, 14, none⟩ = false ∧ W.frozen? ⟨b, 15, none⟩ = false ∧ W.frozen? ⟨b, 16, none⟩ = false ∧ W.frozen? ⟨b, 17, none⟩ = false ∧ W.frozen? ⟨b, 18, none⟩ = false ∧ W.frozen? ⟨b, 19, none⟩ = false ∧ W.frozen? ⟨b, 20, none⟩ = false ∧ W.frozen? ⟨b, 21, none⟩ = false) := by
  have hc : ∀ j, j < 11 → ∃ u, W.cell? ⟨b, 11 + j, none⟩ = some u := fun j hj => Option.isSome_iff_exists.1 (h.t j hj).1
  obtain ⟨u0, k0⟩ := hc 0 (by omega)
  obtain ⟨u1, k1⟩ := hc 1 (by omega)
  obtain ⟨u2, k2⟩ := hc 2 (by omega)
  obtain ⟨u3, k3⟩ := hc 3 (by omega)
  obtain ⟨u4, k4⟩ := hc 4 (by omega)
  obtain ⟨u5, k5⟩ := hc 5 (by omega)
  obtain ⟨u6, k6⟩ := hc 6 (by omega)
  obtain ⟨u7, k7⟩ := hc 7 (by omega)
  obtain ⟨u8, k8⟩ := hc 8 (by omega)
  obtain ⟨u9, k9⟩ := hc 9 (by omega)
  obtain ⟨u10, k10⟩ := hc 10 (by omega)
  exact ⟨⟨u0, u1, u2, u3, u4, u5, u6, u7, u8, u9, u10, k0, k1, k2, k3, k4, k5, k6, k7, k8, k9, k10⟩, (h.t 0 (by omega)).2, (h.t 1 (by omega)).2, (h.t 2 (by omega)).2, (h.t 3 (by omega)).2, (h.t 4 (by omega)).2, (h.t 5 (by omega)).2, (h.t 6 (by omega)).2, (h.t 7 (by omega)).2, (h.t 8 (by omega)).2, (h.t 9 (by omega)).2, (h.t 10 (by omega)).2⟩
theorem LF.only {W W' : World} {q b : Nat} {vs : List Value} (h : LF W q vs) (hb : Only b W W') (hq : q ≠ b) : LF W' q vs := by
  have hg : W'.heap[q]? = W.heap[q]? := hb.block q hq
  exact ⟨⟨fun j v hv => (World.cell?_of_block (w := W) (a := ⟨q, j, none⟩) hg).trans (h.b.cell j v hv), by rw [hb.size]; exact h.b.lt⟩, fun j hj => (World.frozen?_of_block (w := W) (a := ⟨q, j, none⟩) hg).trans (h.free j hj)⟩
/-- The start: what a made row of keepers begins with. -/
theorem KB.start (W : World) (N : Nat) (h1 : 1 ≤ N) (h2 : N ≤ 7) (T : TypeId) : KB (W.alloc (.cells (madeCells #[.int .i64 0, .int .u32 0, .int .u32 0, .int .u32 0, .int .u32 0, .int .u32 0, .int .u32 0, .int .u32 0, .int .u32 0, .int .u32 0, .int .u32 0, .int .i64 0, .int .u32 0, .int .u32 0, .int .u32 0, .int .u32 0, .int .u32 0, .int .u32 0, .int .u32 0, .int .u32 0, .int .u32 0, .int .u32 0] (N * 22)) T)) W.heap.size [] := by
  have e : ∀ j, j < 22 → (W.alloc (.cells (madeCells #[.int .i64 0, .int .u32 0, .int .u32 0, .int .u32 0, .int .u32 0, .int .u32 0, .int .u32 0, .int .u32 0, .int .u32 0, .int .u32 0, .int .u32 0, .int .i64 0, .int .u32 0, .int .u32 0, .int .u32 0, .int .u32 0, .int .u32 0, .int .u32 0, .int .u32 0, .int .u32 0, .int .u32 0, .int .u32 0] (N * 22)) T)).cell? ⟨W.heap.size, j, none⟩ = (#[.int .i64 0, .int .u32 0, .int .u32 0, .int .u32 0, .int .u32 0, .int .u32 0, .int .u32 0, .int .u32 0, .int .u32 0, .int .u32 0, .int .u32 0, .int .i64 0, .int .u32 0, .int .u32 0, .int .u32 0, .int .u32 0, .int .u32 0, .int .u32 0, .int .u32 0, .int .u32 0, .int .u32 0, .int .u32 0] : Array Value)[j]? := fun j hj => by
    rw [World.cell?_alloc_at _ _ _ _ rfl]
    exact made_k N h1 h2 j hj
  have f : ∀ j, (W.alloc (.cells (madeCells #[.int .i64 0, .int .u32 0, .int .u32 0, .int .u32 0, .int .u32 0, .int .u32 0, .int .u32 0, .int .u32 0, .int .u32 0, .int .u32 0, .int .u32 0, .int .i64 0, .int .u32 0, .int .u32 0, .int .u32 0, .int .u32 0, .int .u32 0, .int .u32 0, .int .u32 0, .int .u32 0, .int .u32 0, .int .u32 0] (N * 22)) T)).frozen? ⟨W.heap.size, j, none⟩ = false := fun j => by rw [World.frozen?_alloc_at _ _ _ _ rfl]
  refine ⟨⟨(e 0 (by omega)).trans rfl, fun j hj => ?_, fun j _ => f j, by simp, by simp, fun j => by simp [nth]⟩, fun j hj => ⟨?_, f _⟩⟩
  · rw [e _ (by omega)]
    match j, hj with
    | 0, _ => rfl
    | 1, _ => rfl
    | 2, _ => rfl
    | 3, _ => rfl
    | 4, _ => rfl
    | 5, _ => rfl
    | 6, _ => rfl
    | 7, _ => rfl
    | 8, _ => rfl
    | 9, _ => rfl
  · rw [e _ (by omega)]
    match j, hj with
    | 0, _ => rfl
    | 1, _ => rfl
    | 2, _ => rfl
    | 3, _ => rfl
    | 4, _ => rfl
    | 5, _ => rfl
    | 6, _ => rfl
    | 7, _ => rfl
    | 8, _ => rfl
    | 9, _ => rfl
    | 10, _ => rfl
theorem src_succ {P k : Nat} {L : List Nat} : (List.range (k + 1)).map (fun i => 2 ^ i + nth L i * 2 ^ P) = (List.range k).map (fun i => 2 ^ i + nth L i * 2 ^ P) ++ [2 ^ k + nth L k * 2 ^ P] := by
  rw [List.range_succ, List.map_append]; rfl

set_option maxRecDepth 100000 in
set_option maxHeartbeats 12800000 in
theorem worksFor_good (D : List Nat) (Y : Nat) (r c : Int) (A : Option Addr) (n cap : Nat) (xs : List Int) (hD : nats xs = D) (hg : inG (D.length : Nat) Y r c) (ha : allIn (2 ^ Y) xs = true) (w : World) {B T : Nat} (hM : Res w B T (.slice A n cap) xs) :
    Calls Tryd.prog 63 #[.agg (gatL (D.length : Nat) Y (.slice A n cap) r c).toArray] w fun e w' => ∃ q b N, e = .returned (.tuple #[.pointer (some ⟨q, 0, none⟩), .int .i64 0]) ∧ Below w.heap.size w w' ∧ WK w' w.heap.size q b D.length Y N (srcL D.length D) := by
  obtain ⟨h1, h2, h3, h4, h5, h6, h7, h8⟩ := hg
  have hlen : xs.length = n := by cases hM <;> first | rfl | assumption
  have hx64 : ∀ i, nth D i < 2 ^ Y := by rw [← hD]; exact nats_lt ha (Nat.pow_pos (by omega))
  have hnD : n = D.length := by rw [← hD, nats_length, hlen]
  have hG := G1.start w (gatL (D.length : Nat) Y (.slice A n cap) r c) 60
  have S := rowsFor_any Y D.length (by omega) (by omega) A n cap xs _ (hM.next hG.b)
  rw [ha, decide_eq_true (by omega : n ≤ D.length), Bool.true_and, hD] at S
  simp only [rowsC] at S
  have HS := Lib.hid S
  have HG := Lib.hid hG
  have HND := Lib.hid hnD
  have HX := Lib.hid hx64
  obtain ⟨N, hN⟩ : ∃ N : Nat, 1 + r + c = N := ⟨(1 + r + c).toNat, by omega⟩
  obtain ⟨ik, hik, hkk⟩ := Option.map_eq_some_iff.1 Tryd.infoK
  simp only [Prod.mk.injEq] at hkk
  obtain ⟨hkz, hks, hkb⟩ := hkk
  have hmk : ∀ w : World, (Instr.makeSlice 127 (.int .i64 (1 + r + c)) (.int .i64 (1 + r + c))).run Tryd.prog w = .ok (.slice (some ⟨w.heap.size, 0, none⟩) N N) (w.alloc (.cells (madeCells #[.int .i64 0, .int .u32 0, .int .u32 0, .int .u32 0, .int .u32 0, .int .u32 0, .int .u32 0, .int .u32 0, .int .u32 0, .int .u32 0, .int .u32 0, .int .i64 0, .int .u32 0, .int .u32 0, .int .u32 0, .int .u32 0, .int .u32 0, .int .u32 0, .int .u32 0, .int .u32 0, .int .u32 0, .int .u32 0] (N * 22)) 168)) := fun w => by
    have := run_make (P := Tryd.prog) w 127 168 ik _ Tryd.underlying127 hik hkz .i64 .i64 (1 + r + c) (1 + r + c) (by omega) (by omega) (by rw [hkb]; omega) (by omega)
    rw [this, hN, hks]
    rfl
  have HMK := Lib.hid hmk
  have HNN := Lib.hid hN
  have HLL := Lib.hid (show 1 ≤ D.length ∧ D.length ≤ 4 ∧ Y ≤ 6 from ⟨by omega, by omega, by omega⟩)
  clear S hG hM ha hlen hmk hik hkz hks hkb hN hx64 hnD hD
  go_enter Tryd.func63, Tryd.ntmps63
  go_wp2_with fail
  refine HS.out.mono ?_
  rintro e w1 ⟨L, rfl, hb, hL, hl10, hr⟩
  obtain rfl : L = D := hL (by have := HND.out; omega) trivial
  have hG1 := HG.out.next hb
  have hbd := below_alloc1 w1 (.cells (rowsC L) 101)
  have hG2 := hG1.next hbd
  have HD := Lib.hid (show RAt (w1.alloc (.cells (rowsC L) 101)) w1.heap.size L from ⟨by rw [World.cell?_alloc_at _ _ _ _ rfl]; rfl, fun j hj => by rw [World.cell?_alloc_at _ _ _ _ rfl]; exact rowsC_row L j hj, fun j _ => World.frozen?_alloc_at _ _ _ _ rfl, by simp, hl10, hr⟩)
  have x0 := hG2.x.cell 0 _ rfl; have x1 := hG2.x.cell 1 _ rfl; have x3 := hG2.x.cell 3 _ rfl; have x4 := hG2.x.cell 4 _ rfl
  have HG2 := Lib.hid hG2
  have HB1 := Lib.hid hG1.z
  unfold rowsC at x0 x1 x3 x4
  clear hb hG1 hG2 hbd hL
  go_wp2_with fail
  obtain ⟨Φ, hΦ⟩ : ∃ Φ : World → Prop, Φ = fun W => LF W (w1.heap.size + 1) (wkL L Y (1 + r) (.slice none 0 0)) ∧ G1 w (gatL (L.length : Nat) Y (.slice A n cap) r c) W ∧ RAt W w1.heap.size L := ⟨_, rfl⟩
  have F0 : Φ (World.drew ((w1.alloc (.cells (rowsC L) 101)).alloc (.cells (wkL L Y (1 + r) (.slice none 0 0)).toArray 132))) := by
    rw [hΦ]
    have hb := below_alloc1 (w1.alloc (.cells (rowsC L) 101)) (.cells (wkL L Y (1 + r) (.slice none 0 0)).toArray 132)
    have hb' := hb.drew
    refine ⟨?_, HG2.out.next hb', HD.out.below hb'⟩
    have := LF.start (w1.alloc (.cells (rowsC L) 101)) (wkL L Y (1 + r) (.slice none 0 0)) 132
    rw [World.size_alloc] at this
    exact this.next (Below.refl _ _).drew
  have SP : Hid (∀ W W', Φ W → Below W.heap.size W W' → Φ W') := Lib.hid fun W W' h hb => by
    rw [hΦ] at h ⊢
    exact ⟨h.1.next hb, h.2.1.next hb, h.2.2.below hb⟩
  have C13 : Hid (∀ W, Φ W → W.cell? ⟨w1.heap.size + 1, 13, none⟩ = some (.int .i64 (1 + r))) := Lib.hid fun W h => by rw [hΦ] at h; exact h.1.b.cell 13 _ rfl
  have C14 : Hid (∀ W, Φ W → W.cell? ⟨w1.heap.size + 1, 14, none⟩ = some (.slice none 0 0) ∧ W.frozen? ⟨w1.heap.size + 1, 14, none⟩ = false) := Lib.hid fun W h => by rw [hΦ] at h; exact ⟨h.1.b.cell 14 _ rfl, h.1.free 14 (by show 14 < 19; omega)⟩
  have CG4 : Hid (∀ W, Φ W → W.cell? ⟨w.heap.size, 4, none⟩ = some (.int .i64 c)) := Lib.hid fun W h => by rw [hΦ] at h; exact h.2.1.x.cell 4 _ rfl
  have CF : Hid (∀ W, Φ W → LF W (w1.heap.size + 1) (wkL L Y (1 + r) (.slice none 0 0)) ∧ G1 w (gatL (L.length : Nat) Y (.slice A n cap) r c) W ∧ RAt W w1.heap.size L) := Lib.hid fun W h => by rw [hΦ] at h; exact h
  clear hΦ x0 x1 x3 x4 HG
  refine wp_region_S (n := 11) (S := Φ) (by kernel_rfl) (by kernel_rfl) F0 (fun G inv hS => ?_)
  clear F0
  refine wpAnyS_take (i := 0) (v := ?_) G inv hS (by decide) rfl (by kernel_rfl) (by kernel_rfl) (fun _ _ _ h => h) (Or.inl ⟨by kernel_rfl, fun W hW => ?_⟩) (fun inv => ?_)
  rotate_left
  · have z0 := C13.out _ hW
    have z1 := CG4.out _ hW
    go_simp
    try with_reducible rfl
  try simp only [Act.put, List.setIfInBounds_toArray, List.set_cons_zero, List.set_cons_succ]
  refine wpAnyS_take (i := 1) (v := ?_) G inv hS (by decide) rfl (by kernel_rfl) (by kernel_rfl) (fun _ _ _ h => h) (Or.inl ⟨by kernel_rfl, fun W hW => ?_⟩) (fun inv => ?_)
  rotate_left
  · have z0 := C13.out _ hW
    have z1 := CG4.out _ hW
    go_simp
    try with_reducible rfl
  try simp only [Act.put, List.setIfInBounds_toArray, List.set_cons_zero, List.set_cons_succ]
  refine wpAnyS_take (i := 2) (v := ?_) G inv hS (by decide) rfl (by kernel_rfl) (by kernel_rfl) (fun _ _ _ h => h) (Or.inl ⟨by kernel_rfl, fun W hW => ?_⟩) (fun inv => ?_)
  rotate_left
  · have z0 := C13.out _ hW
    have z1 := CG4.out _ hW
    go_simp
    try with_reducible rfl
  try simp only [Act.put, List.setIfInBounds_toArray, List.set_cons_zero, List.set_cons_succ]
  refine wpAnyS_take (i := 3) (v := ?_) G inv hS (by decide) rfl (by kernel_rfl) (by kernel_rfl) (fun _ _ _ h => h) (Or.inl ⟨by kernel_rfl, fun W hW => ?_⟩) (fun inv => ?_)
  rotate_left
  · have z0 := C13.out _ hW
    have z1 := CG4.out _ hW
    go_simp
    try with_reducible rfl
  try simp only [Act.put, List.setIfInBounds_toArray, List.set_cons_zero, List.set_cons_succ]
  refine wpAnyS_take (i := 4) (v := ?_) G inv hS (by decide) rfl (by kernel_rfl) (by kernel_rfl) (fun _ _ _ h => h) (Or.inl ⟨by kernel_rfl, fun W hW => ?_⟩) (fun inv => ?_)
  rotate_left
  · have z0 := C13.out _ hW
    have z1 := CG4.out _ hW
    go_simp
    try with_reducible rfl
  try simp only [Act.put, List.setIfInBounds_toArray, List.set_cons_zero, List.set_cons_succ]
  refine wpAnyS_take (i := 5) (v := ?_) G inv hS (by decide) rfl (by kernel_rfl) (by kernel_rfl) (fun _ _ _ h => h) (Or.inl ⟨by kernel_rfl, fun W hW => ?_⟩) (fun inv => ?_)
  rotate_left
  · have z0 := C13.out _ hW
    have z1 := CG4.out _ hW
    go_simp
    try with_reducible rfl
  try simp only [Act.put, List.setIfInBounds_toArray, List.set_cons_zero, List.set_cons_succ]
  refine wpAnyS_take (i := 6) (v := ?_) G inv hS (by decide) rfl (by kernel_rfl) (by kernel_rfl) (fun _ _ _ h => h) (Or.inl ⟨by kernel_rfl, fun W hW => ?_⟩) (fun inv => ?_)
  rotate_left
  · have z0 := C13.out _ hW
    have z1 := CG4.out _ hW
    go_simp
    try with_reducible rfl
  try simp only [Act.put, List.setIfInBounds_toArray, List.set_cons_zero, List.set_cons_succ]
  refine wpAnyS_take (i := 7) (v := ?_) G inv hS (by decide) rfl (by kernel_rfl) (by kernel_rfl) (fun _ _ _ h => h) (Or.inl ⟨by kernel_rfl, fun W hW => ?_⟩) (fun inv => ?_)
  rotate_left
  · have z0 := C13.out _ hW
    have z1 := CG4.out _ hW
    go_simp
    try with_reducible rfl
  try simp only [Act.put, List.setIfInBounds_toArray, List.set_cons_zero, List.set_cons_succ]
  refine wpAnyS_step (i := 8) (by kernel_rfl) rfl ?_
  have hmk := HMK.out
  go_wp2
  rw [hmk]
  clear hmk
  go_wp2
  change (8 ≠ 11 → Φ _) ∧ _
  refine ⟨fun _ => (SP.out _ _ hS (below_alloc1 _ _)), ?_⟩
  have inv := HeadInv.setD (i := 8) inv (by kernel_rfl) (by decide)
  refine wpAnyS_take (i := 9) (v := ?_) G inv (SP.out _ _ hS (below_alloc1 _ _)) (by decide) rfl (by kernel_rfl) (by kernel_rfl) (fun _ _ _ h => h) (Or.inl ⟨by kernel_rfl, fun W hW => ?_⟩) (fun inv => ?_)
  rotate_left
  · have z0 := C13.out _ hW
    have z1 := CG4.out _ hW
    go_simp
    try with_reducible rfl
  try simp only [Act.put, List.setIfInBounds_toArray, List.set_cons_zero, List.set_cons_succ]
  refine wpAnyS_take (i := 10) (v := ?_) G inv (SP.out _ _ hS (below_alloc1 _ _)) (by decide) rfl (by kernel_rfl) (by kernel_rfl) (fun _ _ _ h => h) (Or.inl ⟨by kernel_rfl, fun W hW => ?_⟩) (fun inv => ?_)
  rotate_left
  · have z0 := C13.out _ hW
    have z1 := CG4.out _ hW
    go_simp
    try with_reducible rfl
  try simp only [Act.put, List.setIfInBounds_toArray, List.set_cons_zero, List.set_cons_succ]
  have y0 := (C14.out _ (SP.out _ _ hS (below_alloc1 _ (.cells (madeCells #[.int .i64 0, .int .u32 0, .int .u32 0, .int .u32 0, .int .u32 0, .int .u32 0, .int .u32 0, .int .u32 0, .int .u32 0, .int .u32 0, .int .u32 0, .int .i64 0, .int .u32 0, .int .u32 0, .int .u32 0, .int .u32 0, .int .u32 0, .int .u32 0, .int .u32 0, .int .u32 0, .int .u32 0, .int .u32 0] (N * 22)) 168)))).1
  have y1 := (C14.out _ (SP.out _ _ hS (below_alloc1 _ (.cells (madeCells #[.int .i64 0, .int .u32 0, .int .u32 0, .int .u32 0, .int .u32 0, .int .u32 0, .int .u32 0, .int .u32 0, .int .u32 0, .int .u32 0, .int .u32 0, .int .i64 0, .int .u32 0, .int .u32 0, .int .u32 0, .int .u32 0, .int .u32 0, .int .u32 0, .int .u32 0, .int .u32 0, .int .u32 0, .int .u32 0] (N * 22)) 168)))).2
  refine wpAnyS_step (i := 11) (by kernel_rfl) rfl ?_
  go_wp2
  refine ⟨fun h => absurd rfl h, ?_⟩
  refine wpAnyS_done (by kernel_rfl) ?_ _
  have hN1 : 1 ≤ N ∧ N ≤ 7 := by have := HNN.out; omega
  have hN0 : (0 : Int) < (N : Int) := by omega
  have hbM := below_alloc1 ((w1.alloc (.cells (rowsC L) 101)).alloc (.cells (wkL L Y (1 + r) (.slice (some ⟨w1.heap.size + 1 + 1, 0, none⟩) N N)).toArray 132)) (.cells (madeCells #[.int .i64 0, .int .u32 0, .int .u32 0, .int .u32 0, .int .u32 0, .int .u32 0, .int .u32 0, .int .u32 0, .int .u32 0, .int .u32 0, .int .u32 0, .int .i64 0, .int .u32 0, .int .u32 0, .int .u32 0, .int .u32 0, .int .u32 0, .int .u32 0, .int .u32 0, .int .u32 0, .int .u32 0, .int .u32 0] (N * 22)) 168)
  have hbK := below_alloc1 (w1.alloc (.cells (rowsC L) 101)) (.cells (wkL L Y (1 + r) (.slice (some ⟨w1.heap.size + 1 + 1, 0, none⟩) N N)).toArray 132)
  have hK4 := KB.start ((w1.alloc (.cells (rowsC L) 101)).alloc (.cells (wkL L Y (1 + r) (.slice (some ⟨w1.heap.size + 1 + 1, 0, none⟩) N N)).toArray 132)) N hN1.1 hN1.2 168
  have hW4 := LF.start (w1.alloc (.cells (rowsC L) 101)) (wkL L Y (1 + r) (.slice (some ⟨w1.heap.size + 1 + 1, 0, none⟩) N N)) 132
  rw [World.size_alloc] at hW4
  rw [World.size_alloc, World.size_alloc] at hK4
  have hG4 := ((HG2.out.next hbK).next hbM)
  have HB4 := Lib.hid hG4.b
  have HD4 := Lib.hid ((HD.out.below hbK).below hbM)
  have HW4 := Lib.hid (hW4.next hbM)
  have HK4 := Lib.hid hK4
  have hlb : w.heap.size < w1.heap.size := by
    have h := HB1.out
    omega
  clear hbM hbK hK4 hW4 hG4 HG2 HD inv G
  go_wp2_with (go_at_call 56; refine (all_r w1.heap.size L _ HD4.out.drew).mono ?_; rintro e w5 ⟨rfl, q0, rfl⟩)
  go_loopw [93] (fun i wr => ∃ k : Nat, k ≤ L.length ∧ i = .int .i64 k ∧ KB wr (w1.heap.size + 1 + 1) ((List.range k).map fun i => 2 ^ i + nth L i * 2 ^ L.length) ∧ LF wr (w1.heap.size + 1) (wkL L Y (1 + r) (.slice (some ⟨w1.heap.size + 1 + 1, 0, none⟩) N N)) ∧ RAt wr w1.heap.size L ∧ Below w.heap.size w wr) (fun i _ => L.length - (intOf i).toNat)
  case atStart => exact ⟨0, Nat.zero_le _, rfl, HK4.out.next (below_draws _ _ _), HW4.out.next (below_draws _ _ _), HD4.out.below (below_draws _ _ _), HB4.out.trans (below_draws _ _ _)⟩
  case round =>
    obtain ⟨k, hk, rfl, hK, hW, hD, hB⟩ := hrel
    clear HK4 HW4 HD4 HB4
    by_cases hlt : k < L.length
    · have hrow := hD.row k (by have := HLL.out; omega)
      have hsuc := src_succ (P := L.length) (k := k) (L := L)
      obtain ⟨S, hS⟩ : ∃ S, ((List.range k).map fun i => 2 ^ i + nth L i * 2 ^ L.length) = S := ⟨_, rfl⟩
      have hSl : S.length = k := by rw [← hS]; simp
      rw [hS] at hK hsuc
      have hx := HX.out k
      have hy64 : 2 ^ Y ≤ 2 ^ 6 := Nat.pow_le_pow_right (by omega) HLL.out.2.2
      have hp16 : 2 ^ L.length ≤ 2 ^ 4 := Nat.pow_le_pow_right (by omega) HLL.out.2.1
      have hu16 : 2 ^ k ≤ 2 ^ 4 := Nat.pow_le_pow_right (by omega) (by have := HLL.out; omega)
      have hpk := pk_eq L.length (by have := HLL.out; omega) k hlt (nth L k) (by omega)
      generalize nth L k = x at hrow hsuc hx hpk
      have hv1 : x * 2 ^ L.length ≤ 63 * 16 := Nat.mul_le_mul (by omega) (by omega)
      have hshl : IntKind.u32.wrap ((x : Int) * 2 ^ L.length) = ((x * 2 ^ L.length : Nat) : Int) := by
        have e : ((x : Int) * 2 ^ L.length) = ((x * 2 ^ L.length : Nat) : Int) := by simp
        rw [e, IntKind.wrap_u32g]; omega
      have HU' := fun W => unit_any k (by have := HLL.out; omega) W
      generalize 2 ^ k = u at hsuc hpk hu16 HU'
      have HU := Lib.hid HU'
      obtain ⟨v, hv⟩ : ∃ v, x * 2 ^ L.length = v := ⟨_, rfl⟩
      rw [hv] at hsuc hpk hv1 hshl
      have HPL' := fun W => plus_any u v (by omega) (by omega) W
      rw [hpk] at HPL'
      generalize hss : u + v = s at hsuc HPL'
      have hs32 : s < 4294967296 := by omega
      have HPL := Lib.hid HPL'
      have HSUC := Lib.hid hsuc
      have HSL := Lib.hid hSl
      have HV := Lib.hid hv
      clear hsuc hS hSl hx hpk HU' HPL' hv hss hy64 hp16 hu16 hv1
      obtain ⟨Φ, hΦ⟩ : ∃ Φ : World → Prop, Φ = fun W => KB W (w1.heap.size + 1 + 1) S ∧ LF W (w1.heap.size + 1) (wkL L Y (1 + r) (.slice (some ⟨w1.heap.size + 1 + 1, 0, none⟩) N N)) ∧ RAt W w1.heap.size L ∧ Below w.heap.size w W := ⟨_, rfl⟩
      have CF : Hid (∀ W, Φ W → KB W (w1.heap.size + 1 + 1) S ∧ LF W (w1.heap.size + 1) (wkL L Y (1 + r) (.slice (some ⟨w1.heap.size + 1 + 1, 0, none⟩) N N)) ∧ RAt W w1.heap.size L ∧ Below w.heap.size w W) := Lib.hid fun W h => by rw [hΦ] at h; exact h
      have FF : Hid (∀ W q, KB W (w1.heap.size + 1 + 1) S ∧ LF W (w1.heap.size + 1) (wkL L Y (1 + r) (.slice (some ⟨w1.heap.size + 1 + 1, 0, none⟩) N N)) ∧ RAt W w1.heap.size L ∧ Below w.heap.size w W → Φ (W.drewN q)) := Lib.hid fun W q h => by
        rw [hΦ]
        exact ⟨h.1.next (below_draws _ _ _), h.2.1.next (below_draws _ _ _), h.2.2.1.drewN q, h.2.2.2.trans (below_draws _ _ _)⟩
      have C0 : Hid (∀ W, Φ W → W.cell? ⟨w1.heap.size + 1, 0, none⟩ = some (.int .i64 (L.length : Nat))) := Lib.hid fun W h => by rw [hΦ] at h; exact h.2.1.b.cell 0 _ rfl
      have HA := Lib.hid (And.intro hK (And.intro hW (And.intro hD hB)))
      clear hΦ hK hW hD hB C13 C14 CG4 SP hS
      go_wp2_with fail
      refine wp_region_S (n := 12) (S := Φ) (by kernel_rfl) (by kernel_rfl) (FF.out _ 1 HA.out) (fun G inv hS => ?_)
      refine wpAnyS_take (i := 0) (v := ?_) G inv hS (by decide) rfl (by kernel_rfl) (by kernel_rfl) (fun _ _ _ h => h) (Or.inl ⟨by kernel_rfl, fun W hW => ?_⟩) (fun inv => ?_)
      rotate_left
      · have z0 := C0.out _ hW
        go_simp
        try with_reducible rfl
      try simp only [Act.put, List.setIfInBounds_toArray, List.set_cons_zero, List.set_cons_succ]
      refine wpAnyS_take (i := 1) (v := ?_) G inv hS (by decide) rfl (by kernel_rfl) (by kernel_rfl) (fun _ _ _ h => h) (Or.inl ⟨by kernel_rfl, fun W hW => ?_⟩) (fun inv => ?_)
      rotate_left
      · have z0 := C0.out _ hW
        go_simp
        try with_reducible rfl
      try simp only [Act.put, List.setIfInBounds_toArray, List.set_cons_zero, List.set_cons_succ]
      refine wpAnyS_take (i := 2) (v := ?_) G inv hS (by decide) rfl (by kernel_rfl) (by kernel_rfl) (fun _ _ _ h => h) (Or.inl ⟨by kernel_rfl, fun W hW => ?_⟩) (fun inv => ?_)
      rotate_left
      · have z0 := C0.out _ hW
        go_simp
        try with_reducible rfl
      try simp only [Act.put, List.setIfInBounds_toArray, List.set_cons_zero, List.set_cons_succ]
      refine wpAnyS_take (i := 3) (v := ?_) G inv hS (by decide) rfl (by kernel_rfl) (by kernel_rfl) (fun _ _ _ h => h) (Or.inl ⟨by kernel_rfl, fun W hW => ?_⟩) (fun inv => ?_)
      rotate_left
      · have z0 := C0.out _ hW
        go_simp
        try with_reducible rfl
      try simp only [Act.put, List.setIfInBounds_toArray, List.set_cons_zero, List.set_cons_succ]
      refine wpAnyS_take (i := 5) (v := ?_) G inv hS (by decide) rfl (by kernel_rfl) (by kernel_rfl) (fun _ _ _ h => h) (Or.inl ⟨by kernel_rfl, fun W hW => ?_⟩) (fun inv => ?_)
      rotate_left
      · have z0 := C0.out _ hW
        go_simp
        try with_reducible rfl
      try simp only [Act.put, List.setIfInBounds_toArray, List.set_cons_zero, List.set_cons_succ]
      refine wpAnyS_take (i := 6) (v := ?_) G inv hS (by decide) rfl (by kernel_rfl) (by kernel_rfl) (fun _ _ _ h => h) (Or.inl ⟨by kernel_rfl, fun W hW => ?_⟩) (fun inv => ?_)
      rotate_left
      · have z0 := C0.out _ hW
        go_simp
        try with_reducible rfl
      try simp only [Act.put, List.setIfInBounds_toArray, List.set_cons_zero, List.set_cons_succ]
      refine wpAnyS_take (i := 7) (v := ?_) G inv hS (by decide) rfl (by kernel_rfl) (by kernel_rfl) (fun _ _ _ h => h) (Or.inl ⟨by kernel_rfl, fun W hW => ?_⟩) (fun inv => ?_)
      rotate_left
      · have z0 := C0.out _ hW
        go_simp
        try with_reducible rfl
      try simp only [Act.put, List.setIfInBounds_toArray, List.set_cons_zero, List.set_cons_succ]
      refine wpAnyS_take (i := 8) (v := ?_) G inv hS (by decide) rfl (by kernel_rfl) (by kernel_rfl) (fun _ _ _ h => h) (Or.inl ⟨by kernel_rfl, fun W hW => ?_⟩) (fun inv => ?_)
      rotate_left
      · have z0 := C0.out _ hW
        go_simp
        try with_reducible rfl
      try simp only [Act.put, List.setIfInBounds_toArray, List.set_cons_zero, List.set_cons_succ]
      refine wpAnyS_take (i := 9) (v := ?_) G inv hS (by decide) rfl (by kernel_rfl) (by kernel_rfl) (fun _ _ _ h => h) (Or.inl ⟨by kernel_rfl, fun W hW => ?_⟩) (fun inv => ?_)
      rotate_left
      · have z0 := C0.out _ hW
        go_simp
        try with_reducible rfl
      try simp only [Act.put, List.setIfInBounds_toArray, List.set_cons_zero, List.set_cons_succ]
      refine wpAnyS_take (i := 10) (v := ?_) G inv hS (by decide) rfl (by kernel_rfl) (by kernel_rfl) (fun _ _ _ h => h) (Or.inl ⟨by kernel_rfl, fun W hW => ?_⟩) (fun inv => ?_)
      rotate_left
      · have z0 := C0.out _ hW
        go_simp
        try with_reducible rfl
      try simp only [Act.put, List.setIfInBounds_toArray, List.set_cons_zero, List.set_cons_succ]
      refine wpAnyS_step (i := 4) (by kernel_rfl) rfl ?_
      go_wp2_with (go_at_call 94; refine (HU.out _).mono ?_; rintro e w6 ⟨rfl, rfl⟩)
      change (4 ≠ 12 → Φ _) ∧ _
      refine ⟨fun _ => hS, ?_⟩
      have inv := HeadInv.setD (i := 4) inv (by kernel_rfl) (by decide)
      refine wpAnyS_step (i := 11) (by kernel_rfl) rfl ?_
      go_wp2_with (go_at_call 95; refine (HPL.out _).mono ?_; rintro e w6 ⟨rfl, rfl⟩)
      change (11 ≠ 12 → Φ _) ∧ _
      refine ⟨fun _ => hS, ?_⟩
      have inv := HeadInv.setD (i := 11) inv (by kernel_rfl) (by decide)
      refine wpAnyS_step (i := 12) (by kernel_rfl) rfl ?_
      go_wp2_with (go_at_call 93; refine (push_k (w1.heap.size + 1 + 1) S s hs32 _ (CF.out _ hS).1.r (by rw [HSL.out]; have := HLL.out; omega)).mono ?_; rintro e w7 ⟨rfl, hR5, hO5, hc5, hf5⟩)
      refine ⟨fun h => absurd rfl h, ?_⟩
      refine wpAnyS_done (by kernel_rfl) ?_ _
      have HS := Lib.hid (CF.out _ hS)
      clear hS inv G
      go_wp2_with fail
      go_roundw
      case rel => exact ⟨k + 1, by omega, by go_num, by rw [HSUC.out]; exact HS.out.1.push hR5 hc5 hf5, HS.out.2.1.only hO5 (by omega), HS.out.2.2.1.only hO5 (by omega), hO5.below HS.out.2.2.2 (by omega)⟩
      case measure => simp [intOf]; omega
    · obtain rfl : k = L.length := by omega
      obtain ⟨S, hS⟩ : ∃ S, ((List.range L.length).map fun i => 2 ^ i + nth L i * 2 ^ L.length) = S := ⟨_, rfl⟩
      rw [hS] at hK
      have HSS := Lib.hid (show srcL L.length L = S from hS)
      clear hS C13 C14 CG4 SP CF
      obtain ⟨g0, g1, g2, g3, g4, g5, g6, g7, g8, g9, g10⟩ := hK.r.facts
      obtain ⟨⟨u0, u1, u2, u3, u4, u5, u6, u7, u8, u9, u10, d0, d1, d2, d3, d4, d5, d6, d7, d8, d9, d10⟩, f0, f1, f2, f3, f4, f5, f6, f7, f8, f9, f10⟩ := hK.facts
      have hO : Only (w1.heap.size + 1 + 1) wr (((((((((((wr.setCell ⟨w1.heap.size + 1 + 1, 11, none⟩ (.int .i64 (S.length : Nat))).setCell ⟨w1.heap.size + 1 + 1, 12, none⟩ (.int .u32 (nth S 0 : Nat))).setCell ⟨w1.heap.size + 1 + 1, 13, none⟩ (.int .u32 (nth S 1 : Nat))).setCell ⟨w1.heap.size + 1 + 1, 14, none⟩ (.int .u32 (nth S 2 : Nat))).setCell ⟨w1.heap.size + 1 + 1, 15, none⟩ (.int .u32 (nth S 3 : Nat))).setCell ⟨w1.heap.size + 1 + 1, 16, none⟩ (.int .u32 (nth S 4 : Nat))).setCell ⟨w1.heap.size + 1 + 1, 17, none⟩ (.int .u32 (nth S 5 : Nat))).setCell ⟨w1.heap.size + 1 + 1, 18, none⟩ (.int .u32 (nth S 6 : Nat))).setCell ⟨w1.heap.size + 1 + 1, 19, none⟩ (.int .u32 (nth S 7 : Nat))).setCell ⟨w1.heap.size + 1 + 1, 20, none⟩ (.int .u32 (nth S 8 : Nat))).setCell ⟨w1.heap.size + 1 + 1, 21, none⟩ (.int .u32 (nth S 9 : Nat))) := Only.setCells [.int .i64 (S.length : Nat), .int .u32 (nth S 0 : Nat), .int .u32 (nth S 1 : Nat), .int .u32 (nth S 2 : Nat), .int .u32 (nth S 3 : Nat), .int .u32 (nth S 4 : Nat), .int .u32 (nth S 5 : Nat), .int .u32 (nth S 6 : Nat), .int .u32 (nth S 7 : Nat), .int .u32 (nth S 8 : Nat), .int .u32 (nth S 9 : Nat)] 11 wr (Only.refl _ wr)
      have hRF := (RAt.beyond (RAt.beyond (RAt.beyond (RAt.beyond (RAt.beyond (RAt.beyond (RAt.beyond (RAt.beyond (RAt.beyond (RAt.beyond (RAt.beyond hK.r 11 (by omega) (.int .i64 (S.length : Nat))) 12 (by omega) (.int .u32 (nth S 0 : Nat))) 13 (by omega) (.int .u32 (nth S 1 : Nat))) 14 (by omega) (.int .u32 (nth S 2 : Nat))) 15 (by omega) (.int .u32 (nth S 3 : Nat))) 16 (by omega) (.int .u32 (nth S 4 : Nat))) 17 (by omega) (.int .u32 (nth S 5 : Nat))) 18 (by omega) (.int .u32 (nth S 6 : Nat))) 19 (by omega) (.int .u32 (nth S 7 : Nat))) 20 (by omega) (.int .u32 (nth S 8 : Nat))) 21 (by omega) (.int .u32 (nth S 9 : Nat)))
      have HFIN := Lib.hid (show WK (((((((((((wr.setCell ⟨w1.heap.size + 1 + 1, 11, none⟩ (.int .i64 (S.length : Nat))).setCell ⟨w1.heap.size + 1 + 1, 12, none⟩ (.int .u32 (nth S 0 : Nat))).setCell ⟨w1.heap.size + 1 + 1, 13, none⟩ (.int .u32 (nth S 1 : Nat))).setCell ⟨w1.heap.size + 1 + 1, 14, none⟩ (.int .u32 (nth S 2 : Nat))).setCell ⟨w1.heap.size + 1 + 1, 15, none⟩ (.int .u32 (nth S 3 : Nat))).setCell ⟨w1.heap.size + 1 + 1, 16, none⟩ (.int .u32 (nth S 4 : Nat))).setCell ⟨w1.heap.size + 1 + 1, 17, none⟩ (.int .u32 (nth S 5 : Nat))).setCell ⟨w1.heap.size + 1 + 1, 18, none⟩ (.int .u32 (nth S 6 : Nat))).setCell ⟨w1.heap.size + 1 + 1, 19, none⟩ (.int .u32 (nth S 7 : Nat))).setCell ⟨w1.heap.size + 1 + 1, 20, none⟩ (.int .u32 (nth S 8 : Nat))).setCell ⟨w1.heap.size + 1 + 1, 21, none⟩ (.int .u32 (nth S 9 : Nat))) w.heap.size (w1.heap.size + 1) (w1.heap.size + 1 + 1) L.length Y N S from by
        have h2 := hW.only hO (by omega)
        exact ⟨h2.b.cell 0 _ rfl, h2.b.cell 1 _ rfl, h2.b.cell 14 _ rfl, hN1.1, hRF, by omega, by omega, by omega, h2.b.lt⟩)
      have HBO := Lib.hid (hO.below hB (by omega))
      clear hO hRF hK hW hD hB
      go_wp2_with fail
      go_ret2
      exact ⟨w1.heap.size + 1, w1.heap.size + 1 + 1, N, rfl, HBO.out, HSS.out.symm ▸ HFIN.out⟩
end Go.Proofs.YtibennpdffgomaaDoor
