/- The laws' own functions over matrices: measured, copied, equal, marked, held. -/
import Derived.Test.YtjilenobkgmafaaDoorSlices
import Derived.Test.YtjilenobkgmafaaDoorMatPure
import Derived.Lib.SmallJoins
namespace Go.Proofs.YtjilenobkgmafaaDoor
open Go.RowKit Go.Joins
set_option linter.unusedVariables false

/-- An argument's numbers, as they lie when the law begins. -/
structure Arg (W : World) (A : Option Addr) (n : Nat) (xs : List Int) : Prop where
  len : xs.length = n
  big : n ≤ 9223372036854775807
  cell : 0 < n → ∃ a : Addr, A = some a ∧ a.block < W.heap.size ∧ ∀ j : Nat, j < n → W.cell? (a.add j) = some (.int .i64 (xs[j]?.getD 0))
theorem addr_add_block (a : Addr) (j : Nat) : (a.add j).block = a.block := by unfold Addr.add; split <;> rfl
theorem Arg.below {W W' : World} {A : Option Addr} {n : Nat} {xs : List Int} (h : Arg W A n xs) (hb : Below W.heap.size W W') : Arg W' A n xs :=
  ⟨h.len, h.big, fun hn => by
    obtain ⟨a, hA, hlt, hc⟩ := h.cell hn
    exact ⟨a, hA, Nat.lt_of_lt_of_le hlt hb.size, fun j hj => (hb.cell (p := a.add j) (by rw [addr_add_block]; exact hlt)).trans (hc j hj)⟩⟩
theorem Arg.from {w0 W : World} {A : Option Addr} {n : Nat} {xs : List Int} (h : Arg w0 A n xs) (hb : Below w0.heap.size w0 W) : Arg W A n xs := h.below hb

set_option maxHeartbeats 400000 in
theorem szMatrix_ok (c : Int) (A : Option Addr) (n cap : Nat) (l : Int) (hl : l ≤ 1048576) (h : (n : Int) ≤ l) (w : World) :
    Calls Tryd.prog 15 #[.agg #[.int .i64 c, .slice A n cap], .int .i64 l] w fun e w' => e = .returned (.int .i64 (l - n)) ∧ Below w.heap.size w w' := by
  go_enter Tryd.func15, Tryd.ntmps15
  go_wp2
  go_ret
  exact ⟨rfl, (Below.refl _ w).alloc (Nat.le_refl _) _⟩

set_option maxHeartbeats 400000 in
theorem szMatrix_no (c : Int) (A : Option Addr) (n cap : Nat) (hn : n ≤ 9223372036854775807) (l : Int) (h0 : 0 ≤ l) (hl : l ≤ 1048576) (h : l < (n : Int)) (w : World) :
    Calls Tryd.prog 15 #[.agg #[.int .i64 c, .slice A n cap], .int .i64 l] w fun e w' => e = .returned (.int .i64 (-1)) ∧ Below w.heap.size w w' := by
  go_enter Tryd.func15, Tryd.ntmps15
  go_wp2
  go_ret
  exact ⟨rfl, (Below.refl _ w).alloc (Nat.le_refl _) _⟩

theorem Tryd.infoI : (Tryd.prog.info? 2).map (fun i => (i.zero, i.size, i.bytes)) = some (some (.int .i64 0), 1, 8) := by kernel_rfl

/-- A row of numbers that has been made: at the head of the block b. -/
structure Mt (W : World) (b n : Nat) (xs : List Int) : Prop where
  len : xs.length = n
  small : n ≤ 1048576
  lt : b < W.heap.size
  cell : ∀ j, j < n → W.cell? ⟨b, j, none⟩ = some (.int .i64 (xs[j]?.getD 0))
  free : ∀ j, W.frozen? ⟨b, j, none⟩ = false
theorem Mt.below {W W' : World} {b n : Nat} {xs : List Int} (h : Mt W b n xs) (hb : Below W.heap.size W W') : Mt W' b n xs :=
  ⟨h.len, h.small, Nat.lt_of_lt_of_le h.lt hb.size, fun j hj => (hb.cell (p := ⟨b, j, none⟩) h.lt).trans (h.cell j hj), fun j => (hb.frozen (p := ⟨b, j, none⟩) h.lt).trans (h.free j)⟩
theorem Mt.drewN {W : World} {b n : Nat} {xs : List Int} (h : Mt W b n xs) (q : Nat) : Mt (W.drewN q) b n xs := ⟨h.len, h.small, h.lt, h.cell, h.free⟩
theorem Mt.only {W W' : World} {b q n : Nat} {xs : List Int} (h : Mt W b n xs) (ho : Only q W W') (hb : b ≠ q) : Mt W' b n xs := by
  have hg : W'.heap[b]? = W.heap[b]? := ho.block b hb
  exact ⟨h.len, h.small, by rw [ho.size]; exact h.lt, fun j hj => (World.cell?_of_block (w := W) (a := ⟨b, j, none⟩) hg).trans (h.cell j hj), fun j => (World.frozen?_of_block (w := W) (a := ⟨b, j, none⟩) hg).trans (h.free j)⟩
theorem Mt.setCell {W : World} {b n : Nat} {xs : List Int} (h : Mt W b n xs) {p : Addr} (hp : b ≠ p.block) (v : Value) : Mt (W.setCell p v) b n xs :=
  ⟨h.len, h.small, by show b < (Array.modify _ _ _).size; rw [Array.size_modify]; exact h.lt, fun j hj => by
    rw [World.cell?_of_block (w := W) (a := ⟨b, j, none⟩) (Below.heap_setCell W p v b hp)]; exact h.cell j hj, fun j => by
    rw [World.frozen?_setCell]; exact h.free j⟩

set_option maxHeartbeats 1600000 in
theorem toInt64S_any (A : Option Addr) (n cap : Nat) (xs : List Int) (w : World) (hA : Arg w A n xs) (hn : n ≤ 1048576) :
    Calls Tryd.prog 44 #[.slice A n cap] w fun e w' => ∃ b, e = .returned (.slice (some ⟨b, 0, none⟩) n n) ∧ w.heap.size ≤ b ∧ Below w.heap.size w w' ∧ Mt w' b n xs := by
  obtain ⟨i0, hi, hz0, hz1, hz2⟩ := info_parts Tryd.infoI
  go_enter Tryd.func44, Tryd.ntmps44
  go_wp2_with (at_make; refine wpList_make_full _ rfl _ _ 22 rfl w.heap.size 2 i0 (.int .i64 0) 1 Tryd.underlying22 hi hz0 hz1 .i64 .i64 _ _ n rfl rfl rfl rfl (by rw [hz2]; omega) (by unfold maxLen; omega) (Nat.le_refl _) ?_; intro w1 hown hgrow)
  have hb1 : Below w.heap.size w w1 := (Below.refl _ w).grown hgrow (Nat.le_refl _) (fun k h => by cases h)
  have hlt1 : w.heap.size < w1.heap.size := (hown.lt _ rfl).2
  have hold : ∀ j, j < n → ∃ v, w1.cell? ⟨w.heap.size, j, none⟩ = some v := by
    intro j hj
    rw [hown.cellAt j (by omega)]
    exact ⟨_, List.getElem?_eq_getElem (by rw [hown.1]; omega)⟩
  have hfr : ∀ j, w1.frozen? ⟨w.heap.size, j, none⟩ = false := fun j => hown.frozenAt j
  clear hown hgrow hz0 hz1 hz2 hi
  have HO := Lib.hid hold
  have HF := Lib.hid hfr
  have HB := Lib.hid hb1
  clear hold hfr hb1
  go_loopw [4] (fun i wr => ∃ k : Nat, k ≤ n ∧ i = .int .i64 k ∧ Below w.heap.size w wr ∧ w.heap.size < wr.heap.size ∧ (∀ j, j < n → ∃ v, wr.cell? ⟨w.heap.size, j, none⟩ = some v) ∧ (∀ j, wr.frozen? ⟨w.heap.size, j, none⟩ = false) ∧ ∀ j, j < k → wr.cell? ⟨w.heap.size, j, none⟩ = some (.int .i64 (xs[j]?.getD 0))) (fun i _ => n - (intOf i).toNat)
  case atStart => exact ⟨0, Nat.zero_le _, rfl, HB.out, hlt1, HO.out, HF.out, fun j hj => by omega⟩
  case round =>
    obtain ⟨k, hk, rfl, hb, hlt, hex, hfr, hdone⟩ := hrel
    have HB2 := Lib.hid hb
    have HEX := Lib.hid hex
    have HFR := Lib.hid hfr
    have HD := Lib.hid hdone
    clear hb hex hfr hdone
    by_cases hkn : k < n
    · obtain ⟨a, rfl, hbl, hc⟩ := (hA.from HB2.out).cell (by omega)
      have hck := hc k hkn
      obtain ⟨v, hv⟩ := HEX.out k hkn
      have hfk := HFR.out k
      clear hc
      go_wp2
      go_roundw
      case rel =>
        refine ⟨k + 1, by omega, by go_num, HB2.out.setCell (p := ⟨w.heap.size, k, none⟩) (Nat.le_refl _) _, ?_, fun j hj => ?_, fun j => by rw [World.frozen?_setCell]; exact HFR.out j, fun j hj => ?_⟩
        · show _ < (Array.modify _ _ _).size
          rw [Array.size_modify]; exact hlt
        · by_cases e : j = k
          · subst e; exact ⟨_, World.cell?_setCell_same' _ _ _ (by rw [hv]; rfl)⟩
          · rw [World.cell?_setCell_other _ ⟨w.heap.size, k, none⟩ ⟨w.heap.size, j, none⟩ _ (fun h => e (by injection h with _ h _; omega))]
            exact HEX.out j hj
        · by_cases e : j = k
          · subst e
            exact World.cell?_setCell_same' _ _ _ (by rw [hv]; rfl)
          · rw [World.cell?_setCell_other _ ⟨w.heap.size, k, none⟩ ⟨w.heap.size, j, none⟩ _ (fun h => e (by injection h with _ h _; omega))]
            exact HD.out j (by omega)
      case measure => simp [intOf]; omega
    · obtain rfl : k = n := by omega
      go_wp2
      go_ret
      exact ⟨_, rfl, Nat.le_refl _, HB2.out, ⟨hA.len, hn, hlt, HD.out, HFR.out⟩⟩

theorem third (w : World) (o1 : Obj) (u0 u1 v0 v1 : Value) (T : TypeId) (W : World) (hW : W = ((w.alloc o1).alloc (.cells #[u0, u1] T)).alloc (.cells #[v0, v1] T)) :
    (W.cell? ⟨w.heap.size + 1 + 1, 0, none⟩ = some v0 ∧ W.cell? ⟨w.heap.size + 1 + 1, 1, none⟩ = some v1 ∧ W.frozen? ⟨w.heap.size + 1 + 1, 0, none⟩ = false ∧ W.frozen? ⟨w.heap.size + 1 + 1, 1, none⟩ = false) ∧
    (W.cell? ⟨w.heap.size + 1, 0, none⟩ = some u0 ∧ W.cell? ⟨w.heap.size + 1, 1, none⟩ = some u1 ∧ W.frozen? ⟨w.heap.size + 1, 0, none⟩ = false ∧ W.frozen? ⟨w.heap.size + 1, 1, none⟩ = false) := by
  subst hW
  refine ⟨⟨?_, ?_, ?_, ?_⟩, ?_, ?_, ?_, ?_⟩ <;> simp [World.cell?_alloc_at, World.cell?_alloc_past, World.frozen?_alloc_at, World.frozen?_alloc_past]

set_option maxHeartbeats 400000 in
theorem toMatrix_any (c : Int) (A : Option Addr) (n cap : Nat) (xs : List Int) (w : World) (hA : Arg w A n xs) (hn : n ≤ 1048576) :
    Calls Tryd.prog 17 #[.agg #[.int .i64 c, .slice A n cap]] w fun e w' => ∃ b, e = .returned (.agg #[.int .i64 c, .slice (some ⟨b, 0, none⟩) n n]) ∧ w.heap.size ≤ b ∧ Below w.heap.size w w' ∧ Mt w' b n xs := by
  go_enter Tryd.func17, Tryd.ntmps17
  go_wp2_with fail
  refine (toInt64S_any A n cap xs _ (hA.below (below_alloc3 _ _ _ _)) hn).mono ?_
  rintro e w4 ⟨b, rfl, hge, hb4, hM⟩
  obtain ⟨⟨g0, g1, g2, g3⟩, k0, k1, k2, k3⟩ := third w (.cells #[.int .i64 c, .slice A n cap] 24) (.int .i64 0) (.slice none 0 0) (.int .i64 c) (.slice none 0 0) 28 _ rfl
  have e0 := (hb4.cell (p := ⟨w.heap.size + 1 + 1, 0, none⟩) (by simp)).trans g0
  have e1 := (hb4.cell (p := ⟨w.heap.size + 1 + 1, 1, none⟩) (by simp)).trans g1
  have f0 := (hb4.frozen (p := ⟨w.heap.size + 1 + 1, 0, none⟩) (by simp)).trans g2
  have f1 := (hb4.frozen (p := ⟨w.heap.size + 1 + 1, 1, none⟩) (by simp)).trans g3
  have e2 := (hb4.cell (p := ⟨w.heap.size + 1, 0, none⟩) (by simp)).trans k0
  have e3 := (hb4.cell (p := ⟨w.heap.size + 1, 1, none⟩) (by simp)).trans k1
  have f2 := (hb4.frozen (p := ⟨w.heap.size + 1, 0, none⟩) (by simp)).trans k2
  have f3 := (hb4.frozen (p := ⟨w.heap.size + 1, 1, none⟩) (by simp)).trans k3
  clear g0 g1 g2 g3 k0 k1 k2 k3
  have hB4 : Below w.heap.size w w4 := (below_alloc3 w _ _ _).trans (hb4.mono (by simp; omega))
  have hge' : w.heap.size + 1 + 1 < b := by simp at hge; omega
  have HB := Lib.hid hB4
  have HM := Lib.hid hM
  clear hb4 hB4 hM hge
  go_wp2
  refine bodyPost_ret (v := .agg #[.int .i64 c, .slice (some ⟨b, 0, none⟩) n n]) (by simp [results, Tryd.results17, go_sem, World.cell?_setCell_same', e2, e3]) rfl ?_
  exact ⟨b, rfl, by omega, ((HB.out.setCell (p := ⟨w.heap.size + 1 + 1, 1, none⟩) (by simp; omega) _).setCell (p := ⟨w.heap.size + 1, 0, none⟩) (by simp) _).setCell (p := ⟨w.heap.size + 1, 1, none⟩) (by simp) _, ((HM.out.setCell (p := ⟨w.heap.size + 1 + 1, 1, none⟩) (by simp; omega) _).setCell (p := ⟨w.heap.size + 1, 0, none⟩) (by simp; omega) _).setCell (p := ⟨w.heap.size + 1, 1, none⟩) (by simp; omega) _⟩
end Go.Proofs.YtjilenobkgmafaaDoor
