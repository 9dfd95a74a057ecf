/- Networks as values: what a law's own functions do with them. · A network among the arguments, opened. -/
import Derived.Test.YtfpahdbkcdpchaaLB
import Derived.Test.YtfpahdbkcdpchaaSsLaw
namespace Go.Proofs.Ytfpahdbkcdpchaa
open Go.RowKit Go.Joins Go.ChangeShapes Go.WideShapes Go.Deep
set_option linter.unusedVariables false

/-- A network's six values. -/
abbrev netL (d p no me : Int) (v u : Value) : List Value := [.int .i64 d, .int .i64 p, .int .i64 no, .int .i64 me, v, u]
theorem Try.infoNet : (Try.prog.info? 62).map (·.size) = some 6 := by kernel_rfl

/-- Two lists of lists that calls have made, one behind the other, in blocks of their own from B to below T. -/
structure NS (W : World) (B T : Nat) (v u : Value) (z y : List (List Int)) : Prop where
  ex : ∃ t, B ≤ t ∧ t ≤ T ∧ RS W B t v z ∧ RS W t T u y
theorem NS.next {W W' : World} {B T : Nat} {v u : Value} {z y : List (List Int)} (h : NS W B T v u z y) (hb : Below W.heap.size W W') : NS W' B T v u z y := by
  obtain ⟨t, h1, h2, h3, h4⟩ := h.ex
  exact ⟨t, h1, h2, h3.next hb, h4.next hb⟩
theorem NS.chg {W W' : World} {B T B' T' : Nat} {v u : Value} {z y : List (List Int)} (h : NS W B T v u z y) (hb : Chg B' T' W W') (hd : T ≤ B' ∨ T' ≤ B) : NS W' B T v u z y := by
  obtain ⟨t, h1, h2, h3, h4⟩ := h.ex
  exact ⟨t, h1, h2, h3.chg hb (by omega), h4.chg hb (by omega)⟩
theorem NS.wide {W : World} {B B' T : Nat} {v u : Value} {z y : List (List Int)} (h : NS W B T v u z y) (hB : B' ≤ B) : NS W B' T v u z y := by
  obtain ⟨t, h1, h2, h3, h4⟩ := h.ex
  exact ⟨t, by omega, h2, h3.wide hB, h4⟩
theorem NS.rr {W : World} {B T : Nat} {v u : Value} {z y : List (List Int)} (h : NS W B T v u z y) : RR W v z ∧ RR W u y := by
  obtain ⟨t, h1, h2, h3, h4⟩ := h.ex
  exact ⟨h3.rr, h4.rr⟩
theorem Chg.more {B T B' T' : Nat} {w w' : World} (h : Chg B T w w') (h1 : B' ≤ B) (h2 : T ≤ T') : Chg B' T' w w' := ⟨h.os, h.tape, h.output, h.size, fun k hk ho => h.block k hk (by omega)⟩

set_option maxHeartbeats 800000 in
theorem szNet_any (d p no me : Int) (A : Option Addr) (n cap : Nat) (z : List (List Int)) (A' : Option Addr) (n' cap' : Nat) (y : List (List Int)) (l : Int) (hl0 : 0 ≤ l) (hl1 : l ≤ 1048576) (w : World) (hA : ArgS w A n z) (hA' : ArgS w A' n' y) :
    Calls Try.prog 48 #[.agg (netL d p no me (.slice A n cap) (.slice A' n' cap')).toArray, .int .i64 l] w fun e w' => ((((n + total z + (n' + total y) : Nat) : Int) ≤ l ∧ e = .returned (.int .i64 (l - ((n + total z + (n' + total y) : Nat) : Int)))) ∨ (l < ((n + total z + (n' + total y) : Nat) : Int) ∧ e = .returned (.int .i64 (-1)))) ∧ Below w.heap.size w w' := by
  obtain ⟨N, hN⟩ : ∃ N, n + total z = N := ⟨_, rfl⟩
  obtain ⟨M, hM⟩ : ∃ M, n' + total y = M := ⟨_, rfl⟩
  have HN := Lib.hid hN
  have HM := Lib.hid hM
  rw [hN, hM]
  have hG := G1.start w (netL d p no me (.slice A n cap) (.slice A' n' cap')) 58
  clear hN hM
  go_enter Try.func48, Try.ntmps48
  go_wp2_with fail
  refine (szInt64SS_any A n cap z l hl0 hl1 _ (hA.below hG.b)).mono ?_
  rw [HN.out]
  rintro e w2 ⟨⟨h, rfl⟩ | ⟨h, rfl⟩, hb⟩
  · have hG2 := hG.next hb
    clear hb hG
    have x5 := hG2.x.cell 5 _ rfl
    go_wp2_with fail
    refine (szInt64SS_any A' n' cap' y (l - (N : Int)) (by omega) (by omega) _ (hA'.below hG2.b)).mono ?_
    rw [HM.out]
    rintro e w3 ⟨⟨h', rfl⟩ | ⟨h', rfl⟩, hb⟩
    · have hb3 := (hG2.next hb).b
      clear hb hG2 x5
      go_wp2_with fail
      go_ret
      exact ⟨.inl ⟨by omega, ret_int (by omega)⟩, hb3⟩
    · have hb3 := (hG2.next hb).b
      clear hb hG2 x5
      go_wp2_with fail
      go_ret
      exact ⟨.inr ⟨by omega, rfl⟩, hb3⟩
  · have hb3 := (hG.next hb).b
    clear hb hG
    go_wp2_with fail
    go_ret
    exact ⟨.inr ⟨by omega, rfl⟩, hb3⟩

set_option maxRecDepth 100000 in
set_option maxHeartbeats 3200000 in
theorem toNet_any (d p no me : Int) (A : Option Addr) (n cap : Nat) (z : List (List Int)) (A' : Option Addr) (n' cap' : Nat) (y : List (List Int)) (w : World) (hA : ArgS w A n z) (hA' : ArgS w A' n' y) (hn : n + total z ≤ 1048576) (hn' : n' + total y ≤ 1048576) :
    Calls Try.prog 50 #[.agg (netL d p no me (.slice A n cap) (.slice A' n' cap')).toArray] w fun e w' => ∃ g g', e = .returned (.agg (netL d p no me (.slice (some ⟨g, 0, none⟩) n n) (.slice (some ⟨g', 0, none⟩) n' n')).toArray) ∧ w.heap.size ≤ g ∧ Below w.heap.size w w' ∧ NS w' w.heap.size w'.heap.size (.slice (some ⟨g, 0, none⟩) n n) (.slice (some ⟨g', 0, none⟩) n' n') z y := by
  have hb1 := below_alloc1 w (.cells (netL d p no me (.slice A n cap) (.slice A' n' cap')).toArray 58)
  have hX1 := LB.one w (netL d p no me (.slice A n cap) (.slice A' n' cap')) 58
  have hb2 := below_alloc1 (w.alloc (.cells (netL d p no me (.slice A n cap) (.slice A' n' cap')).toArray 58)) (.cells (netL 0 0 0 0 (.slice none 0 0) (.slice none 0 0)).toArray 62)
  have hR2 := LF.start (w.alloc (.cells (netL d p no me (.slice A n cap) (.slice A' n' cap')).toArray 58)) (netL 0 0 0 0 (.slice none 0 0) (.slice none 0 0)) 62
  have hb3 := below_alloc1 ((w.alloc (.cells (netL d p no me (.slice A n cap) (.slice A' n' cap')).toArray 58)).alloc (.cells (netL 0 0 0 0 (.slice none 0 0) (.slice none 0 0)).toArray 62)) (.cells (netL 0 0 0 0 (.slice none 0 0) (.slice none 0 0)).toArray 62)
  have hO3 := LF.start ((w.alloc (.cells (netL d p no me (.slice A n cap) (.slice A' n' cap')).toArray 58)).alloc (.cells (netL 0 0 0 0 (.slice none 0 0) (.slice none 0 0)).toArray 62)) (netL 0 0 0 0 (.slice none 0 0) (.slice none 0 0)) 62
  have hX3 := (hX1.next hb2).next hb3
  have hR3 : LF _ _ _ := hR2.next hb3
  rw [World.size_alloc] at hR3
  rw [World.size_alloc, World.size_alloc] at hO3
  have HB3 := Lib.hid ((hb1.trans (hb2.mono hb1.size)).trans (hb3.mono (by simp; omega)))
  clear hb1 hb2 hb3 hX1 hR2
  have d0 := hX3.cell 0 _ rfl; have d1 := hX3.cell 1 _ rfl
  go_enter Try.func50, Try.ntmps50
  go_wp2_with fail
  refine (toField_any d p _).mono ?_
  rintro e w4 ⟨rfl, hb⟩
  have hX4 := hX3.next hb
  have hR4 := hR3.next hb
  have hO4 := hO3.next hb
  have HB4 := Lib.hid (HB3.out.trans (hb.mono (by simp; omega)))
  clear hb hX3 hR3 hO3 d0 d1 HB3
  have d2 := hX4.cell 2 _ rfl; have d3 := hX4.cell 3 _ rfl; have d4 := hX4.cell 4 _ rfl
  have o0 := hO4.b.cell 0 _ rfl; have o1 := hO4.b.cell 1 _ rfl; have o2 := hO4.b.cell 2 _ rfl; have o3 := hO4.b.cell 3 _ rfl
  have f0 := hO4.free 0 (by simp); have f1 := hO4.free 1 (by simp); have f2 := hO4.free 2 (by simp); have f3 := hO4.free 3 (by simp)
  go_wp2_with fail
  have hO5 : LF ((((w4.setCell ⟨w.heap.size + 1 + 1, 0, none⟩ (.int .i64 d)).setCell ⟨w.heap.size + 1 + 1, 1, none⟩ (.int .i64 p)).setCell ⟨w.heap.size + 1 + 1, 2, none⟩ (.int .i64 no)).setCell ⟨w.heap.size + 1 + 1, 3, none⟩ (.int .i64 me)) (w.heap.size + 1 + 1) (netL d p no me (.slice none 0 0) (.slice none 0 0)) := ((((hO4.set 0 (by simp) (.int .i64 d)).set 1 (by simp) (.int .i64 p)).set 2 (by simp) (.int .i64 no)).set 3 (by simp) (.int .i64 me))
  have hR5 := ((((hR4.other (b := (w.heap.size + 1 + 1)) (by omega) 0 (.int .i64 d)).other (b := (w.heap.size + 1 + 1)) (by omega) 1 (.int .i64 p)).other (b := (w.heap.size + 1 + 1)) (by omega) 2 (.int .i64 no)).other (b := (w.heap.size + 1 + 1)) (by omega) 3 (.int .i64 me))
  have hX5 := ((((hX4.other (b := (w.heap.size + 1 + 1)) (by omega) 0 (.int .i64 d)).other (b := (w.heap.size + 1 + 1)) (by omega) 1 (.int .i64 p)).other (b := (w.heap.size + 1 + 1)) (by omega) 2 (.int .i64 no)).other (b := (w.heap.size + 1 + 1)) (by omega) 3 (.int .i64 me))
  have hB5 := ((((HB4.out).setCell (p := ⟨w.heap.size + 1 + 1, 0, none⟩) (by show w.heap.size ≤ w.heap.size + 1 + 1; omega) (.int .i64 d)).setCell (p := ⟨w.heap.size + 1 + 1, 1, none⟩) (by show w.heap.size ≤ w.heap.size + 1 + 1; omega) (.int .i64 p)).setCell (p := ⟨w.heap.size + 1 + 1, 2, none⟩) (by show w.heap.size ≤ w.heap.size + 1 + 1; omega) (.int .i64 no)).setCell (p := ⟨w.heap.size + 1 + 1, 3, none⟩) (by show w.heap.size ≤ w.heap.size + 1 + 1; omega) (.int .i64 me)
  clear hO4 hR4 hX4 HB4 d2 d3 d4 o0 o1 o2 o3 f0 f1 f2 f3
  generalize ((((w4.setCell ⟨w.heap.size + 1 + 1, 0, none⟩ (.int .i64 d)).setCell ⟨w.heap.size + 1 + 1, 1, none⟩ (.int .i64 p)).setCell ⟨w.heap.size + 1 + 1, 2, none⟩ (.int .i64 no)).setCell ⟨w.heap.size + 1 + 1, 3, none⟩ (.int .i64 me)) = W5 at hO5 hR5 hX5 hB5 ⊢
  refine (toInt64SS_any A n cap z W5 (hA.below hB5) hn).mono ?_
  rintro e w6 ⟨g, rfl, hge, hb, hM⟩
  have hR6 := hR5.next hb
  have hO6 := hO5.next hb
  have hX6 := hX5.next hb
  have hB6 := hB5.trans (hb.mono hB5.size)
  have hz5 : w.heap.size + 1 + 1 < W5.heap.size := hO5.b.lt
  have hz6 := hb.size
  have HM := Lib.hid hM
  have HB6 := Lib.hid hB6
  clear hb hR5 hO5 hX5 hM hB6
  have d5 := hX6.cell 5 _ rfl
  have o4 := hO6.b.cell 4 _ rfl
  have f4 := hO6.free 4 (by simp)
  have HZ := Lib.hid (And.intro hge (And.intro hz5 hz6))
  clear hge hz5 hz6
  go_wp2_with fail
  have hO7 := hO6.set 4 (by simp) (.slice (some ⟨g, 0, none⟩) n n)
  have hR7 := hR6.other (b := (w.heap.size + 1 + 1)) (by omega) 4 (.slice (some ⟨g, 0, none⟩) n n)
  have hB7 := (HB6.out).setCell (p := ⟨w.heap.size + 1 + 1, 4, none⟩) (by show w.heap.size ≤ w.heap.size + 1 + 1; omega) (.slice (some ⟨g, 0, none⟩) n n)
  have hM7 : RS (w6.setCell ⟨w.heap.size + 1 + 1, 4, none⟩ (.slice (some ⟨g, 0, none⟩) n n)) W5.heap.size w6.heap.size _ _ := HM.out.chg (B' := 0) (T' := w.heap.size + 1 + 1 + 1) ⟨rfl, rfl, rfl, Nat.le_of_eq (size_setCell_ ..).symm, fun k hk ho => Below.heap_setCell w6 ⟨w.heap.size + 1 + 1, 4, none⟩ _ k (by show k ≠ w.heap.size + 1 + 1; omega)⟩ (.inr (by have := HZ.out; omega))
  have hs7 : (w6.setCell ⟨w.heap.size + 1 + 1, 4, none⟩ (.slice (some ⟨g, 0, none⟩) n n)).heap.size = w6.heap.size := size_setCell_ ..
  clear hO6 hR6 hX6 HB6 HM d5 o4 f4
  generalize w6.setCell ⟨w.heap.size + 1 + 1, 4, none⟩ (.slice (some ⟨g, 0, none⟩) n n) = W7 at hO7 hR7 hB7 hM7 hs7 ⊢
  refine (toInt64SS_any A' n' cap' y W7 (hA'.below hB7) hn').mono ?_
  rintro e w8 ⟨g', rfl, hge', hb, hM'⟩
  have hR8 := hR7.next hb
  have hO8 := hO7.next hb
  have hB8 := hB7.trans (hb.mono hB7.size)
  have HM := Lib.hid (hM7.next hb)
  have HM' := Lib.hid hM'
  have HZ' := Lib.hid (And.intro hge' (And.intro hs7 hb.size))
  have HB8 := Lib.hid hB8
  clear hb hR7 hO7 hM7 hM' hB8 hge' hs7 hB7
  have o0 := hO8.b.cell 0 _ rfl; have o1 := hO8.b.cell 1 _ rfl; have o2 := hO8.b.cell 2 _ rfl; have o3 := hO8.b.cell 3 _ rfl; have o4 := hO8.b.cell 4 _ rfl; have o5 := hO8.b.cell 5 _ rfl
  have f5 := hO8.free 5 (by simp)
  have r0 := hR8.b.cell 0 _ rfl; have r1 := hR8.b.cell 1 _ rfl; have r2 := hR8.b.cell 2 _ rfl; have r3 := hR8.b.cell 3 _ rfl; have r4 := hR8.b.cell 4 _ rfl; have r5 := hR8.b.cell 5 _ rfl
  have g0 := hR8.free 0 (by simp); have g1 := hR8.free 1 (by simp); have g2 := hR8.free 2 (by simp); have g3 := hR8.free 3 (by simp); have g4 := hR8.free 4 (by simp); have g5 := hR8.free 5 (by simp)
  have HR8 := Lib.hid hR8
  clear hO8 hR8
  go_wp2_with fail
  have hZ := HZ.out
  have hZ' := HZ'.out
  have hc : ∀ (W : World) (b i : Nat) (x : Value), b ≤ w.heap.size + 1 + 1 → Chg 0 (w.heap.size + 1 + 1 + 1) W (W.setCell ⟨b, i, none⟩ x) := fun W b i x hb => ⟨rfl, rfl, rfl, Nat.le_of_eq (size_setCell_ ..).symm, fun k hk ho => Below.heap_setCell W ⟨b, i, none⟩ x k (by show k ≠ b; omega)⟩
  have hfin := (((((((HR8.out.other (b := (w.heap.size + 1 + 1)) (by omega) 5 (.slice (some ⟨g', 0, none⟩) n' n')).set 0 (by simp) (.int .i64 d)).set 1 (by simp) (.int .i64 p)).set 2 (by simp) (.int .i64 no)).set 3 (by simp) (.int .i64 me)).set 4 (by simp) (.slice (some ⟨g, 0, none⟩) n n)).set 5 (by simp) (.slice (some ⟨g', 0, none⟩) n' n'))
  refine bodyPost_ret (v := .agg (netL d p no me (.slice (some ⟨g, 0, none⟩) n n) (.slice (some ⟨g', 0, none⟩) n' n')).toArray) (lb_result (p := 2) (fn := Try.f50) rfl _ rfl hfin.b Try.underlying62 rfl Try.infoNet) rfl ⟨g, g', rfl, by omega, ?_, ?_⟩
  · exact (((((((HB8.out).setCell (p := ⟨w.heap.size + 1 + 1, 5, none⟩) (by show w.heap.size ≤ w.heap.size + 1 + 1; omega) (.slice (some ⟨g', 0, none⟩) n' n')).setCell (p := ⟨w.heap.size + 1, 0, none⟩) (by show w.heap.size ≤ w.heap.size + 1; omega) (.int .i64 d)).setCell (p := ⟨w.heap.size + 1, 1, none⟩) (by show w.heap.size ≤ w.heap.size + 1; omega) (.int .i64 p)).setCell (p := ⟨w.heap.size + 1, 2, none⟩) (by show w.heap.size ≤ w.heap.size + 1; omega) (.int .i64 no)).setCell (p := ⟨w.heap.size + 1, 3, none⟩) (by show w.heap.size ≤ w.heap.size + 1; omega) (.int .i64 me)).setCell (p := ⟨w.heap.size + 1, 4, none⟩) (by show w.heap.size ≤ w.heap.size + 1; omega) (.slice (some ⟨g, 0, none⟩) n n)).setCell (p := ⟨w.heap.size + 1, 5, none⟩) (by show w.heap.size ≤ w.heap.size + 1; omega) (.slice (some ⟨g', 0, none⟩) n' n')
  · have hC := (((((((hc w8 (w.heap.size + 1 + 1) 5 (.slice (some ⟨g', 0, none⟩) n' n') (Nat.le_refl _)).trans (hc _ (w.heap.size + 1) 0 (.int .i64 d) (by omega))).trans (hc _ (w.heap.size + 1) 1 (.int .i64 p) (by omega))).trans (hc _ (w.heap.size + 1) 2 (.int .i64 no) (by omega))).trans (hc _ (w.heap.size + 1) 3 (.int .i64 me) (by omega))).trans (hc _ (w.heap.size + 1) 4 (.slice (some ⟨g, 0, none⟩) n n) (by omega))).trans (hc _ (w.heap.size + 1) 5 (.slice (some ⟨g', 0, none⟩) n' n') (by omega)))
    have h1 := HM.out.chg hC (.inr (by omega))
    have h2 := HM'.out.chg hC (.inr (by omega))
    simp only [size_setCell_]
    rw [hZ'.2.1] at h2
    exact ⟨w6.heap.size, by omega, by omega, h1.wide (by omega), h2⟩

set_option maxHeartbeats 400000 in
theorem eqField_sameN (d p : Int) (w : World) :
    Calls Try.prog 63 #[.agg #[.int .i64 d, .int .i64 p], .agg #[.int .i64 d, .int .i64 p]] w fun e w' => e = .returned (.bool true) ∧ Below w.heap.size w w' := by
  have hb := below_alloc2 w (.cells #[.int .i64 d, .int .i64 p] 28) (.cells #[.int .i64 d, .int .i64 p] 28)
  go_enter Try.func63, Try.ntmps63
  go_wp2
  go_ret
  exact ⟨rfl, hb⟩

set_option maxRecDepth 100000 in
set_option maxHeartbeats 1600000 in
theorem eqNet_rr {w : World} (d p no me : Int) {v v' u u' : Value} {z y : List (List Int)} (h : RR w v z ∧ RR w u y) (h' : RR w v' z ∧ RR w u' y) :
    Calls Try.prog 52 #[.agg (netL d p no me v u).toArray, .agg (netL d p no me v' u').toArray] w fun e w' => e = .returned (.bool true) ∧ Below w.heap.size w w' := by
  obtain ⟨h, k⟩ := h
  obtain ⟨h', k'⟩ := h'
  obtain ⟨A, cap, rfl⟩ := h.is
  obtain ⟨A', cap', rfl⟩ := h'.is
  obtain ⟨B, cbp, rfl⟩ := k.is
  obtain ⟨B', cbp', rfl⟩ := k'.is
  obtain ⟨n, hn⟩ : ∃ n, z.length = n := ⟨_, rfl⟩
  obtain ⟨m, hm⟩ : ∃ m, y.length = m := ⟨_, rfl⟩
  rw [hn] at h h' ⊢
  rw [hm] at k k' ⊢
  clear hn hm
  have hG := G2.start w (netL d p no me (.slice A n cap) (.slice B m cbp)) (netL d p no me (.slice A' n cap') (.slice B' m cbp')) 62 62
  have R1 := h.next hG.b
  have R2 := h'.next hG.b
  have Q1 := k.next hG.b
  have Q2 := k'.next hG.b
  clear h h' k k'
  go_enter Try.func52, Try.ntmps52
  go_wp2_with fail
  refine (eqField_sameN d p _).mono ?_
  rintro e w3 ⟨rfl, hb⟩
  have hG3 := hG.next hb
  have R13 := R1.next hb; have R23 := R2.next hb; have Q13 := Q1.next hb; have Q23 := Q2.next hb
  clear hb hG R1 R2 Q1 Q2
  have x2 := hG3.x.cell 2 _ rfl; have y2 := hG3.y.cell 2 _ rfl; have x3 := hG3.x.cell 3 _ rfl; have y3 := hG3.y.cell 3 _ rfl; have x4 := hG3.x.cell 4 _ rfl; have y4 := hG3.y.cell 4 _ rfl
  go_wp2_with fail
  refine (eqSS_rr R13 R23).mono ?_
  rintro e w4 ⟨rfl, hb⟩
  have hG4 := hG3.next hb
  have Q14 := Q13.next hb; have Q24 := Q23.next hb
  clear hb hG3 R13 R23 Q13 Q23 x2 y2 x3 y3 x4 y4
  have x5 := hG4.x.cell 5 _ rfl; have y5 := hG4.y.cell 5 _ rfl
  go_wp2_with fail
  refine (eqSS_rr Q14 Q24).mono ?_
  rintro e w5 ⟨rfl, hb⟩
  have HB4 := Lib.hid (hG4.next hb).b
  clear hb hG4 Q14 Q24 x5 y5
  go_wp2_with fail
  go_ret
  exact ⟨rfl, HB4.out⟩

set_option maxHeartbeats 1600000 in
theorem markNet_ns {w : World} {B T : Nat} (d p no me : Int) {v u : Value} {z y : List (List Int)} (h : NS w B T v u z y) (k0 : Nat) (hk0 : k0 + (total z + total y) ≤ 1048577) :
    Calls Try.prog 57 #[.agg (netL d p no me v u).toArray, .int .i64 k0] w fun e w' => e = .returned (.int .i64 ((k0 + (total z + total y) : Nat) : Int)) ∧ Chg B T w w' ∧ NS w' B T v u (marksS k0 z) (marksS (k0 + total z) y) := by
  obtain ⟨t, ht1, ht2, h1, h2⟩ := h.ex
  have hT := h2.hT
  obtain ⟨A, cap, rfl⟩ := h1.is
  obtain ⟨A', cap', rfl⟩ := h2.is
  obtain ⟨n, hn⟩ : ∃ n, z.length = n := ⟨_, rfl⟩
  obtain ⟨m, hm⟩ : ∃ m, y.length = m := ⟨_, rfl⟩
  rw [hn] at h1 ⊢
  rw [hm] at h2 ⊢
  clear hn hm h
  have hb0 := below_alloc1 w (.cells (netL d p no me (.slice A n cap) (.slice A' m cap')).toArray 62)
  have hX := LB.one w (netL d p no me (.slice A n cap) (.slice A' m cap')) 62
  go_enter Try.func57, Try.ntmps57
  go_wp2_with fail
  refine (markSS_rs (h1.next hb0) k0 (by omega)).mono ?_
  rintro e w1 ⟨rfl, hC, hR⟩
  have hX1 := hX.chg hC (by omega)
  have h21 := (h2.next hb0).chg hC (.inr (Nat.le_refl _))
  have HC := Lib.hid (((Chg.of hb0).trans hC).more (Nat.le_refl B) ht2)
  have HR := Lib.hid hR
  clear hC hR hX h2 h1 hb0
  obtain ⟨s, hs⟩ : ∃ s : Nat, k0 + total z = s := ⟨_, rfl⟩
  rw [hs]
  have hs2 : s + total y ≤ 1048577 := by omega
  have HS := Lib.hid hs
  clear hs hk0
  have x5 := hX1.cell 5 _ rfl
  go_wp2_with fail
  refine (markSS_rs h21 s hs2).mono ?_
  rintro e w2 ⟨rfl, hC, hR⟩
  have HC2 := Lib.hid (HC.out.trans (hC.more ht1 (Nat.le_refl T)))
  have HR2 := Lib.hid (HR.out.chg hC (.inl (Nat.le_refl _)))
  have HR3 := Lib.hid hR
  clear hC hR h21 hX1 x5 HC HR
  obtain ⟨q, hq⟩ : ∃ q : Nat, s + total y = q := ⟨_, rfl⟩
  rw [hq]
  have HQ := Lib.hid hq
  clear hq hs2
  go_wp2_with fail
  go_ret
  exact ⟨ret_int (by have h1 := HQ.out; have h2 := HS.out; omega), HC2.out, t, ht1, ht2, HR2.out, by rw [HS.out]; exact HR3.out⟩

theorem six {α : Type} {cs : Array α} (h : cs.size = 6) : ∃ c0 c1 c2 c3 c4 c5, cs = #[c0, c1, c2, c3, c4, c5] := by
  obtain ⟨l⟩ := cs
  match l, h with
  | [c0, c1, c2, c3, c4, c5], _ => exact ⟨c0, c1, c2, c3, c4, c5, rfl⟩
theorem fields5 {H : Type} {enc : TypeId × Value → H} {P : Program} {w : World} {base : Nat} {spare : Nat → Bool} {held : Bool} {t : TypeId} {f0 f1 f2 f3 f4 : Field} {fuel : Nat} {cs : List Value} {x : DataW H × List MemPlace}
    (ht : P.underlying t = some (.struct #[f0, f1, f2, f3, f4])) (h : DataW.trod enc P w base spare held fuel t cs = some x) :
    ∃ (y : Nat → DataW H × List MemPlace) (n : Nat), ∀ j f, [f0, f1, f2, f3, f4][j]? = some f → DataW.trod enc P w base spare held n f.type ((cs.drop f.offset).take (P.cellsOf f.type)) = some (y j) := by
  obtain ⟨xs, n, _, rfl, hl, hlen, hf⟩ := DataW.trod_struct ht h
  match xs, hlen with
  | [y0, y1, y2, y3, y4], _ =>
    refine ⟨fun j => [y0, y1, y2, y3, y4].getD j y0, n, fun j f hj => ?_⟩
    match j, hj with
    | 0, hj => simp at hj; subst hj; simpa using hf 0 _ rfl
    | 1, hj => simp at hj; subst hj; simpa using hf 1 _ rfl
    | 2, hj => simp at hj; subst hj; simpa using hf 2 _ rfl
    | 3, hj => simp at hj; subst hj; simpa using hf 3 _ rfl
    | 4, hj => simp at hj; subst hj; simpa using hf 4 _ rfl
    | j + 5, hj => simp at hj

set_option maxRecDepth 100000 in
theorem net_open {H : Type} {enc : TypeId × Value → H} {W : World} {r : Reach} {b0 base : Nat} {spare : Nat → Bool} {held : Bool} {v : Value} {d : DataW H} {ps : List MemPlace} (hv : Value.okWide Try.prog W r b0 58 v)
    (h : DataW.Trod enc Try.prog W base spare held 58 v d ps) : ∃ (d0 p0 no me : Int) (A : Option Addr) (n cap : Nat) (z : List (List Int)) (B : Option Addr) (m cbp : Nat) (y : List (List Int)), v = .agg (netL d0 p0 no me (.slice A n cap) (.slice B m cbp)).toArray ∧ (Lit.int .i64 d0).wf = true ∧ (Lit.int .i64 p0).wf = true ∧ (Lit.int .i64 no).wf = true ∧ (Lit.int .i64 me).wf = true ∧ ArgS W A n z ∧ ArgS W B m y := by
  have hC : Try.prog.cellsOf 58 = 6 := by kernel_rfl
  have hC0 : Try.prog.cellsOf 23 = 2 := by kernel_rfl
  have hC1 : Try.prog.cellsOf 24 = 1 := by kernel_rfl
  have hC2 : Try.prog.cellsOf 2 = 1 := by kernel_rfl
  obtain ⟨cs, rfl, hsz⟩ := okWide_struct Try.underlying58 hv
  obtain ⟨c0, c1, c2, c3, c4, c5, rfl⟩ := six (hsz.trans hC)
  obtain ⟨fuel, hf⟩ := h
  obtain ⟨yy, n, hy⟩ := fields5 Try.underlying58 hf
  have h0 := hy 0 _ rfl
  have h1 := hy 1 _ rfl
  have h2 := hy 2 _ rfl
  have h3 := hy 3 _ rfl
  have h4 := hy 4 _ rfl
  simp only [Value.cells, hC0, hC1, hC2, List.drop_zero] at h0 h1 h2 h3 h4
  have h0' : DataW.trod enc Try.prog W base spare held n 23 [c0, c1] = some (yy 0) := h0
  have h1' : DataW.trod enc Try.prog W base spare held n 2 [c2] = some (yy 1) := h1
  have h2' : DataW.trod enc Try.prog W base spare held n 2 [c3] = some (yy 2) := h2
  have h3' : DataW.trod enc Try.prog W base spare held n 24 [c4] = some (yy 3) := h3
  have h4' : DataW.trod enc Try.prog W base spare held n 24 [c5] = some (yy 4) := h4
  obtain ⟨u0, u1, n', _, _, g0, g1⟩ := trod_struct2 Try.underlying23 h0'
  simp only [hC2, List.drop_zero] at g0 g1
  have g0' : DataW.trod enc Try.prog W base spare held n' 2 [c0] = some u0 := g0
  have g1' : DataW.trod enc Try.prog W base spare held n' 2 [c1] = some u1 := g1
  obtain ⟨x0, e0, _, w0⟩ := DataW.trod_int Try.underlying2 g0'
  obtain ⟨x1, e1, _, w1⟩ := DataW.trod_int Try.underlying2 g1'
  obtain ⟨x2, e2, _, w2⟩ := DataW.trod_int Try.underlying2 h1'
  obtain ⟨x3, e3, _, w3⟩ := DataW.trod_int Try.underlying2 h2'
  obtain ⟨A, m, cap, zs, rfl, hA⟩ := args_open h3'
  obtain ⟨B, m', cap', ys, rfl, hB⟩ := args_open h4'
  simp at e0 e1 e2 e3
  subst e0 e1 e2 e3
  exact ⟨x0, x1, x2, x3, A, m, cap, zs, B, m', cap', ys, rfl, w0, w1, w2, w3, hA, hB⟩
end Go.Proofs.Ytfpahdbkcdpchaa
