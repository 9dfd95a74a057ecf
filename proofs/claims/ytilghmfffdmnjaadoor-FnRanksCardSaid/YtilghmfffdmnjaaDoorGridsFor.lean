/- The grids of two matrices. -/
import Derived.Test.YtilghmfffdmnjaaDoorGridFor
import Derived.Test.YtilghmfffdmnjaaDoorFour
namespace Go.Proofs.YtilghmfffdmnjaaDoor
open Go.RowKit Go.Joins
set_option linter.unusedVariables false

set_option maxHeartbeats 3200000 in
theorem gridsFor_yesR (C : Nat) (L : List Nat) (hO : OkM C L) (D : Nat) (M : List Nat) (hP : OkM D M) (A : Option Addr) (n cap : Nat) (A' : Option Addr) (n' cap' : Nat) (w : World) (hM : Rd w w.heap.size A n (ints L)) (hN : Rd w w.heap.size A' n' (ints M)) :
    Calls Tryd.prog 80 #[.agg #[.int .i64 C, .slice A n cap], .agg #[.int .i64 D, .slice A' n' cap']] w fun e w' => e = .returned (.tuple #[.agg (gridC L C), .agg (gridC M D), .int .i64 0]) ∧ Below w.heap.size w w' := by
  obtain ⟨hR, hT, hb0, hX, hY⟩ := four w (.int .i64 C) (.slice A n cap) (.int .i64 D) (.slice A' n' cap') _ rfl
  have hM0 := hM.below hb0
  have hN0 := hN.below hb0
  go_enter Tryd.func80, Tryd.ntmps80
  go_wp2_with fail
  refine (gridFor_yesR C L hO A n cap _ hM0).mono ?_
  rintro e w1 ⟨rfl, hb⟩
  have hR1 := hR.below hb; have hT1 := hT.below hb; have hY1 := hY.next hb; have hN1 := hN0.below hb
  have HSZ := Lib.hid (show w.heap.size + 4 ≤ w1.heap.size by have := hR1.lt; have := hT1.lt; omega)
  have hb1 := hb0.trans (hb.mono hb0.size)
  clear hb hb0 hX hY hR hT hM0 hN0
  obtain ⟨w2, hst, hG2, hb⟩ := grid_put w1 L C hO.n10 (fun j => Nat.lt_trans (hO.get' j) (by omega))
  have hR2 := hR1.below hb; have hT2 := hT1.below hb; have hY2 := hY1.next hb; have hN2 := hN1.below hb
  have hb2 := hb1.trans (hb.mono hb1.size)
  have y0 := hY2.c0; have y1 := hY2.c1
  clear hb hb1 hY1 hR1 hT1 hN1
  go_wp2_with fail
  refine (gridFor_yesR D M hP A' n' cap' _ hN2).mono ?_
  rintro e w3 ⟨rfl, hb⟩
  have hR3 := hR2.below hb; have hT3 := hT2.below hb; have hG3 := hG2.below hb
  have hb3 := hb2.trans (hb.mono hb2.size)
  have HSZ3 := Lib.hid (show w1.heap.size < w3.heap.size from hG3.lt)
  clear hb hb2 hR2 hT2 hG2 hY2 hN2
  obtain ⟨w4, hst2, hHr, hb⟩ := grid_put w3 M D hP.n10 (fun j => Nat.lt_trans (hP.get' j) (by omega))
  have hRr := hR3.below hb; have hTr := hT3.below hb; have hGr := hG3.below hb
  have hbr := hb3.trans (hb.mono hb3.size)
  clear hb hb3 hR3 hT3 hG3
  obtain ⟨g0, g1, g2, g3, g4, g5, g6, g7, g8, g9, g10, g11⟩ := hGr.facts
  obtain ⟨m0, m1, m2, m3, m4, m5, m6, m7, m8, m9, m10, m11⟩ := hHr.facts
  obtain ⟨⟨u0, u1, u2, u3, u4, u5, u6, u7, u8, u9, u10, u11, d0, d1, d2, d3, d4, d5, d6, d7, d8, d9, d10, d11⟩, f0, f1, f2, f3, f4, f5, f6, f7, f8, f9, f10, f11⟩ := hRr.facts
  obtain ⟨⟨v0, v1, v2, v3, v4, v5, v6, v7, v8, v9, v10, v11, e0, e1, e2, e3, e4, e5, e6, e7, e8, e9, e10, e11⟩, k0, k1, k2, k3, k4, k5, k6, k7, k8, k9, k10, k11⟩ := hTr.facts
  have hA := GAt.store12 hRr L C (by first | exact hGr.len | simp) (by first | exact hGr.r32 | (intro j; simp [nth]))
  have hO1 := only12 w4 (w.heap.size + 1 + 1) (.int .i64 (L.length : Nat)) (.int .u32 (nth L 0 : Nat)) (.int .u32 (nth L 1 : Nat)) (.int .u32 (nth L 2 : Nat)) (.int .u32 (nth L 3 : Nat)) (.int .u32 (nth L 4 : Nat)) (.int .u32 (nth L 5 : Nat)) (.int .u32 (nth L 6 : Nat)) (.int .u32 (nth L 7 : Nat)) (.int .u32 (nth L 8 : Nat)) (.int .u32 (nth L 9 : Nat)) (.int .i64 C)
  have hTr2 := hTr.only hO1 (by omega)
  have hA2 := GAt.store12 hTr2 M D (by first | exact hHr.len | simp) (by first | exact hHr.r32 | (intro j; simp [nth]))
  have hO2 := fun (W : World) => only12 W (w.heap.size + 1 + 1 + 1) (.int .i64 (M.length : Nat)) (.int .u32 (nth M 0 : Nat)) (.int .u32 (nth M 1 : Nat)) (.int .u32 (nth M 2 : Nat)) (.int .u32 (nth M 3 : Nat)) (.int .u32 (nth M 4 : Nat)) (.int .u32 (nth M 5 : Nat)) (.int .u32 (nth M 6 : Nat)) (.int .u32 (nth M 7 : Nat)) (.int .u32 (nth M 8 : Nat)) (.int .u32 (nth M 9 : Nat)) (.int .i64 D)
  have HA := Lib.hid (hA.only (hO2 _) (by omega))
  have HA2 := Lib.hid hA2
  have HB := Lib.hid ((hO2 _).below (hO1.below hbr (by omega)) (by omega))
  clear hA hA2 hO1 hO2 hTr2 hRr hTr hbr
  have z1 : w.heap.size + 4 ≤ w1.heap.size := by have := HSZ.out; omega
  have z3 : w1.heap.size < w3.heap.size := HSZ3.out
  have n1 : ¬ w.heap.size + 1 + 1 = w3.heap.size := by omega
  have n2 : ¬ w.heap.size + 1 + 1 + 1 = w3.heap.size := by omega
  have n3 : ¬ w.heap.size + 1 + 1 = w1.heap.size := by omega
  have n4 : ¬ w.heap.size + 1 + 1 + 1 = w1.heap.size := by omega
  clear z1 z3
  go_wp2_with fail
  go_region
  go_wp2_with fail
  refine bodyPost_ret (v := .tuple #[.agg (gridC L C), .agg (gridC M D), .int .i64 0]) (grids_results (p := 4) (s := 5) (u := 6) (fn := Tryd.f80) rfl _ rfl rfl (HA.out.drewN 1) (HA2.out.drewN 1)) rfl ⟨rfl, HB.out.drew⟩
theorem gridsFor_yes (C : Nat) (L : List Nat) (hO : OkM C L) (D : Nat) (M : List Nat) (hP : OkM D M) (b n cap b' n' cap' : Nat) (w : World) (hM : Mt w b n (ints L)) (hN : Mt w b' n' (ints M)) :
    Calls Tryd.prog 80 #[.agg #[.int .i64 C, .slice (some ⟨b, 0, none⟩) n cap], .agg #[.int .i64 D, .slice (some ⟨b', 0, none⟩) n' cap']] w fun e w' => e = .returned (.tuple #[.agg (gridC L C), .agg (gridC M D), .int .i64 0]) ∧ Below w.heap.size w w' :=
  gridsFor_yesR C L hO D M hP (some ⟨b, 0, none⟩) n cap (some ⟨b', 0, none⟩) n' cap' w hM.rd hN.rd

/-- The grid of any matrix, as 'gridFor' tells it: zeros and ErrInvalid if it is not valid. -/
theorem gridFor_genR (c : Int) (xs : List Int) : ∃ (L : List Nat) (c' k : Int), L.length ≤ 10 ∧ (∀ j, nth L j < 4294967296) ∧ ((okM c xs = true ∧ k = 0) ∨ (okM c xs = false ∧ k = 1)) ∧
    ∀ (A : Option Addr) (n cap : Nat) (w : World), Rd w w.heap.size A n xs → Calls Tryd.prog 76 #[.agg #[.int .i64 c, .slice A n cap]] w fun e w' => e = .returned (.tuple #[.agg (gridC L c'), .int .i64 k]) ∧ Below w.heap.size w w' := by
  cases hk : okM c xs with
  | false => exact ⟨[], 0, 1, by simp, by intro j; simp [nth], .inr ⟨rfl, rfl⟩, fun A n cap w hM => gridFor_noR c A n cap xs w hM hk⟩
  | true =>
    obtain ⟨C, L, rfl, rfl, hO⟩ := okM_nat hk
    exact ⟨L, C, 0, hO.n10, fun j => Nat.lt_trans (hO.get' j) (by omega), .inl ⟨rfl, rfl⟩, fun A n cap w hM => gridFor_yesR C L hO A n cap w hM⟩

set_option maxHeartbeats 3200000 in
theorem gridsFor_noR (c : Int) (xs : List Int) (d : Int) (ys : List Int) (hk : okM c xs = false ∨ okM d ys = false) (A : Option Addr) (n cap : Nat) (A' : Option Addr) (n' cap' : Nat) (w : World) (hM : Rd w w.heap.size A n xs) (hN : Rd w w.heap.size A' n' ys) :
    Calls Tryd.prog 80 #[.agg #[.int .i64 c, .slice A n cap], .agg #[.int .i64 d, .slice A' n' cap']] w fun e w' => e = .returned (.tuple #[.agg (gridC [] 0), .agg (gridC [] 0), .int .i64 1]) ∧ Below w.heap.size w w' := by
  obtain ⟨L, cL, k1, hl1, hr1, hk1, K1⟩ := gridFor_genR c xs
  obtain ⟨M, cM, k2, hl2, hr2, hk2, K2⟩ := gridFor_genR d ys
  have HK1 := Lib.hid K1
  have HK2 := Lib.hid K2
  clear K1 K2
  have hk12 : k1 = 1 ∨ k1 = 0 ∧ k2 = 1 := by
    rcases hk1 with ⟨a1, rfl⟩ | ⟨a1, rfl⟩
    · rcases hk2 with ⟨a2, rfl⟩ | ⟨a2, rfl⟩
      · rw [a1, a2] at hk; simp at hk
      · exact .inr ⟨rfl, rfl⟩
    · exact .inl rfl
  clear hk1 hk2 hk
  obtain ⟨hR, hT, hb0, hX, hY⟩ := four w (.int .i64 c) (.slice A n cap) (.int .i64 d) (.slice A' n' cap') _ rfl
  have hM0 := hM.below hb0
  have hN0 := hN.below hb0
  rcases hk12 with rfl | ⟨rfl, rfl⟩
  all_goals
    go_enter Tryd.func80, Tryd.ntmps80
    go_wp2_with fail
    refine (HK1.out A n cap _ hM0).mono ?_
    rintro e w1 ⟨rfl, hb⟩
    have hR1 := hR.below hb; have hT1 := hT.below hb; have hY1 := hY.next hb; have hN1 := hN0.below hb
    have hb1 := hb0.trans (hb.mono hb0.size)
    clear hb hb0 hX hY hR hT hM0 hN0
    obtain ⟨w2, hst, hG2, hb⟩ := grid_put w1 L cL hl1 hr1
    have hR2 := hR1.below hb; have hT2 := hT1.below hb; have hY2 := hY1.next hb; have hN2 := hN1.below hb
    have hb2 := hb1.trans (hb.mono hb1.size)
    have y0 := hY2.c0; have y1 := hY2.c1
    clear hb hb1 hY1 hR1 hT1 hN1
    go_wp2_with fail
    refine (HK2.out A' n' cap' _ hN2).mono ?_
    rintro e w3 ⟨rfl, hb⟩
    have hR3 := hR2.below hb; have hT3 := hT2.below hb
    have hb3 := hb2.trans (hb.mono hb2.size)
    clear hb hb2 hR2 hT2 hG2 hY2 hN2
    obtain ⟨w4, hst2, hHr, hb⟩ := grid_put w3 M cM hl2 hr2
    have hRr := hR3.below hb; have hTr := hT3.below hb
    have hbr := hb3.trans (hb.mono hb3.size)
    clear hb hb3 hR3 hT3 hHr
    obtain ⟨⟨u0, u1, u2, u3, u4, u5, u6, u7, u8, u9, u10, u11, d0, d1, d2, d3, d4, d5, d6, d7, d8, d9, d10, d11⟩, f0, f1, f2, f3, f4, f5, f6, f7, f8, f9, f10, f11⟩ := hRr.facts
    obtain ⟨⟨v0, v1, v2, v3, v4, v5, v6, v7, v8, v9, v10, v11, e0, e1, e2, e3, e4, e5, e6, e7, e8, e9, e10, e11⟩, k0, k1, k2, k3, k4, k5, k6, k7, k8, k9, k10, k11⟩ := hTr.facts
    have hA := GAt.store12 hRr [] 0 (by simp) (by intro j; simp [nth])
    have hO1 := only12 w4 (w.heap.size + 1 + 1) (.int .i64 (([] : List Nat).length : Nat)) (.int .u32 (nth [] 0 : Nat)) (.int .u32 (nth [] 1 : Nat)) (.int .u32 (nth [] 2 : Nat)) (.int .u32 (nth [] 3 : Nat)) (.int .u32 (nth [] 4 : Nat)) (.int .u32 (nth [] 5 : Nat)) (.int .u32 (nth [] 6 : Nat)) (.int .u32 (nth [] 7 : Nat)) (.int .u32 (nth [] 8 : Nat)) (.int .u32 (nth [] 9 : Nat)) (.int .i64 0)
    have hTr2 := hTr.only hO1 (by omega)
    have hA2 := GAt.store12 hTr2 [] 0 (by simp) (by intro j; simp [nth])
    have hO2 := fun (W : World) => only12 W (w.heap.size + 1 + 1 + 1) (.int .i64 (([] : List Nat).length : Nat)) (.int .u32 (nth [] 0 : Nat)) (.int .u32 (nth [] 1 : Nat)) (.int .u32 (nth [] 2 : Nat)) (.int .u32 (nth [] 3 : Nat)) (.int .u32 (nth [] 4 : Nat)) (.int .u32 (nth [] 5 : Nat)) (.int .u32 (nth [] 6 : Nat)) (.int .u32 (nth [] 7 : Nat)) (.int .u32 (nth [] 8 : Nat)) (.int .u32 (nth [] 9 : Nat)) (.int .i64 0)
    have HA := Lib.hid (hA.only (hO2 _) (by omega))
    have HA2 := Lib.hid hA2
    have HB := Lib.hid ((hO2 _).below (hO1.below hbr (by omega)) (by omega))
    clear hA hA2 hO1 hO2 hTr2 hRr hTr hbr
    go_wp2_with fail
    first | (go_region; go_wp2_with fail; refine bodyPost_ret (v := .tuple #[.agg (gridC [] 0), .agg (gridC [] 0), .int .i64 1]) (grids_results (p := 4) (s := 5) (u := 6) (fn := Tryd.f80) rfl _ rfl rfl (HA.out.drewN 1) (HA2.out.drewN 1)) rfl ⟨rfl, HB.out.drew⟩) | (trace_state; exact bodyPost_ret (v := .tuple #[.agg (gridC [] 0), .agg (gridC [] 0), .int .i64 1]) (grids_results (p := 4) (s := 5) (u := 6) (fn := Tryd.f80) rfl _ rfl rfl HA.out HA2.out) rfl ⟨rfl, HB.out⟩)
theorem gridsFor_no (c : Int) (xs : List Int) (d : Int) (ys : List Int) (hk : okM c xs = false ∨ okM d ys = false) (b n cap b' n' cap' : Nat) (w : World) (hM : Mt w b n xs) (hN : Mt w b' n' ys) :
    Calls Tryd.prog 80 #[.agg #[.int .i64 c, .slice (some ⟨b, 0, none⟩) n cap], .agg #[.int .i64 d, .slice (some ⟨b', 0, none⟩) n' cap']] w fun e w' => e = .returned (.tuple #[.agg (gridC [] 0), .agg (gridC [] 0), .int .i64 1]) ∧ Below w.heap.size w w' :=
  gridsFor_noR c xs d ys hk (some ⟨b, 0, none⟩) n cap (some ⟨b', 0, none⟩) n' cap' w hM.rd hN.rd
end Go.Proofs.YtilghmfffdmnjaaDoor
