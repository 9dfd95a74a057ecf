/- A product of matrices: the program's grid. · MulMatrices: the program and the model. · MulMatrices: the program and the model, whole. -/
import Derived.Test.YtilghmfffdmnjaaDoorSum
import Derived.Test.YtilghmfffdmnjaaDoorStep
import Derived.StillTailTactics
import Derived.Test.YtilghmfffdmnjaaDoorValid
namespace Go.Proofs.YtilghmfffdmnjaaDoor
open Go.RowKit Go.Joins
set_option linter.unusedVariables false

/-- The first k rows of a product. -/
def mulL (L M : List Nat) (k : Nat) : List Nat := (List.range k).map fun i => tms (nth L i) M M.length
theorem mulL_succ (L M : List Nat) (k : Nat) : mulL L M (k + 1) = mulL L M k ++ [tms (nth L k) M M.length] := range_succ_map _ _
theorem mulL_len (L M : List Nat) (k : Nat) : (mulL L M k).length = k := by simp [mulL]
theorem mulL_lt {L M : List Nat} (hM : ∀ j, nth M j < 1024) (k : Nat) : ∀ r ∈ mulL L M k, r < 1024 := by
  intro r hr
  obtain ⟨c, _, rfl⟩ := List.mem_map.1 hr
  exact nth_le hM _ _

set_option maxHeartbeats 1600000 in
theorem times_any (C : Nat) (L : List Nat) (hO : OkM C L) (D : Nat) (M : List Nat) (hP : OkM D M) (w : World) :
    Calls Tryd.prog 81 #[.agg (gridC L C), .agg (gridC M D)] w fun e w' => e = .returned (.agg (gridC (mulL L M L.length) D)) ∧ Below w.heap.size w w' := by
  have hl := hO.n10
  have hm := hP.n10
  have hr32 : ∀ j, nth L j < 4294967296 := fun j => Nat.lt_trans (hO.get' j) (by omega)
  have hs32 : ∀ j, nth M j < 4294967296 := fun j => Nat.lt_trans (hP.get' j) (by omega)
  have hM := hP.get'
  have g11 : (gridC M D)[11]? = some (.int .i64 D) := rfl
  have hG1 := (GAt.start w L C 105 hl hr32).below (below_alloc3 _ (.cells (gridC M D) 105) (.cells (gridC [] 0) 105) (.cells (gridC [] D) 105))
  have hH1 : GAt ((((w.alloc (.cells (gridC L C) 105)).alloc (.cells (gridC M D) 105)).alloc (.cells (gridC [] 0) 105)).alloc (.cells (gridC [] D) 105)) (w.heap.size + 1) M D := by
    have := (GAt.start (w.alloc (.cells (gridC L C) 105)) M D 105 hm hs32).below (below_alloc2 _ (.cells (gridC [] 0) 105) (.cells (gridC [] D) 105))
    simpa using this
  have hR1 : Room ((((w.alloc (.cells (gridC L C) 105)).alloc (.cells (gridC M D) 105)).alloc (.cells (gridC [] 0) 105)).alloc (.cells (gridC [] D) 105)) (w.heap.size + 1 + 1) := by
    have := (GAt.start ((w.alloc (.cells (gridC L C) 105)).alloc (.cells (gridC M D) 105)) [] 0 105 (by simp) (by intro j; simp [nth])).room.below (below_alloc1 _ (.cells (gridC [] D) 105))
    simpa using this
  have hT1 : GAt ((((w.alloc (.cells (gridC L C) 105)).alloc (.cells (gridC M D) 105)).alloc (.cells (gridC [] 0) 105)).alloc (.cells (gridC [] D) 105)) (w.heap.size + 1 + 1 + 1) [] D := by
    have := GAt.start (((w.alloc (.cells (gridC L C) 105)).alloc (.cells (gridC M D) 105)).alloc (.cells (gridC [] 0) 105)) [] D 105 (by simp) (by intro j; simp [nth])
    simpa using this
  have hb1 : Below w.heap.size w ((((w.alloc (.cells (gridC L C) 105)).alloc (.cells (gridC M D) 105)).alloc (.cells (gridC [] 0) 105)).alloc (.cells (gridC [] D) 105)) := (below_alloc1 w _).trans ((below_alloc3 _ _ _ _).mono (by simp))
  have HR1 := Lib.hid hR1
  have HT1 := Lib.hid hT1
  have HG1 := Lib.hid hG1
  have HH1 := Lib.hid hH1
  have HB1 := Lib.hid hb1
  clear hR1 hT1 hb1 hH1
  go_enter Tryd.func81, Tryd.ntmps81
  go_wp2_with (go_at_call 90; refine (all_any w.heap.size L C _ hG1).mono ?_; rintro e w1 ⟨rfl, q0, rfl⟩)
  clear hG1
  go_loopw [14] (fun i wr => ∃ k : Nat, k ≤ L.length ∧ i = .int .i64 k ∧ GAt wr w.heap.size L C ∧ GAt wr (w.heap.size + 1) M D ∧ GAt wr (w.heap.size + 1 + 1 + 1) (mulL L M k) D ∧ Room wr (w.heap.size + 1 + 1) ∧ Below w.heap.size w wr) (fun i _ => L.length - (intOf i).toNat)
  case atStart => exact ⟨0, Nat.zero_le _, rfl, HG1.out.drewN _, HH1.out.drewN _, HT1.out.drewN _, HR1.out.drewN _, HB1.out.trans (below_draws _ _ _)⟩
  case round =>
    obtain ⟨k, hk, rfl, hG, hH, hT, hR, hb⟩ := hrel
    clear HG1 HT1 HR1 HB1 HH1
    by_cases hlt : k < L.length
    · have hrow := hG.row k (by omega)
      have hx := hO.get' k
      have hts := mulL_succ L M k
      have hcl := nth_le hM (nth L k) M.length
      generalize hxx : nth L k = x at hrow hx hts hcl
      obtain ⟨s, hs⟩ : ∃ s, tms x M M.length = s := ⟨_, rfl⟩
      rw [hs] at hts hcl
      have HTS := Lib.hid hts
      have HS := Lib.hid hs
      have HT := Lib.hid hT
      have HR := Lib.hid hR
      have HB := Lib.hid hb
      clear hts hs hT hR hb hxx
      go_wp2_with (first | (go_at_call 87; refine (sum_any (w.heap.size + 1) M D hM x (by omega) _ hH).mono ?_; rw [HS.out]; rintro e w2 ⟨rfl, q2, rfl⟩) | (go_at_call 116; refine (push_any (w.heap.size + 1 + 1 + 1) (mulL L M k) D s (by omega) _ (HT.out.drewN _) (by rw [mulL_len]; omega)).mono ?_; rintro e w3 ⟨rfl, hT2, hO2⟩))
      go_roundw
      case rel => exact ⟨k + 1, by omega, by go_num, (hG.drewN _).only hO2 (by omega), (hH.drewN _).only hO2 (by omega), by rw [HTS.out]; exact hT2, (HR.out.drewN _).only hO2 (by omega), hO2.below (HB.out.trans (below_draws _ _ _)) (by omega)⟩
      case measure => simp [intOf]; omega
    · obtain rfl : k = L.length := by omega
      obtain ⟨g0, g1, g2, g3, g4, g5, g6, g7, g8, g9, g10, g11⟩ := hT.facts
      obtain ⟨⟨u0, u1, u2, u3, u4, u5, u6, u7, u8, u9, u10, u11, d0, d1, d2, d3, d4, d5, d6, d7, d8, d9, d10, d11⟩, f0, f1, f2, f3, f4, f5, f6, f7, f8, f9, f10, f11⟩ := hR.facts
      have hfin := GAt.store12 hR (mulL L M L.length) D hT.len hT.r32
      have HFIN := Lib.hid hfin
      have HB := Lib.hid hb
      clear hfin hR hT hG hH hb
      go_wp2_with fail
      refine bodyPost_ret (v := .agg (gridC (mulL L M L.length) D)) (grid_result (p := 4) (fn := Tryd.f81) rfl _ rfl HFIN.out) rfl ⟨rfl, ?_⟩
      exact (only12 wr _ _ _ _ _ _ _ _ _ _ _ _ _).below HB.out (by omega)
end Go.Proofs.YtilghmfffdmnjaaDoor
namespace Go.Proofs.YtilghmfffdmnjaaDoor
open Go.RowKit Go.Joins
set_option linter.unusedVariables false

end Go.Proofs.YtilghmfffdmnjaaDoor
namespace Go.Proofs.YtilghmfffdmnjaaDoor
open Go.RowKit Go.Joins
set_option linter.unusedVariables false

/-- What a function of two matrices returns: if one of them is not valid, ErrInvalid. -/
def mk2 (c : Int) (zs : List Int) (d : Int) (ys : List Int) (f : Nat → List Nat → Nat → List Nat → Int × List Int × Int) : Int × List Int × Int :=
  if okM c zs = true ∧ okM d ys = true then f c.toNat (zs.map Int.toNat) d.toNat (ys.map Int.toNat) else (0, [], 1)
theorem mk2_yes {C : Nat} {L : List Nat} (hO : OkM C L) {D : Nat} {M : List Nat} (hP : OkM D M) (f : Nat → List Nat → Nat → List Nat → Int × List Int × Int) : mk2 C (ints L) D (ints M) f = f C L D M := by
  rw [mk2, if_pos ⟨okM_ints hO, okM_ints hP⟩, toNats_ints, toNats_ints]; rfl
theorem mk2_no {c : Int} {zs : List Int} {d : Int} {ys : List Int} (h : okM c zs = false ∨ okM d ys = false) (f : Nat → List Nat → Nat → List Nat → Int × List Int × Int) : mk2 c zs d ys f = (0, [], 1) := by
  rw [mk2, if_neg (by rcases h with h | h <;> rw [h] <;> simp)]

def fMulMatrices (c : Int) (zs : List Int) (d : Int) (ys : List Int) : Int × List Int × Int := mk2 c zs d ys fun C L D M => if C = M.length then (D, ints (mulL L M L.length), 0) else (0, [], 2)

set_option maxHeartbeats 1200000 in
theorem implMulMatrices_anyR (c : Int) (A : Option Addr) (n cap : Nat) (xs : List Int) (d : Int) (A' : Option Addr) (n' cap' : Nat) (ys : List Int) (w : World) (hM : Rd w w.heap.size A n xs) (hN : Rd w w.heap.size A' n' ys) :
    Calls Tryd.prog 34 #[.agg #[.int .i64 c, .slice A n cap], .agg #[.int .i64 d, .slice A' n' cap']] w fun e w' => ∃ v, e = .returned (.tuple #[.agg #[.int .i64 (fMulMatrices c xs d ys).1, v], .int .i64 (fMulMatrices c xs d ys).2.2]) ∧ Below w.heap.size w w' ∧ Res w' w.heap.size w'.heap.size v (fMulMatrices c xs d ys).2.1 := by
  unfold fMulMatrices
  by_cases hk : okM c xs = false ∨ okM d ys = false
  · rw [mk2_no hk]
    obtain ⟨hR, hb0, hX, hY⟩ := three w (.int .i64 c) (.slice A n cap) (.int .i64 d) (.slice A' n' cap') _ rfl
    have hM0 := hM.below hb0
    have hN0 := hN.below hb0
    go_enter Tryd.func34, Tryd.ntmps34
    go_wp2_with fail
    refine (gridsFor_noR c xs d ys hk A n cap A' n' cap' _ hM0 hN0).mono ?_
    rintro e w1 ⟨rfl, hb⟩
    have hR1 := hR.below hb
    have hb1 := hb0.trans (hb.mono hb0.size)
    clear hb hb0 hR hX hY hM0 hN0
    obtain ⟨w2, w3, hst, hst2, hG, hH, hb⟩ := grids_put w1 [] 0 (by simp) (by intro j; simp [nth]) [] 0 (by simp) (by intro j; simp [nth]) _ rfl
    have hR3 := hR1.below hb
    have hb3 := hb1.trans (hb.mono hb1.size)
    clear hb hb1 hR1
    obtain ⟨x, y, h0, h1⟩ := hR3.ex
    have f0 := hR3.f0
    have f1 := hR3.f1
    go_wp2_with fail
    refine bodyPost_ret (v := .tuple #[.agg #[.int .i64 0, .slice none 0 0], .int .i64 1]) (mat_results (p := 4) (u := 5) (fn := Tryd.f34) rfl _ rfl (two_setCell _ _ _ _ h0 h1).1 (two_setCell _ _ _ _ h0 h1).2) rfl ⟨_, rfl, ?_, .nil none 0⟩
    exact (only2 _ _ _ _).below hb3 (by omega)
  · obtain ⟨C, L, rfl, rfl, hO⟩ := okM_nat (show okM c xs = true by cases e : okM c xs <;> simp_all)
    obtain ⟨D, M, rfl, rfl, hP⟩ := okM_nat (show okM d ys = true by cases e : okM d ys <;> simp_all)
    rw [mk2_yes hO hP]
    have hn10 := hO.n10
    have hm10 := hP.n10
    have hd10 := hP.c10
    by_cases hL : C = M.length
    · rw [if_pos hL]
      subst hL
      obtain ⟨hR, hb0, hX, hY⟩ := three w (.int .i64 M.length) (.slice A n cap) (.int .i64 D) (.slice A' n' cap') _ rfl
      have hM0 := hM.below hb0
      have hN0 := hN.below hb0
      go_enter Tryd.func34, Tryd.ntmps34
      go_wp2_with fail
      refine (gridsFor_yesR M.length L hO D M hP A n cap A' n' cap' _ hM0 hN0).mono ?_
      rintro e w1 ⟨rfl, hb⟩
      have hR1 := hR.below hb
      have hb1 := hb0.trans (hb.mono hb0.size)
      clear hb hb0 hR hX hY hM0 hN0
      obtain ⟨w2, w3, hst, hst2, hG, hH, hb⟩ := grids_put w1 L M.length hn10 (fun j => Nat.lt_trans (hO.get' j) (by omega)) M D hm10 (fun j => Nat.lt_trans (hP.get' j) (by omega)) _ rfl
      have hR3 := hR1.below hb
      have hb3 := hb1.trans (hb.mono hb1.size)
      clear hb hb1 hR1
      obtain ⟨g0, g1, g2, g3, g4, g5, g6, g7, g8, g9, g10, g11⟩ := hG.facts
      obtain ⟨m0, m1, m2, m3, m4, m5, m6, m7, m8, m9, m10, m11⟩ := hH.facts
      go_wp2_with fail
      refine (times_any M.length L hO D M hP _).mono ?_
      rintro e w4 ⟨rfl, hb⟩
      have hR4 := hR3.below hb
      have hb4 := hb3.trans (hb.mono hb3.size)
      clear hb hR3 hb3
      go_wp2_with fail
      refine (matrix_any (mulL L M L.length) D (by rw [mulL_len]; exact hn10) (nth_lt (by omega) (fun r hr => Nat.lt_trans (mulL_lt hP.get' _ r hr) (by omega))) _).mono ?_
      rintro e w5 ⟨v, rfl, hb, hV⟩
      have hR5 := hR4.below hb
      have hb5 := hb4.trans (hb.mono hb4.size)
      have hq5 : w.heap.size + 1 + 1 < w4.heap.size := hR4.lt
      clear hb hR4 hb4
      obtain ⟨x, y, h0, h1⟩ := hR5.ex
      have f0 := hR5.f0
      have f1 := hR5.f1
      obtain ⟨ao, m, cq, rfl⟩ := hV.form
      have HV := Lib.hid hV
      clear hV
      go_wp2_with fail
      refine bodyPost_ret (v := .tuple #[.agg #[.int .i64 D, _], .int .i64 0]) (mat_results (p := 4) (u := 5) (fn := Tryd.f34) rfl _ rfl (two_setCell _ _ _ _ h0 h1).1 (two_setCell _ _ _ _ h0 h1).2) rfl ⟨_, rfl, ?_, HV.out.fin (q := w.heap.size + 1 + 1) (by omega) (by omega) _ _⟩
      exact (only2 _ _ _ _).below hb5 (by omega)
    · rw [if_neg hL]
      have hL' : ¬ (C : Int) = M.length := by omega
      obtain ⟨hR, hb0, hX, hY⟩ := three w (.int .i64 C) (.slice A n cap) (.int .i64 D) (.slice A' n' cap') _ rfl
      have hM0 := hM.below hb0
      have hN0 := hN.below hb0
      go_enter Tryd.func34, Tryd.ntmps34
      go_wp2_with fail
      refine (gridsFor_yesR C L hO D M hP A n cap A' n' cap' _ hM0 hN0).mono ?_
      rintro e w1 ⟨rfl, hb⟩
      have hR1 := hR.below hb
      have hb1 := hb0.trans (hb.mono hb0.size)
      clear hb hb0 hR hX hY hM0 hN0
      obtain ⟨w2, w3, hst, hst2, hG, hH, hb⟩ := grids_put w1 L C hn10 (fun j => Nat.lt_trans (hO.get' j) (by omega)) M D hm10 (fun j => Nat.lt_trans (hP.get' j) (by omega)) _ rfl
      have hR3 := hR1.below hb
      have hb3 := hb1.trans (hb.mono hb1.size)
      clear hb hb1 hR1
      have g11 := hG.c11
      have m0 := hH.c0
      obtain ⟨x, y, h0, h1⟩ := hR3.ex
      have f0 := hR3.f0
      have f1 := hR3.f1
      go_wp2_with fail
      refine bodyPost_ret (v := .tuple #[.agg #[.int .i64 0, .slice none 0 0], .int .i64 2]) (mat_results (p := 4) (u := 5) (fn := Tryd.f34) rfl _ rfl (two_setCell _ _ _ _ h0 h1).1 (two_setCell _ _ _ _ h0 h1).2) rfl ⟨_, rfl, ?_, .nil none 0⟩
      exact (only2 _ _ _ _).below hb3 (by omega)
theorem implMulMatrices_any (c : Int) (b n cap : Nat) (xs : List Int) (d : Int) (b' n' cap' : Nat) (ys : List Int) (w : World) (hM : Mt w b n xs) (hN : Mt w b' n' ys) :
    Calls Tryd.prog 34 #[.agg #[.int .i64 c, .slice (some ⟨b, 0, none⟩) n cap], .agg #[.int .i64 d, .slice (some ⟨b', 0, none⟩) n' cap']] w fun e w' => ∃ v, e = .returned (.tuple #[.agg #[.int .i64 (fMulMatrices c xs d ys).1, v], .int .i64 (fMulMatrices c xs d ys).2.2]) ∧ Below w.heap.size w w' ∧ Res w' w.heap.size w'.heap.size v (fMulMatrices c xs d ys).2.1 :=
  implMulMatrices_anyR c (some ⟨b, 0, none⟩) n cap xs d (some ⟨b', 0, none⟩) n' cap' ys w hM.rd hN.rd

end Go.Proofs.YtilghmfffdmnjaaDoor
