/- A matrix turned: the program's grid. · Rows and columns exchanged: the model's. · TurnMatrix: the program and the model. -/
import Derived.Test.YtilghmfffdmnjaaDoorValid
import Derived.Test.YtilghmfffdmnjaaDoorSp1
import Derived.Test.YtilghmfffdmnjaaDoorOut
import Derived.Test.YtilghmfffdmnjaaDoorGridFor
namespace Go.Proofs.YtilghmfffdmnjaaDoor
open Go.RowKit Go.Joins
set_option linter.unusedVariables false

/-- The columns of rows. -/
def turnL (L : List Nat) (k : Nat) : List Nat := (List.range k).map fun c => colm L c L.length
theorem turnL_succ (L : List Nat) (k : Nat) : turnL L (k + 1) = turnL L k ++ [colm L k L.length] := range_succ_map _ _
theorem turnL_len (L : List Nat) (k : Nat) : (turnL L k).length = k := by simp [turnL]
theorem turnL_lt {L : List Nat} (hn : L.length ≤ 10) (k : Nat) : ∀ r ∈ turnL L k, r < 1024 := by
  intro r hr
  obtain ⟨c, _, rfl⟩ := List.mem_map.1 hr
  exact Nat.lt_of_lt_of_le (colm_lt L c L.length) (Nat.pow_le_pow_right (n := 2) (by omega) hn)

set_option maxHeartbeats 1600000 in
theorem turned_any (C : Nat) (L : List Nat) (hO : OkM C L) (w : World) :
    Calls Tryd.prog 89 #[.agg (gridC L C)] w fun e w' => e = .returned (.agg (gridC (turnL L C) L.length)) ∧ Below w.heap.size w w' := by
  have hl := hO.n10
  have hc := hO.c10
  have hr32 : ∀ j, nth L j < 4294967296 := fun j => Nat.lt_trans (hO.get' j) (by omega)
  have hG := GAt.start w L C 105 hl hr32
  have g11 : (gridC L C)[11]? = some (.int .i64 C) := rfl
  have g0 : (gridC L C)[0]? = some (.int .i64 L.length) := rfl
  go_enter Tryd.func89, Tryd.ntmps89
  have hR1 : Room (((w.alloc (.cells (gridC L C) 105)).alloc (.cells (gridC [] 0) 105)).alloc (.cells (gridC [] L.length) 105)) (w.heap.size + 1) := by
    have := (GAt.start (w.alloc (.cells (gridC L C) 105)) [] 0 105 (by simp) (by intro j; simp [nth])).room.below (below_alloc1 _ (.cells (gridC [] L.length) 105))
    simpa using this
  have hT1 : GAt (((w.alloc (.cells (gridC L C) 105)).alloc (.cells (gridC [] 0) 105)).alloc (.cells (gridC [] L.length) 105)) (w.heap.size + 1 + 1) [] L.length := by
    have := GAt.start ((w.alloc (.cells (gridC L C) 105)).alloc (.cells (gridC [] 0) 105)) [] L.length 105 (by simp) (by intro j; simp [nth])
    simpa using this
  have hG1 := hG.below (below_alloc2 _ (.cells (gridC [] 0) 105) (.cells (gridC [] L.length) 105))
  have hb1 := below_alloc3 w (.cells (gridC L C) 105) (.cells (gridC [] 0) 105) (.cells (gridC [] L.length) 105)
  have HR1 := Lib.hid hR1
  have HT1 := Lib.hid hT1
  have HG1 := Lib.hid hG1
  have HB1 := Lib.hid hb1
  clear hR1 hT1 hG1 hb1 hG
  go_wp2_with fail
  go_loopw [14] (fun i wr => ∃ k : Nat, k ≤ C ∧ i = .int .i64 k ∧ GAt wr w.heap.size L C ∧ GAt wr (w.heap.size + 1 + 1) (turnL L k) L.length ∧ Room wr (w.heap.size + 1) ∧ Below w.heap.size w wr) (fun i _ => C - (intOf i).toNat)
  case atStart => exact ⟨0, Nat.zero_le _, rfl, HG1.out, HT1.out, HR1.out, HB1.out⟩
  case round =>
    obtain ⟨k, hk, rfl, hG, hT, hR, hb⟩ := hrel
    clear HG1 HT1 HR1 HB1
    by_cases hlt : k < C
    · have HT := Lib.hid hT
      have HR := Lib.hid hR
      have HB := Lib.hid hb
      clear hT hR hb
      go_wp2_with (go_at_call 90; refine (all_any w.heap.size L C _ hG).mono ?_; rintro e w1 ⟨rfl, q0, rfl⟩)
      go_loop [5, 20] (fun r i => ∃ j : Nat, j ≤ L.length ∧ i = .int .i64 j ∧ r = .int .u32 (colm L k j : Nat)) (fun _ i => L.length - (intOf i).toNat)
      case atStart => exact ⟨0, Nat.zero_le _, rfl, rfl⟩
      case round =>
        obtain ⟨j, hj, rfl, rfl⟩ := hrel
        by_cases hlj : j < L.length
        · have hrow := (hG.drewN q0).row j (by omega)
          have hx := hr32 j
          have hcs : colm L k (j + 1) = if (nth L j).testBit k then colm L k j ^^^ 2 ^ j else colm L k j := rfl
          have hcl := Nat.lt_of_lt_of_le (colm_lt L k j) (Nat.pow_le_pow_right (n := 2) (by omega) (show j ≤ 10 by omega))
          obtain ⟨P, hP⟩ : ∃ P : Nat, 2 ^ j = P := ⟨_, rfl⟩
          have hp : P ≤ 1024 := by rw [← hP]; exact pow_le10 (by omega)
          rw [hP] at hcs
          generalize colm L k j = s at hcs hcl ⊢
          generalize nth L j = x at hrow hx hcs
          have HP := Lib.hid hP
          clear hP
          by_cases hb : x.testBit k = true
          · rw [if_pos hb] at hcs
            have HB := Lib.hid hb
            have HCS := Lib.hid hcs
            clear hb hcs
            go_wp2_with (first | (go_at_call 121; refine (has_any x k (by omega) (by omega) _).mono ?_; rw [HB.out]; rintro e w1 ⟨rfl, rfl⟩) | (go_at_call 86; refine (unit_any j (by omega) _).mono ?_; rw [HP.out]; rintro e w1 ⟨rfl, rfl⟩) | (go_at_call 91; refine (plus_any s P (by omega) (by omega) _).mono ?_; rw [← HCS.out]; rintro e w1 ⟨rfl, rfl⟩))
            go_round
            case rel => exact ⟨j + 1, by omega, by go_num, rfl⟩
            case measure => simp [intOf]; omega
          · rw [if_neg hb] at hcs
            have HB := Lib.hid (show x.testBit k = false by simpa using hb)
            have HCS := Lib.hid hcs
            clear hb hcs
            go_wp2_with (go_at_call 121; refine (has_any x k (by omega) (by omega) _).mono ?_; rw [HB.out]; rintro e w1 ⟨rfl, rfl⟩)
            go_round
            case rel => exact ⟨j + 1, by omega, by go_num, by rw [HCS.out]⟩
            case measure => simp [intOf]; omega
        · obtain rfl : j = L.length := by omega
          have hcl := Nat.lt_of_lt_of_le (colm_lt L k L.length) (Nat.pow_le_pow_right (n := 2) (by omega) hl)
          have hts := turnL_succ L k
          generalize colm L k L.length = s at hcl hts ⊢
          have HTS := Lib.hid hts
          clear hts
          go_wp2_with (go_at_call 116; refine (push_any (w.heap.size + 1 + 1) (turnL L k) L.length s (by omega) _ (HT.out.drewN q0) (by rw [turnL_len]; omega)).mono ?_; rintro e w2 ⟨rfl, hT2, hO2⟩)
          go_roundw
          case rel => exact ⟨k + 1, by omega, by go_num, (hG.drewN q0).only hO2 (by omega), by rw [HTS.out]; exact hT2, (HR.out.drewN q0).only hO2 (by omega), hO2.below (HB.out.trans (below_draws _ _ _)) (by omega)⟩
          case measure => simp [intOf]; omega
    · obtain rfl : k = C := by omega
      obtain ⟨g0, g1, g2, g3, g4, g5, g6, g7, g8, g9, g10, g11⟩ := hT.facts
      obtain ⟨⟨u0, u1, u2, u3, u4, u5, u6, u7, u8, u9, u10, u11, d0, d1, d2, d3, d4, d5, d6, d7, d8, d9, d10, d11⟩, f0, f1, f2, f3, f4, f5, f6, f7, f8, f9, f10, f11⟩ := hR.facts
      have hfin := GAt.store12 hR (turnL L k) L.length hT.len hT.r32
      have HFIN := Lib.hid hfin
      have HB := Lib.hid hb
      clear hfin hR hT hG hb
      go_wp2_with fail
      refine bodyPost_ret (v := .agg (gridC (turnL L k) L.length)) (grid_result (p := 2) (fn := Tryd.f89) rfl _ rfl HFIN.out) rfl ⟨rfl, ?_⟩
      exact (only12 wr _ _ _ _ _ _ _ _ _ _ _ _ _).below HB.out (by simp)
end Go.Proofs.YtilghmfffdmnjaaDoor
namespace Go.Proofs.YtilghmfffdmnjaaDoor
open Go.RowKit Go.Joins
set_option linter.unusedVariables false

theorem own_mt {W : World} {B k : Nat} {v : Value} {xs : List Int} (h : W.ownsRow B 2 1 v k (xs.map (Value.int .i64))) (h0 : 0 < k) (hk : k ≤ 1048576) : ∃ g cp, v = .slice (some ⟨g, 0, none⟩) k cp ∧ B ≤ g ∧ Mt W g k xs := by
  have hl : xs.length = k := by have := h.1; simpa using this
  rcases ownsRow_forms h with ⟨rfl, h1⟩ | ⟨g, cap, rfl⟩
  · omega
  · have hg := h.lt g rfl
    refine ⟨g, cap, rfl, hg.1, hl, hk, hg.2, fun j hj => ?_, fun j => h.frozenAt j⟩
    rw [h.cellAt j (by omega), List.getElem?_map, List.getElem?_eq_getElem (by omega)]
    simp
end Go.Proofs.YtilghmfffdmnjaaDoor
namespace Go.Proofs.YtilghmfffdmnjaaDoor
open Go.RowKit Go.Joins
set_option linter.unusedVariables false

def fTurnMatrix (c : Int) (zs : List Int) : Int × List Int × Int := mk1 c zs fun C L => if L.length = 0 then (0, [], 2) else (L.length, ints (turnL L C), 0)

set_option maxHeartbeats 1600000 in
theorem implTurnMatrix_anyR (c : Int) (A : Option Addr) (n cap : Nat) (xs : List Int) (w : World) (hM : Rd w w.heap.size A n xs) :
    Calls Tryd.prog 44 #[.agg #[.int .i64 c, .slice A n cap]] w fun e w' => ∃ v, e = .returned (.tuple #[.agg #[.int .i64 (fTurnMatrix c xs).1, v], .int .i64 (fTurnMatrix c xs).2.2]) ∧ Below w.heap.size w w' ∧ Res w' w.heap.size w'.heap.size v (fTurnMatrix c xs).2.1 := by
  unfold fTurnMatrix
  cases hk : okM c xs with
  | false =>
    rw [mk1_no hk]
    have hR : MRoom ((w.alloc (.cells #[.int .i64 c, .slice A n cap] 50)).alloc (.cells #[.int .i64 0, .slice none 0 0] 50)) (w.heap.size + 1) := by simpa using MRoom.start (w.alloc (.cells #[.int .i64 c, .slice A n cap] 50)) (.int .i64 0) (.slice none 0 0) 50
    have hb0 := below_alloc2 w (.cells #[.int .i64 c, .slice A n cap] 50) (.cells #[.int .i64 0, .slice none 0 0] 50)
    go_enter Tryd.func44, Tryd.ntmps44
    go_wp2_with fail
    refine (gridFor_noR c A n cap xs _ (hM.below (below_alloc2 _ _ _)) hk).mono ?_
    rintro e w1 ⟨rfl, hb⟩
    have hR1 := hR.below hb
    have hb1 := hb0.trans (hb.mono hb0.size)
    have hlt1 := hR1.lt
    clear hb hR hb0
    obtain ⟨w2, hst, hG2, hb⟩ := grid_put w1 [] 0 (by simp) (by intro j; simp [nth])
    have hR2 := hR1.below hb
    have hb2 := hb1.trans (hb.mono hb1.size)
    clear hb hb1
    obtain ⟨x, y, h0, h1⟩ := hR2.ex
    have f0 := hR2.f0
    have f1 := hR2.f1
    go_wp2_with fail
    refine bodyPost_ret (v := .tuple #[.agg #[.int .i64 0, .slice none 0 0], .int .i64 1]) (mat_results (p := 2) (u := 3) (fn := Tryd.f44) rfl _ rfl (two_setCell _ _ _ _ h0 h1).1 (two_setCell _ _ _ _ h0 h1).2) rfl ⟨_, rfl, ?_, .nil none 0⟩
    exact (only2 _ _ _ _).below hb2 (by simp)
  | true =>
    obtain ⟨C, L, rfl, rfl, hO⟩ := okM_nat hk
    rw [mk1_yes hO]
    have hn10 := hO.n10
    by_cases hL : L.length = 0
    · simp only [hL, if_true]
      have hR : MRoom ((w.alloc (.cells #[.int .i64 C, .slice A n cap] 50)).alloc (.cells #[.int .i64 0, .slice none 0 0] 50)) (w.heap.size + 1) := by simpa using MRoom.start (w.alloc (.cells #[.int .i64 C, .slice A n cap] 50)) (.int .i64 0) (.slice none 0 0) 50
      have hb0 := below_alloc2 w (.cells #[.int .i64 C, .slice A n cap] 50) (.cells #[.int .i64 0, .slice none 0 0] 50)
      go_enter Tryd.func44, Tryd.ntmps44
      go_wp2_with fail
      refine (gridFor_yesR C L hO A n cap _ (hM.below (below_alloc2 _ _ _))).mono ?_
      rintro e w1 ⟨rfl, hb⟩
      have hR1 := hR.below hb
      have hb1 := hb0.trans (hb.mono hb0.size)
      have hlt1 := hR1.lt
      clear hb hR hb0
      obtain ⟨w2, hst, hG2, hb⟩ := grid_put w1 L C hO.n10 (fun j => Nat.lt_trans (hO.get' j) (by omega))
      have hR2 := hR1.below hb
      have hb2 := hb1.trans (hb.mono hb1.size)
      clear hb hb1
      obtain ⟨x, y, h0, h1⟩ := hR2.ex
      have f0 := hR2.f0
      have f1 := hR2.f1
      obtain ⟨g0, g1, g2, g3, g4, g5, g6, g7, g8, g9, g10, g11⟩ := hG2.facts
      rw [hL] at g0
      go_wp2_with fail
      refine bodyPost_ret (v := .tuple #[.agg #[.int .i64 0, .slice none 0 0], .int .i64 2]) (mat_results (p := 2) (u := 3) (fn := Tryd.f44) rfl _ rfl (two_setCell _ _ _ _ h0 h1).1 (two_setCell _ _ _ _ h0 h1).2) rfl ⟨_, rfl, ?_, .nil none 0⟩
      exact (only2 _ _ _ _).below hb2 (by simp)
    · simp only [hL, if_false]
      have hL' : ¬ (L.length : Int) = 0 := by omega
      have hR : MRoom ((w.alloc (.cells #[.int .i64 C, .slice A n cap] 50)).alloc (.cells #[.int .i64 0, .slice none 0 0] 50)) (w.heap.size + 1) := by simpa using MRoom.start (w.alloc (.cells #[.int .i64 C, .slice A n cap] 50)) (.int .i64 0) (.slice none 0 0) 50
      have hb0 := below_alloc2 w (.cells #[.int .i64 C, .slice A n cap] 50) (.cells #[.int .i64 0, .slice none 0 0] 50)
      go_enter Tryd.func44, Tryd.ntmps44
      go_wp2_with fail
      refine (gridFor_yesR C L hO A n cap _ (hM.below (below_alloc2 _ _ _))).mono ?_
      rintro e w1 ⟨rfl, hb⟩
      have hR1 := hR.below hb
      have hb1 := hb0.trans (hb.mono hb0.size)
      have hlt1 := hR1.lt
      clear hb hR hb0
      obtain ⟨w2, hst, hG2, hb⟩ := grid_put w1 L C hO.n10 (fun j => Nat.lt_trans (hO.get' j) (by omega))
      have hR2 := hR1.below hb
      have hb2 := hb1.trans (hb.mono hb1.size)
      clear hb hb1
      obtain ⟨g0, g1, g2, g3, g4, g5, g6, g7, g8, g9, g10, g11⟩ := hG2.facts
      go_wp2_with fail
      refine (turned_any C L hO _).mono ?_
      rintro e w3 ⟨rfl, hb⟩
      have hR3 := hR2.below hb
      have hb3 := hb2.trans (hb.mono hb2.size)
      clear hb hR2 hb2
      go_wp2_with fail
      refine (matrix_any (turnL L C) L.length (by rw [turnL_len]; exact hO.c10) (nth_lt (by omega) (fun r hr => Nat.lt_trans (turnL_lt hO.n10 C r hr) (by omega))) _).mono ?_
      rintro e w4 ⟨v, rfl, hb, hV⟩
      have hR4 := hR3.below hb
      have hb4 := hb3.trans (hb.mono hb3.size)
      have hs4 := hb3.size
      have hq4 : w.heap.size + 1 < w3.heap.size := hR3.lt
      clear hb hR3 hb3
      obtain ⟨x, y, h0, h1⟩ := hR4.ex
      have f0 := hR4.f0
      have f1 := hR4.f1
      obtain ⟨ao, m, cap', rfl⟩ := hV.form
      have HV := Lib.hid hV
      clear hV
      go_wp2_with fail
      refine bodyPost_ret (v := .tuple #[.agg #[.int .i64 L.length, _], .int .i64 0]) (mat_results (p := 2) (u := 3) (fn := Tryd.f44) rfl _ rfl (two_setCell _ _ _ _ h0 h1).1 (two_setCell _ _ _ _ h0 h1).2) rfl ⟨_, rfl, ?_, HV.out.fin (q := w.heap.size + 1) (by omega) (by omega) _ _⟩
      exact (only2 _ _ _ _).below hb4 (by simp)
theorem implTurnMatrix_any (c : Int) (b n cap : Nat) (xs : List Int) (w : World) (hM : Mt w b n xs) :
    Calls Tryd.prog 44 #[.agg #[.int .i64 c, .slice (some ⟨b, 0, none⟩) n cap]] w fun e w' => ∃ v, e = .returned (.tuple #[.agg #[.int .i64 (fTurnMatrix c xs).1, v], .int .i64 (fTurnMatrix c xs).2.2]) ∧ Below w.heap.size w w' ∧ Res w' w.heap.size w'.heap.size v (fTurnMatrix c xs).2.1 :=
  implTurnMatrix_anyR c (some ⟨b, 0, none⟩) n cap xs w hM.rd

end Go.Proofs.YtilghmfffdmnjaaDoor
