/- InverseMatrix: the program and the model. -/
import Derived.Test.YtilghmfffdmnjaaDoorValid
import Derived.Test.YtilghmfffdmnjaaDoorGridFor
import Derived.Test.YtilghmfffdmnjaaDoorInvI
import Derived.Test.YtilghmfffdmnjaaDoorEchelonOf
import Derived.Test.YtilghmfffdmnjaaDoorStep
import Derived.Test.YtilghmfffdmnjaaDoorRankOf
import Derived.StillTailTactics
namespace Go.Proofs.YtilghmfffdmnjaaDoor
open Go.RowKit Go.Joins
set_option linter.unusedVariables false

theorem nth_le {L : List Nat} (h : ∀ j, nth L j < 1024) (r : Nat) : ∀ k, tms r L k < 1024 := tms_lt (C := 10) h r


/-- The inverse of a matrix, with the errors first. -/
def fInverseMatrix (c : Int) (zs : List Int) : Int × List Int × Int := mk1 c zs fun C L => if L.length = C then (if (joined [] L).length = C then (C, ints (invT C L C), 0) else (0, [], 4)) else (0, [], 2)


set_option maxRecDepth 100000 in
set_option maxHeartbeats 1600000 in
theorem implInverseMatrix_anyR (c : Int) (A : Option Addr) (n cap : Nat) (xs : List Int) (w : World) (hM : Rd w w.heap.size A n xs) (hT : Tab w) :
    Calls Tryd.prog 33 #[.agg #[.int .i64 c, .slice A n cap]] w fun e w' => ∃ v, e = .returned (.tuple #[.agg #[.int .i64 (fInverseMatrix c xs).1, v], .int .i64 (fInverseMatrix c xs).2.2]) ∧ Below w.heap.size w w' ∧ Res w' w.heap.size w'.heap.size v (fInverseMatrix c xs).2.1 := by
  unfold fInverseMatrix
  have hR : MRoom ((w.alloc (.cells #[.int .i64 c, .slice A n cap] 50)).alloc (.cells #[.int .i64 0, .slice none 0 0] 50)) (w.heap.size + 1) := by simpa using MRoom.start (w.alloc (.cells #[.int .i64 c, .slice A n cap] 50)) (.int .i64 0) (.slice none 0 0) 50
  have hb0 := below_alloc2 w (.cells #[.int .i64 c, .slice A n cap] 50) (.cells #[.int .i64 0, .slice none 0 0] 50)
  have hM0 := hM.below hb0
  cases hk : okM c xs with
  | false =>
    rw [mk1_no hk]
    go_enter Tryd.func33, Tryd.ntmps33
    go_wp2_with fail
    refine (gridFor_noR c A n cap xs _ hM0 hk).mono ?_
    rintro e w1 ⟨rfl, hb⟩
    have hR1 := hR.below hb
    have hb1 := hb0.trans (hb.mono hb0.size)
    have hlt1 := hR1.lt
    clear hb hR hb0
    obtain ⟨w2, hst, hG2, hb⟩ := grid_put w1 [] 0 (by simp) (by intro j; simp [nth])
    have hR2 := hR1.below hb
    have hb2 := hb1.trans (hb.mono hb1.size)
    clear hb hb1
    obtain ⟨x, y, h0, h1⟩ := hR2.ex
    have f0 := hR2.f0
    have f1 := hR2.f1
    go_wp2_with fail
    refine bodyPost_ret (v := .tuple #[.agg #[.int .i64 0, .slice none 0 0], .int .i64 1]) (mat_results (p := 2) (u := 3) (fn := Tryd.f33) rfl _ rfl (two_setCell _ _ _ _ h0 h1).1 (two_setCell _ _ _ _ h0 h1).2) rfl ⟨_, rfl, ?_, .nil none 0⟩
    exact (only2 _ _ _ _).below hb2 (by simp)
  | true =>
    obtain ⟨C, L, rfl, rfl, hO⟩ := okM_nat hk
    rw [mk1_yes hO]
    have hn10 := hO.n10
    have hc10 := hO.c10
    by_cases hl : L.length = C
    · rw [if_pos hl]
      have E := fun w hT => inverse_any C L hc10 hl hO.lt w hT
      have hrk : (joined [] L).length = C ↔ goodI C L := ⟨fun h => inv_leads hO.lt (by omega) h, fun h => inv_rank hO.lt h⟩
      have hX2 : ∀ j, nth (invT C L C) j < 4294967296 := lt32 (show C ≤ 20 by omega) (fun r hr => by
        obtain ⟨i, _, rfl⟩ := List.mem_map.1 hr
        exact invM_lt hO.lt i)
      have EE := Lib.hid E
      have HJ2 := Lib.hid hX2
      have HL := Lib.hid hl
      have hlb : ((L.length : Int) != (C : Int)) = false := by rw [hl]; simp
      by_cases hr : (joined [] L).length = C
      · rw [if_pos hr]
        have hgood := Lib.hid (hrk.1 hr)
        clear E hX2 hrk hr hl
        go_enter Tryd.func33, Tryd.ntmps33
        go_wp2_with fail
        refine (gridFor_yesR C L hO A n cap _ hM0).mono ?_
        rintro e w1 ⟨rfl, hb⟩
        have hR1 := hR.below hb
        have hb1 := hb0.trans (hb.mono hb0.size)
        have hlt1 := hR1.lt
        clear hb hR hb0
        obtain ⟨w2, hst, hG2, hb⟩ := grid_put w1 L C hn10 (fun j => Nat.lt_trans (hO.get' j) (by omega))
        have hR2 := hR1.below hb
        have hb2 := hb1.trans (hb.mono hb1.size)
        clear hb hb1
        obtain ⟨g0, g1, g2, g3, g4, g5, g6, g7, g8, g9, g10, g11⟩ := hG2.facts
        have HS := Lib.hid (EE.out _ (hT.below hb2))
        clear hT
        go_wp2_with fail
        refine HS.out.mono ?_
        rintro e w3 ⟨h, hb⟩
        have hR3 := hR2.below hb
        have hb3 := hb2.trans (hb.mono hb2.size)
        clear hb hR2 hb2 g0 g1 g2 g3 g4 g5 g6 g7 g8 g9 g10 g11
        rcases h with ⟨_, rfl⟩ | ⟨h, _⟩
        · obtain ⟨w4, hst4, hG4, hb4⟩ := grid_put w3 (invT C L C) C (by rw [invT_len]; exact hc10) HJ2.out
          have hR4 := hR3.below hb4
          have hb5 := hb3.trans (hb4.mono hb3.size)
          obtain ⟨k0, k1, k2, k3, k4, k5, k6, k7, k8, k9, k10, k11⟩ := hG4.facts
          clear hR3 hb3 hb4 hG4
          go_wp2_with fail
          refine (matrix_any (invT C L C) C (by rw [invT_len]; exact hc10) HJ2.out _).mono ?_
          rintro e w5 ⟨v, rfl, hb, hV⟩
          have hR5 := hR4.below hb
          have hb6 := hb5.trans (hb.mono hb5.size)
          have hq5 : w.heap.size + 1 < w4.heap.size := hR4.lt
          have hs5 := hb5.size
          clear hb hR4 hb5 k0 k1 k2 k3 k4 k5 k6 k7 k8 k9 k10 k11
          obtain ⟨x, y, h0, h1⟩ := hR5.ex
          have f0 := hR5.f0
          have f1 := hR5.f1
          obtain ⟨ao, m, cap', rfl⟩ := hV.form
          have HV := Lib.hid hV
          clear hV
          go_wp2_with fail
          refine bodyPost_ret (v := .tuple #[.agg #[.int .i64 C, _], .int .i64 0]) (mat_results (p := 2) (u := 3) (fn := Tryd.f33) rfl _ rfl (two_setCell _ _ _ _ h0 h1).1 (two_setCell _ _ _ _ h0 h1).2) rfl ⟨_, rfl, ?_, HV.out.fin (q := w.heap.size + 1) (by omega) (by omega) _ _⟩
          exact (only2 _ _ _ _).below hb6 (by simp)
        · exact absurd hgood.out h
      · rw [if_neg hr]
        have hbad := Lib.hid (fun h => hr (hrk.2 h))
        clear E hX2 hrk hr hl
        go_enter Tryd.func33, Tryd.ntmps33
        go_wp2_with fail
        refine (gridFor_yesR C L hO A n cap _ hM0).mono ?_
        rintro e w1 ⟨rfl, hb⟩
        have hR1 := hR.below hb
        have hb1 := hb0.trans (hb.mono hb0.size)
        have hlt1 := hR1.lt
        clear hb hR hb0
        obtain ⟨w2, hst, hG2, hb⟩ := grid_put w1 L C hn10 (fun j => Nat.lt_trans (hO.get' j) (by omega))
        have hR2 := hR1.below hb
        have hb2 := hb1.trans (hb.mono hb1.size)
        clear hb hb1
        obtain ⟨g0, g1, g2, g3, g4, g5, g6, g7, g8, g9, g10, g11⟩ := hG2.facts
        have HS := Lib.hid (EE.out _ (hT.below hb2))
        clear hT
        go_wp2_with fail
        refine HS.out.mono ?_
        rintro e w3 ⟨h, hb⟩
        have hR3 := hR2.below hb
        have hb3 := hb2.trans (hb.mono hb2.size)
        clear hb hR2 hb2 g0 g1 g2 g3 g4 g5 g6 g7 g8 g9 g10 g11
        rcases h with ⟨h, _⟩ | ⟨_, rfl⟩
        · exact absurd h hbad.out
        · obtain ⟨w4, hst4, hG4, hb4⟩ := grid_put w3 [] 0 (by simp) (by intro j; simp [nth])
          have hR4 := hR3.below hb4
          have hb5 := hb3.trans (hb4.mono hb3.size)
          clear hR3 hb3 hb4 hG4
          obtain ⟨x, y, h0, h1⟩ := hR4.ex
          have f0 := hR4.f0
          have f1 := hR4.f1
          go_wp2_with fail
          refine bodyPost_ret (v := .tuple #[.agg #[.int .i64 0, .slice none 0 0], .int .i64 4]) (mat_results (p := 2) (u := 3) (fn := Tryd.f33) rfl _ rfl (two_setCell _ _ _ _ h0 h1).1 (two_setCell _ _ _ _ h0 h1).2) rfl ⟨_, rfl, ?_, .nil none 0⟩
          exact (only2 _ _ _ _).below hb5 (by simp)
    · rw [if_neg hl]
      have hli : ¬ (L.length : Int) = (C : Int) := by omega
      go_enter Tryd.func33, Tryd.ntmps33
      go_wp2_with fail
      refine (gridFor_yesR C L hO A n cap _ hM0).mono ?_
      rintro e w1 ⟨rfl, hb⟩
      have hR1 := hR.below hb
      have hb1 := hb0.trans (hb.mono hb0.size)
      have hlt1 := hR1.lt
      clear hb hR hb0
      obtain ⟨w2, hst, hG2, hb⟩ := grid_put w1 L C hn10 (fun j => Nat.lt_trans (hO.get' j) (by omega))
      have hR2 := hR1.below hb
      have hb2 := hb1.trans (hb.mono hb1.size)
      have g0 := hG2.c0
      have g11 := hG2.c11
      clear hb hb1 hG2
      obtain ⟨x, y, h0, h1⟩ := hR2.ex
      have f0 := hR2.f0
      have f1 := hR2.f1
      go_wp2_with fail
      refine bodyPost_ret (v := .tuple #[.agg #[.int .i64 0, .slice none 0 0], .int .i64 2]) (mat_results (p := 2) (u := 3) (fn := Tryd.f33) rfl _ rfl (two_setCell _ _ _ _ h0 h1).1 (two_setCell _ _ _ _ h0 h1).2) rfl ⟨_, rfl, ?_, .nil none 0⟩
      exact (only2 _ _ _ _).below hb2 (by simp)
theorem implInverseMatrix_any (c : Int) (b n cap : Nat) (xs : List Int) (w : World) (hM : Mt w b n xs) (hT : Tab w) :
    Calls Tryd.prog 33 #[.agg #[.int .i64 c, .slice (some ⟨b, 0, none⟩) n cap]] w fun e w' => ∃ v, e = .returned (.tuple #[.agg #[.int .i64 (fInverseMatrix c xs).1, v], .int .i64 (fInverseMatrix c xs).2.2]) ∧ Below w.heap.size w w' ∧ Res w' w.heap.size w'.heap.size v (fInverseMatrix c xs).2.1 :=
  implInverseMatrix_anyR c (some ⟨b, 0, none⟩) n cap xs w hM.rd hT

end Go.Proofs.YtilghmfffdmnjaaDoor
