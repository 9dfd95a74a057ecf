/- TurnMatrix: the program and the model. -/
import Derived.Test.YtfhalaohegdbhaaValid
import Derived.Test.YtfhalaohegdbhaaGridFor
import Derived.Test.YtfhalaohegdbhaaTurned
import Derived.Test.YtfhalaohegdbhaaTurnS
namespace Go.Proofs.Ytfhalaohegdbhaa
open Go.RowKit Go.Joins
set_option linter.unusedVariables false

def fTurnMatrix (c : Int) (zs : List Int) : Int × List Int × Int := mk1 c zs fun C L => if L.length = 0 then (0, [], 2) else (L.length, ints (turnL L C), 0)

set_option maxHeartbeats 1600000 in
theorem implTurnMatrix_any (c : Int) (b n cap : Nat) (xs : List Int) (w : World) (hM : Mt w b n xs) :
    Calls Try.prog 9 #[.agg #[.int .i64 c, .slice (some ⟨b, 0, none⟩) n cap]] w fun e w' => ∃ v, e = .returned (.tuple #[.agg #[.int .i64 (fTurnMatrix c xs).1, v], .int .i64 (fTurnMatrix c xs).2.2]) ∧ Below w.heap.size w w' ∧ Res w' w.heap.size w'.heap.size v (fTurnMatrix c xs).2.1 := by
  unfold fTurnMatrix
  cases hk : okM c xs with
  | false =>
    rw [mk1_no hk]
    have hR : MRoom ((w.alloc (.cells #[.int .i64 c, .slice (some ⟨b, 0, none⟩) n cap] 26)).alloc (.cells #[.int .i64 0, .slice none 0 0] 26)) (w.heap.size + 1) := by simpa using MRoom.start (w.alloc (.cells #[.int .i64 c, .slice (some ⟨b, 0, none⟩) n cap] 26)) (.int .i64 0) (.slice none 0 0) 26
    have hb0 := below_alloc2 w (.cells #[.int .i64 c, .slice (some ⟨b, 0, none⟩) n cap] 26) (.cells #[.int .i64 0, .slice none 0 0] 26)
    go_enter Try.func9, Try.ntmps9
    go_wp2_with fail
    refine (gridFor_no c b n cap xs _ (hM.below (below_alloc2 _ _ _)) hk).mono ?_
    rintro e w1 ⟨rfl, hb⟩
    have hR1 := hR.below hb
    have hb1 := hb0.trans (hb.mono hb0.size)
    have hlt1 := hR1.lt
    clear hb hR hb0
    obtain ⟨w2, hst, hG2, hb⟩ := grid_put w1 [] 0 (by simp) (by intro j; simp [nth])
    have hR2 := hR1.below hb
    have hb2 := hb1.trans (hb.mono hb1.size)
    clear hb hb1
    obtain ⟨x, y, h0, h1⟩ := hR2.ex
    have f0 := hR2.f0
    have f1 := hR2.f1
    go_wp2_with fail
    refine bodyPost_ret (v := .tuple #[.agg #[.int .i64 0, .slice none 0 0], .int .i64 1]) (mat_results (p := 2) (u := 3) (fn := Try.f9) rfl _ rfl (two_setCell _ _ _ _ h0 h1).1 (two_setCell _ _ _ _ h0 h1).2) rfl ⟨_, rfl, ?_, .nil none 0⟩
    exact (only2 _ _ _ _).below hb2 (by simp)
  | true =>
    obtain ⟨C, L, rfl, rfl, hO⟩ := okM_nat hk
    rw [mk1_yes hO]
    have hn10 := hO.n10
    by_cases hL : L.length = 0
    · simp only [hL, if_true]
      have hR : MRoom ((w.alloc (.cells #[.int .i64 C, .slice (some ⟨b, 0, none⟩) n cap] 26)).alloc (.cells #[.int .i64 0, .slice none 0 0] 26)) (w.heap.size + 1) := by simpa using MRoom.start (w.alloc (.cells #[.int .i64 C, .slice (some ⟨b, 0, none⟩) n cap] 26)) (.int .i64 0) (.slice none 0 0) 26
      have hb0 := below_alloc2 w (.cells #[.int .i64 C, .slice (some ⟨b, 0, none⟩) n cap] 26) (.cells #[.int .i64 0, .slice none 0 0] 26)
      go_enter Try.func9, Try.ntmps9
      go_wp2_with fail
      refine (gridFor_yes C L hO b n cap _ (hM.below (below_alloc2 _ _ _))).mono ?_
      rintro e w1 ⟨rfl, hb⟩
      have hR1 := hR.below hb
      have hb1 := hb0.trans (hb.mono hb0.size)
      have hlt1 := hR1.lt
      clear hb hR hb0
      obtain ⟨w2, hst, hG2, hb⟩ := grid_put w1 L C hO.n10 (fun j => Nat.lt_trans (hO.get' j) (by omega))
      have hR2 := hR1.below hb
      have hb2 := hb1.trans (hb.mono hb1.size)
      clear hb hb1
      obtain ⟨x, y, h0, h1⟩ := hR2.ex
      have f0 := hR2.f0
      have f1 := hR2.f1
      obtain ⟨g0, g1, g2, g3, g4, g5, g6, g7, g8, g9, g10, g11⟩ := hG2.facts
      rw [hL] at g0
      go_wp2_with fail
      refine bodyPost_ret (v := .tuple #[.agg #[.int .i64 0, .slice none 0 0], .int .i64 2]) (mat_results (p := 2) (u := 3) (fn := Try.f9) rfl _ rfl (two_setCell _ _ _ _ h0 h1).1 (two_setCell _ _ _ _ h0 h1).2) rfl ⟨_, rfl, ?_, .nil none 0⟩
      exact (only2 _ _ _ _).below hb2 (by simp)
    · simp only [hL, if_false]
      have hL' : ¬ (L.length : Int) = 0 := by omega
      have hR : MRoom ((w.alloc (.cells #[.int .i64 C, .slice (some ⟨b, 0, none⟩) n cap] 26)).alloc (.cells #[.int .i64 0, .slice none 0 0] 26)) (w.heap.size + 1) := by simpa using MRoom.start (w.alloc (.cells #[.int .i64 C, .slice (some ⟨b, 0, none⟩) n cap] 26)) (.int .i64 0) (.slice none 0 0) 26
      have hb0 := below_alloc2 w (.cells #[.int .i64 C, .slice (some ⟨b, 0, none⟩) n cap] 26) (.cells #[.int .i64 0, .slice none 0 0] 26)
      go_enter Try.func9, Try.ntmps9
      go_wp2_with fail
      refine (gridFor_yes C L hO b n cap _ (hM.below (below_alloc2 _ _ _))).mono ?_
      rintro e w1 ⟨rfl, hb⟩
      have hR1 := hR.below hb
      have hb1 := hb0.trans (hb.mono hb0.size)
      have hlt1 := hR1.lt
      clear hb hR hb0
      obtain ⟨w2, hst, hG2, hb⟩ := grid_put w1 L C hO.n10 (fun j => Nat.lt_trans (hO.get' j) (by omega))
      have hR2 := hR1.below hb
      have hb2 := hb1.trans (hb.mono hb1.size)
      clear hb hb1
      obtain ⟨g0, g1, g2, g3, g4, g5, g6, g7, g8, g9, g10, g11⟩ := hG2.facts
      go_wp2_with fail
      refine (turned_any C L hO _).mono ?_
      rintro e w3 ⟨rfl, hb⟩
      have hR3 := hR2.below hb
      have hb3 := hb2.trans (hb.mono hb2.size)
      clear hb hR2 hb2
      go_wp2_with fail
      refine (matrix_any (turnL L C) L.length (by rw [turnL_len]; exact hO.c10) (nth_lt (by omega) (fun r hr => Nat.lt_trans (turnL_lt hO.n10 C r hr) (by omega))) _).mono ?_
      rintro e w4 ⟨v, rfl, hb, hV⟩
      have hR4 := hR3.below hb
      have hb4 := hb3.trans (hb.mono hb3.size)
      have hs4 := hb3.size
      have hq4 : w.heap.size + 1 < w3.heap.size := hR3.lt
      clear hb hR3 hb3
      obtain ⟨x, y, h0, h1⟩ := hR4.ex
      have f0 := hR4.f0
      have f1 := hR4.f1
      obtain ⟨ao, m, cap', rfl⟩ := hV.form
      have HV := Lib.hid hV
      clear hV
      go_wp2_with fail
      refine bodyPost_ret (v := .tuple #[.agg #[.int .i64 L.length, _], .int .i64 0]) (mat_results (p := 2) (u := 3) (fn := Try.f9) rfl _ rfl (two_setCell _ _ _ _ h0 h1).1 (two_setCell _ _ _ _ h0 h1).2) rfl ⟨_, rfl, ?_, HV.out.fin (q := w.heap.size + 1) (by omega) (by omega) _ _⟩
      exact (only2 _ _ _ _).below hb4 (by simp)

set_option maxHeartbeats 1600000 in
theorem specTurnMatrix_any (c : Int) (b n cap : Nat) (xs : List Int) (w : World) (hM : Mt w b n xs) :
    Calls Try.prog 7 #[.agg #[.int .i64 c, .slice (some ⟨b, 0, none⟩) n cap]] w fun e w' => ∃ v, e = .returned (.tuple #[.agg #[.int .i64 (fTurnMatrix c xs).1, v], .int .i64 (fTurnMatrix c xs).2.2]) ∧ Below w.heap.size w w' ∧ Res w' w.heap.size w'.heap.size v (fTurnMatrix c xs).2.1 := by
  unfold fTurnMatrix
  cases hk : okM c xs with
  | false =>
    rw [mk1_no hk]
    have hR : MRoom ((w.alloc (.cells #[.int .i64 c, .slice (some ⟨b, 0, none⟩) n cap] 26)).alloc (.cells #[.int .i64 0, .slice none 0 0] 26)) (w.heap.size + 1) := by simpa using MRoom.start (w.alloc (.cells #[.int .i64 c, .slice (some ⟨b, 0, none⟩) n cap] 26)) (.int .i64 0) (.slice none 0 0) 26
    have hb0 := below_alloc2 w (.cells #[.int .i64 c, .slice (some ⟨b, 0, none⟩) n cap] 26) (.cells #[.int .i64 0, .slice none 0 0] 26)
    have hX := (Box.one w (.int .i64 c) (.slice (some ⟨b, 0, none⟩) n cap) 26).next (below_alloc1 _ (.cells #[.int .i64 0, .slice none 0 0] 26))
    have hS : Sp1 ((w.alloc (.cells #[.int .i64 c, .slice (some ⟨b, 0, none⟩) n cap] 26)).alloc (.cells #[.int .i64 0, .slice none 0 0] 26)) w.heap.size c b n cap xs := ⟨⟨hX.c0, hX.c1, hX.lt⟩, hM.below hb0⟩
    have S := l02Ok_any w.heap.size c b n cap xs _ hS.m hS.r
    rw [hk] at S
    have HS := Lib.hid S
    clear S hX
    go_enter Try.func7, Try.ntmps7
    go_wp2_with fail
    refine HS.out.mono ?_
    rintro e w1 ⟨rfl, hb⟩
    have hR1 := hR.below hb
    have hS1 := hS.below hb
    have hb1 := hb0.trans (hb.mono hb0.size)
    have hq0 := hS1.m.c0
    have hq1 := hS1.m.c1
    clear hb hR hb0 hS
    obtain ⟨x, y, h0, h1⟩ := hR1.ex
    have f0 := hR1.f0
    have f1 := hR1.f1
    go_wp2_with fail
    refine bodyPost_ret (v := .tuple #[.agg #[.int .i64 0, .slice none 0 0], .int .i64 1]) (mat_results (p := 2) (u := 3) (fn := Try.f7) rfl _ rfl (two_setCell _ _ _ _ h0 h1).1 (two_setCell _ _ _ _ h0 h1).2) rfl ⟨_, rfl, ?_, .nil none 0⟩
    exact (only2 _ _ _ _).below hb1 (by simp)
  | true =>
    obtain ⟨C, L, rfl, rfl, hO⟩ := okM_nat hk
    rw [mk1_yes hO]
    have hn10 := hO.n10
    have hll := hM.len
    rw [ints_length] at hll
    subst hll
    by_cases hL : L.length = 0
    · rw [if_pos hL]
      have HL := Lib.hid hL
      clear hL
      have hR : MRoom ((w.alloc (.cells #[.int .i64 C, .slice (some ⟨b, 0, none⟩) L.length cap] 26)).alloc (.cells #[.int .i64 0, .slice none 0 0] 26)) (w.heap.size + 1) := by simpa using MRoom.start (w.alloc (.cells #[.int .i64 C, .slice (some ⟨b, 0, none⟩) L.length cap] 26)) (.int .i64 0) (.slice none 0 0) 26
      have hb0 := below_alloc2 w (.cells #[.int .i64 C, .slice (some ⟨b, 0, none⟩) L.length cap] 26) (.cells #[.int .i64 0, .slice none 0 0] 26)
      have hX := (Box.one w (.int .i64 C) (.slice (some ⟨b, 0, none⟩) L.length cap) 26).next (below_alloc1 _ (.cells #[.int .i64 0, .slice none 0 0] 26))
      have hS : Sp1 ((w.alloc (.cells #[.int .i64 C, .slice (some ⟨b, 0, none⟩) L.length cap] 26)).alloc (.cells #[.int .i64 0, .slice none 0 0] 26)) w.heap.size C b L.length cap (ints L) := ⟨⟨hX.c0, hX.c1, hX.lt⟩, hM.below hb0⟩
      have S := l02Ok_any w.heap.size C b L.length cap (ints L) _ hS.m hS.r
      rw [okM_ints hO] at S
      have HS := Lib.hid S
      clear S hX
      go_enter Try.func7, Try.ntmps7
      go_wp2_with fail
      refine HS.out.mono ?_
      rintro e w1 ⟨rfl, hb⟩
      have hR1 := hR.below hb
      have hS1 := hS.below hb
      have hb1 := hb0.trans (hb.mono hb0.size)
      have hq0 := hS1.m.c0
      have hq1 := hS1.m.c1
      clear hb hR hb0 hS
      rw [HL.out] at hq1
      obtain ⟨x, y, h0, h1⟩ := hR1.ex
      have f0 := hR1.f0
      have f1 := hR1.f1
      go_wp2_with fail
      refine bodyPost_ret (v := .tuple #[.agg #[.int .i64 0, .slice none 0 0], .int .i64 2]) (mat_results (p := 2) (u := 3) (fn := Try.f7) rfl _ rfl (two_setCell _ _ _ _ h0 h1).1 (two_setCell _ _ _ _ h0 h1).2) rfl ⟨_, rfl, ?_, .nil none 0⟩
      exact (only2 _ _ _ _).below hb1 (by simp)
    · rw [if_neg hL]
      have hL' : ¬ (L.length : Int) = 0 := by omega
      have hR : MRoom ((w.alloc (.cells #[.int .i64 C, .slice (some ⟨b, 0, none⟩) L.length cap] 26)).alloc (.cells #[.int .i64 0, .slice none 0 0] 26)) (w.heap.size + 1) := by simpa using MRoom.start (w.alloc (.cells #[.int .i64 C, .slice (some ⟨b, 0, none⟩) L.length cap] 26)) (.int .i64 0) (.slice none 0 0) 26
      have hb0 := below_alloc2 w (.cells #[.int .i64 C, .slice (some ⟨b, 0, none⟩) L.length cap] 26) (.cells #[.int .i64 0, .slice none 0 0] 26)
      have hX := (Box.one w (.int .i64 C) (.slice (some ⟨b, 0, none⟩) L.length cap) 26).next (below_alloc1 _ (.cells #[.int .i64 0, .slice none 0 0] 26))
      have hS : Sp1 ((w.alloc (.cells #[.int .i64 C, .slice (some ⟨b, 0, none⟩) L.length cap] 26)).alloc (.cells #[.int .i64 0, .slice none 0 0] 26)) w.heap.size C b L.length cap (ints L) := ⟨⟨hX.c0, hX.c1, hX.lt⟩, hM.below hb0⟩
      have S := l02Ok_any w.heap.size C b L.length cap (ints L) _ hS.m hS.r
      rw [okM_ints hO] at S
      have HS := Lib.hid S
      clear S hX
      go_enter Try.func7, Try.ntmps7
      go_wp2_with fail
      refine HS.out.mono ?_
      rintro e w1 ⟨rfl, hb⟩
      have hR1 := hR.below hb
      have hS1 := hS.below hb
      have hb1 := hb0.trans (hb.mono hb0.size)
      have hq0 := hS1.m.c0
      have hq1 := hS1.m.c1
      clear hb hR hb0 hS
      go_wp2_with fail
      refine (l02Turn_any w.heap.size C b cap L hO _ hS1).mono ?_
      rintro e w4 ⟨v, rfl, hb, hV, _⟩
      have hR4 := hR1.below hb
      have hb4 := hb1.trans (hb.mono hb1.size)
      have hq4 : w.heap.size + 1 < w1.heap.size := hR1.lt
      clear hb hR1 hb1
      obtain ⟨x, y, h0, h1⟩ := hR4.ex
      have f0 := hR4.f0
      have f1 := hR4.f1
      obtain ⟨ao, m, cap', rfl⟩ := hV.form
      have HV := Lib.hid hV
      clear hV
      go_wp2_with fail
      refine bodyPost_ret (v := .tuple #[.agg #[.int .i64 L.length, _], .int .i64 0]) (mat_results (p := 2) (u := 3) (fn := Try.f7) rfl _ rfl (two_setCell _ _ _ _ h0 h1).1 (two_setCell _ _ _ _ h0 h1).2) rfl ⟨_, rfl, ?_, HV.out.fin (q := w.heap.size + 1) (by omega) (by omega) _ _⟩
      exact (only2 _ _ _ _).below hb4 (by simp)
end Go.Proofs.Ytfhalaohegdbhaa
