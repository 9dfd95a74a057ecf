/- SumOf: the program and the model. -/
import Derived.Test.YtilghmfffdmnjaaDoorDistanceOf
namespace Go.Proofs.YtilghmfffdmnjaaDoor
open Go.RowKit Go.Joins
set_option linter.unusedVariables false

/-- What a function of two spaces returns, a matrix, with the errors first. -/
def mkB (c : Int) (zs : List Int) (d : Int) (ys : List Int) (f : Nat → List Nat → List Nat → List Nat) : Int × List Int × Int :=
  if both c zs d ys = 0 then (c, ints (f c.toNat (zs.map Int.toNat) (ys.map Int.toNat)), 0) else (0, [], both c zs d ys)
theorem mkB_yes {C : Nat} {L M : List Nat} (h : both C (ints L) C (ints M) = 0) (f : Nat → List Nat → List Nat → List Nat) : mkB C (ints L) C (ints M) f = ((C : Int), ints (f C L M), 0) := by rw [mkB, if_pos h, toNats_ints, toNats_ints]; rfl
theorem mkB_no {c : Int} {zs : List Int} {d : Int} {ys : List Int} {k : Int} (h : both c zs d ys = k) (hk : ¬ k = 0) (f : Nat → List Nat → List Nat → List Nat) : mkB c zs d ys f = (0, [], k) := by rw [mkB, h, if_neg hk]
/-- The sum of two spaces. -/
def fSumOf (c : Int) (zs : List Int) (d : Int) (ys : List Int) : Int × List Int × Int := mkB c zs d ys fun C L M => joined L M

set_option maxRecDepth 100000 in
set_option maxHeartbeats 1600000 in
theorem implSumOf_anyR (c : Int) (A : Option Addr) (n cap : Nat) (xs : List Int) (d : Int) (A' : Option Addr) (n' cap' : Nat) (ys : List Int) (w : World) (hM : Rd w w.heap.size A n xs) (hN : Rd w w.heap.size A' n' ys) (hT : Tab w) :
    Calls Tryd.prog 47 #[.agg #[.int .i64 c, .slice A n cap], .agg #[.int .i64 d, .slice A' n' cap']] w fun e w' => ∃ v, e = .returned (.tuple #[.agg #[.int .i64 (fSumOf c xs d ys).1, v], .int .i64 (fSumOf c xs d ys).2.2]) ∧ Below w.heap.size w w' ∧ Res w' w.heap.size w'.heap.size v (fSumOf c xs d ys).2.1 := by
  unfold fSumOf
  obtain ⟨hR, hb0, hX, hY⟩ := three w (.int .i64 c) (.slice A n cap) (.int .i64 d) (.slice A' n' cap') _ rfl
  have hM0 := hM.below hb0
  have hN0 := hN.below hb0
  have hT0 := hT.below hb0
  by_cases hk0 : both c xs d ys = 0
  · rcases both_cases c xs d ys with ⟨h, C, L, M, rfl, rfl, rfl, rfl, hO, hP, hJ, hK⟩ | ⟨h, _⟩ | ⟨h, _⟩
    · rw [mkB_yes h]
      have D := fun w hT => joined_any C C L M hO.c10 (ech_of hJ) hO.lt hP.lt hP.n10 w hT
      have hJl : (joined L M).length ≤ 10 := Nat.le_trans ((joined_spec M (ech_of hJ)).1.len (joined_lt (ech_of hJ) hO.lt hP.lt)) hO.c10
      have hJ2 := lt32 (show C ≤ 20 by have := hO.c10; omega) (joined_lt (ech_of hJ) hO.lt hP.lt)
      have hn10 := hO.n10
      have hm10 := hP.n10
      generalize joined L M = J at D hJl hJ2 ⊢
      have DD := Lib.hid D
      have HJ2 := Lib.hid hJ2
      have HT := Lib.hid hT
      have HS := Lib.hid (spacesFor_yesR C L hO hJ M hP hK A n cap A' n' cap' _ hM0 hN0 hT0)
      clear hT hT0 hX hY hM0 hN0 D hk0 h hJ hK hJ2
      go_enter Tryd.func47, Tryd.ntmps47
      go_wp2_with fail
      refine HS.out.mono ?_
      rintro e w1 ⟨rfl, hb⟩
      have hR1 := hR.below hb
      have hb1 := hb0.trans (hb.mono hb0.size)
      obtain ⟨w2, w3, hst, hst2, hG, hH, hb'⟩ := grids_put w1 L C hn10 (lt32 (by have := hO.c10; omega) hO.lt) M C hm10 (lt32 (by have := hO.c10; omega) hP.lt) _ rfl
      have hR3 := hR1.below hb'
      have hb3 := hb1.trans (hb'.mono hb1.size)
      have HD := Lib.hid (DD.out w3 (HT.out.below hb3))
      obtain ⟨g0, g1, g2, g3, g4, g5, g6, g7, g8, g9, g10, g11⟩ := hG.facts
      obtain ⟨m0, m1, m2, m3, m4, m5, m6, m7, m8, m9, m10, m11⟩ := hH.facts
      clear hb hb0 hb1 hb' hG hH hR hR1
      go_wp2_with fail
      refine HD.out.mono ?_
      rintro e w4 ⟨rfl, hb4⟩
      have hR4 := hR3.below hb4
      have hbb := hb3.trans (hb4.mono hb3.size)
      clear hb4 hb3 hR3 g0 g1 g2 g3 g4 g5 g6 g7 g8 g9 g10 g11 m0 m1 m2 m3 m4 m5 m6 m7 m8 m9 m10 m11
      go_wp2_with fail
      refine (matrix_any J C hJl HJ2.out _).mono ?_
      rintro e w5 ⟨v, rfl, hb, hV⟩
      have hR5 := hR4.below hb
      have hb5 := hbb.trans (hb.mono hbb.size)
      have hq5 : w.heap.size + 1 + 1 < w4.heap.size := hR4.lt
      clear hb hR4 hbb
      obtain ⟨x, y, h0, h1⟩ := hR5.ex
      have f0 := hR5.f0
      have f1 := hR5.f1
      obtain ⟨ao, m, cq, rfl⟩ := hV.form
      have HV := Lib.hid hV
      clear hV
      go_wp2_with fail
      refine bodyPost_ret (v := .tuple #[.agg #[.int .i64 C, _], .int .i64 0]) (mat_results (p := 4) (u := 5) (fn := Tryd.f47) rfl _ rfl (two_setCell _ _ _ _ h0 h1).1 (two_setCell _ _ _ _ h0 h1).2) rfl ⟨_, rfl, ?_, HV.out.fin (q := w.heap.size + 1 + 1) (by omega) (by omega) _ _⟩
      exact (only2 _ _ _ _).below hb5 (by omega)
    · rw [h] at hk0; omega
    · rw [h] at hk0; omega
  · obtain ⟨k, hk⟩ : ∃ k, both c xs d ys = k := ⟨_, rfl⟩
    rw [hk] at hk0
    rw [mkB_no hk hk0]
    have HS := Lib.hid (spacesFor_badR c xs d ys k hk hk0 A n cap A' n' cap' _ hM0 hN0 hT0)
    clear hT hT0 hX hY hM0 hN0 hk
    go_enter Tryd.func47, Tryd.ntmps47
    go_wp2_with fail
    refine HS.out.mono ?_
    rintro e w1 ⟨rfl, hb⟩
    have hR1 := hR.below hb
    have hb1 := hb0.trans (hb.mono hb0.size)
    obtain ⟨w2, w3, hst, hst2, hG, hH, hb'⟩ := grids_put w1 [] 0 (by simp) (by intro j; simp [nth]) [] 0 (by simp) (by intro j; simp [nth]) _ rfl
    have hR3 := hR1.below hb'
    have hb3 := hb1.trans (hb'.mono hb1.size)
    clear hb hb0 hb1 hb' hG hH hR hR1
    obtain ⟨x, y, h0, h1⟩ := hR3.ex
    have f0 := hR3.f0
    have f1 := hR3.f1
    go_wp2_with fail
    refine bodyPost_ret (v := .tuple #[.agg #[.int .i64 0, .slice none 0 0], .int .i64 k]) (mat_results (p := 4) (u := 5) (fn := Tryd.f47) rfl _ rfl (two_setCell _ _ _ _ h0 h1).1 (two_setCell _ _ _ _ h0 h1).2) rfl ⟨_, rfl, ?_, .nil none 0⟩
    exact (only2 _ _ _ _).below hb3 (by omega)
theorem implSumOf_any (c : Int) (b n cap : Nat) (xs : List Int) (d : Int) (b' n' cap' : Nat) (ys : List Int) (w : World) (hM : Mt w b n xs) (hN : Mt w b' n' ys) (hT : Tab w) :
    Calls Tryd.prog 47 #[.agg #[.int .i64 c, .slice (some ⟨b, 0, none⟩) n cap], .agg #[.int .i64 d, .slice (some ⟨b', 0, none⟩) n' cap']] w fun e w' => ∃ v, e = .returned (.tuple #[.agg #[.int .i64 (fSumOf c xs d ys).1, v], .int .i64 (fSumOf c xs d ys).2.2]) ∧ Below w.heap.size w w' ∧ Res w' w.heap.size w'.heap.size v (fSumOf c xs d ys).2.1 :=
  implSumOf_anyR c (some ⟨b, 0, none⟩) n cap xs d (some ⟨b', 0, none⟩) n' cap' ys w hM.rd hN.rd hT

end Go.Proofs.YtilghmfffdmnjaaDoor
