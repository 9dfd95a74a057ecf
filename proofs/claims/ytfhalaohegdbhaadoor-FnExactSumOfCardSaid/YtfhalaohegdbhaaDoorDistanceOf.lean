/- DistanceOf: the program and the model. -/
import Derived.Test.YtfhalaohegdbhaaDoorDistI
import Derived.Test.YtfhalaohegdbhaaDoorSpacesFor
namespace Go.Proofs.YtfhalaohegdbhaaDoor
open Go.RowKit Go.Joins
set_option linter.unusedVariables false

/-- The distance of two spaces, with the errors first. -/
def fDistanceOf (c : Int) (zs : List Int) (d : Int) (ys : List Int) : Int × Int := if both c zs d ys = 0 then (dist (zs.map Int.toNat) (ys.map Int.toNat), 0) else (0, both c zs d ys)
theorem fDistance_yes {C : Nat} {L M : List Nat} (h : both C (ints L) C (ints M) = 0) : fDistanceOf C (ints L) C (ints M) = (dist L M, 0) := by rw [fDistanceOf, if_pos h, toNats_ints, toNats_ints]
theorem fDistance_no {c : Int} {zs : List Int} {d : Int} {ys : List Int} {k : Int} (h : both c zs d ys = k) (hk : ¬ k = 0) : fDistanceOf c zs d ys = (0, k) := by rw [fDistanceOf, h, if_neg hk]

/-- Two matrices in two new blocks. -/
theorem two_boxes (w : World) (u0 u1 v0 v1 : Value) : Below w.heap.size w ((w.alloc (.cells #[u0, u1] 28)).alloc (.cells #[v0, v1] 28)) ∧ Box ((w.alloc (.cells #[u0, u1] 28)).alloc (.cells #[v0, v1] 28)) w.heap.size u0 u1 ∧ Box ((w.alloc (.cells #[u0, u1] 28)).alloc (.cells #[v0, v1] 28)) (w.heap.size + 1) v0 v1 :=
  ⟨below_alloc2 w _ _, (Box.one w u0 u1 _).next (below_alloc1 _ _), Box.two w _ v0 v1 _⟩

/-- The grids of two matrices that are not both spaces with the same columns. -/
theorem spacesFor_bad (c : Int) (xs : List Int) (d : Int) (ys : List Int) (k : Int) (hk : both c xs d ys = k) (hk0 : ¬ k = 0) (b n cap b' n' cap' : Nat) (w : World) (hM : Mt w b n xs) (hN : Mt w b' n' ys) (hT : Tab w) :
    Calls Tryd.prog 65 #[.agg #[.int .i64 c, .slice (some ⟨b, 0, none⟩) n cap], .agg #[.int .i64 d, .slice (some ⟨b', 0, none⟩) n' cap']] w fun e w' => e = .returned (.tuple #[.agg (gridC [] 0), .agg (gridC [] 0), .int .i64 k]) ∧ Below w.heap.size w w' := by
  rcases both_cases c xs d ys with ⟨h, _⟩ | ⟨h, C, D, L, M, rfl, rfl, rfl, rfl, hO, hP, hJ, hK, hne⟩ | ⟨h, h2⟩
  · exact absurd (hk.symm.trans h) hk0
  · obtain rfl : k = 2 := hk.symm.trans h
    exact spacesFor_range C L hO hJ D M hP hK hne b n cap b' n' cap' w hM hN hT
  · obtain rfl : k = 1 := hk.symm.trans h
    exact spacesFor_no c xs d ys h2 b n cap b' n' cap' w hM hN hT
theorem ech_of {L : List Nat} (h : joined [] L = L) : Ech L := by
  have := (joined_spec L Ech.nil).1
  rwa [h] at this

set_option maxRecDepth 100000 in
set_option maxHeartbeats 1600000 in
theorem implDistanceOf_any (c : Int) (b n cap : Nat) (xs : List Int) (d : Int) (b' n' cap' : Nat) (ys : List Int) (w : World) (hM : Mt w b n xs) (hN : Mt w b' n' ys) (hT : Tab w) :
    Calls Tryd.prog 40 #[.agg #[.int .i64 c, .slice (some ⟨b, 0, none⟩) n cap], .agg #[.int .i64 d, .slice (some ⟨b', 0, none⟩) n' cap']] w fun e w' => e = .returned (.tuple #[.int .i64 (fDistanceOf c xs d ys).1, .int .i64 (fDistanceOf c xs d ys).2]) ∧ Below w.heap.size w w' := by
  obtain ⟨hb0, hX, hY⟩ := two_boxes w (.int .i64 c) (.slice (some ⟨b, 0, none⟩) n cap) (.int .i64 d) (.slice (some ⟨b', 0, none⟩) n' cap')
  have hM0 := hM.below hb0
  have hN0 := hN.below hb0
  have hT0 := hT.below hb0
  by_cases hk0 : both c xs d ys = 0
  · rcases both_cases c xs d ys with ⟨h, C, L, M, rfl, rfl, rfl, rfl, hO, hP, hJ, hK⟩ | ⟨h, _⟩ | ⟨h, _⟩
    · rw [fDistance_yes h]
      have D := fun w hT => distance_any C L M hO hP (ech_of hJ) w hT
      have hn10 := hO.n10
      have hm10 := hP.n10
      generalize dist L M = r at D ⊢
      have DD := Lib.hid D
      have HT := Lib.hid hT
      have HS := Lib.hid (spacesFor_yes C L hO hJ M hP hK b n cap b' n' cap' _ hM0 hN0 hT0)
      clear hT hT0 hX hY hM0 hN0 D hk0 h hJ hK
      go_enter Tryd.func40, Tryd.ntmps40
      go_wp2_with fail
      refine HS.out.mono ?_
      rintro e w1 ⟨rfl, hb⟩
      have hb1 := hb0.trans (hb.mono hb0.size)
      obtain ⟨w2, w3, hst, hst2, hG, hH, hb'⟩ := grids_put w1 L C hn10 (lt32 (by have := hO.c10; omega) hO.lt) M C hm10 (lt32 (by have := hO.c10; omega) hP.lt) _ rfl
      have hb3 := hb1.trans (hb'.mono hb1.size)
      have HD := Lib.hid (DD.out w3 (HT.out.below hb3))
      obtain ⟨g0, g1, g2, g3, g4, g5, g6, g7, g8, g9, g10, g11⟩ := hG.facts
      obtain ⟨m0, m1, m2, m3, m4, m5, m6, m7, m8, m9, m10, m11⟩ := hH.facts
      clear hb hb0 hb1 hb' hG hH
      go_wp2_with fail
      refine HD.out.mono ?_
      rintro e w4 ⟨rfl, hb4⟩
      have hbb := hb3.trans (hb4.mono hb3.size)
      clear hb4 hb3 g0 g1 g2 g3 g4 g5 g6 g7 g8 g9 g10 g11 m0 m1 m2 m3 m4 m5 m6 m7 m8 m9 m10 m11
      go_wp2_with fail
      go_ret2
      exact ⟨rfl, hbb⟩
    · rw [h] at hk0; omega
    · rw [h] at hk0; omega
  · obtain ⟨k, hk⟩ : ∃ k, both c xs d ys = k := ⟨_, rfl⟩
    rw [hk] at hk0
    rw [fDistance_no hk hk0]
    have HS := Lib.hid (spacesFor_bad c xs d ys k hk hk0 b n cap b' n' cap' _ hM0 hN0 hT0)
    clear hT hT0 hX hY hM0 hN0 hk
    go_enter Tryd.func40, Tryd.ntmps40
    go_wp2_with fail
    refine HS.out.mono ?_
    rintro e w1 ⟨rfl, hb⟩
    have hb1 := hb0.trans (hb.mono hb0.size)
    obtain ⟨w2, w3, hst, hst2, hG, hH, hb'⟩ := grids_put w1 [] 0 (by simp) (by intro j; simp [nth]) [] 0 (by simp) (by intro j; simp [nth]) _ rfl
    have hb3 := hb1.trans (hb'.mono hb1.size)
    clear hb hb0 hb1 hb' hG hH
    go_wp2_with fail
    go_ret2
    exact ⟨rfl, hb3⟩

set_option maxRecDepth 100000 in
set_option maxHeartbeats 1600000 in
theorem specDistanceOf_any (c : Int) (b n cap : Nat) (xs : List Int) (d : Int) (b' n' cap' : Nat) (ys : List Int) (w : World) (hM : Mt w b n xs) (hN : Mt w b' n' ys) :
    Calls Tryd.prog 39 #[.agg #[.int .i64 c, .slice (some ⟨b, 0, none⟩) n cap], .agg #[.int .i64 d, .slice (some ⟨b', 0, none⟩) n' cap']] w fun e w' => e = .returned (.tuple #[.int .i64 (fDistanceOf c xs d ys).1, .int .i64 (fDistanceOf c xs d ys).2]) ∧ Below w.heap.size w w' := by
  obtain ⟨hb0, hX, hY⟩ := two_boxes w (.int .i64 c) (.slice (some ⟨b, 0, none⟩) n cap) (.int .i64 d) (.slice (some ⟨b', 0, none⟩) n' cap')
  have hM0 := hM.below hb0
  have hN0 := hN.below hb0
  have hS0 : Sp1 _ w.heap.size c b n cap xs := ⟨⟨hX.c0, hX.c1, hX.lt⟩, hM0⟩
  have hU0 : Sp1 _ (w.heap.size + 1) d b' n' cap' ys := ⟨⟨hY.c0, hY.c1, hY.lt⟩, hN0⟩
  have S := l02Both_any w.heap.size c b n cap xs (w.heap.size + 1) d b' n' cap' ys _ hS0 hU0
  by_cases hk0 : both c xs d ys = 0
  · rcases both_cases c xs d ys with ⟨h, C, L, M, rfl, rfl, rfl, rfl, hO, hP, hJ, hK⟩ | ⟨h, _⟩ | ⟨h, _⟩
    · rw [fDistance_yes h]
      rw [h] at S
      have hll := hM.len
      rw [ints_length] at hll
      subst hll
      have hmm := hN.len
      rw [ints_length] at hmm
      subst hmm
      have D := fun W hS hU => l02Distance_any w.heap.size C b cap L hO hJ (w.heap.size + 1) b' cap' M hP W hS hU
      generalize dist L M = r at D ⊢
      have DD := Lib.hid D
      have HS := Lib.hid S
      have HS0 := Lib.hid hS0
      have HU0 := Lib.hid hU0
      clear hX hY hM0 hN0 D hk0 h hJ hK S hS0 hU0
      go_enter Tryd.func39, Tryd.ntmps39
      go_wp2_with fail
      refine HS.out.mono ?_
      rintro e w1 ⟨rfl, hb⟩
      have HD := Lib.hid (DD.out w1 (HS0.out.below hb) (HU0.out.below hb))
      have hb1 := hb0.trans (hb.mono hb0.size)
      clear hb hb0
      go_wp2_with fail
      refine HD.out.mono ?_
      rintro e w4 ⟨rfl, hb4⟩
      have hbb := hb1.trans (hb4.mono hb1.size)
      clear hb4 hb1
      go_wp2_with fail
      go_ret2
      exact ⟨rfl, hbb⟩
    · rw [h] at hk0; omega
    · rw [h] at hk0; omega
  · obtain ⟨k, hk⟩ : ∃ k, both c xs d ys = k := ⟨_, rfl⟩
    rw [hk] at hk0 S
    rw [fDistance_no hk hk0]
    have HS := Lib.hid S
    clear hX hY hM0 hN0 hk S hS0 hU0
    go_enter Tryd.func39, Tryd.ntmps39
    go_wp2_with fail
    refine HS.out.mono ?_
    rintro e w1 ⟨rfl, hb⟩
    have hb1 := hb0.trans (hb.mono hb0.size)
    clear hb hb0
    go_wp2_with fail
    go_ret2
    exact ⟨rfl, hb1⟩
end Go.Proofs.YtfhalaohegdbhaaDoor
