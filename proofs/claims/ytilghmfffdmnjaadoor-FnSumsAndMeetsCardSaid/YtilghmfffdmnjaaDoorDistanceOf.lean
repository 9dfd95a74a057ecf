/- Two spaces: what functions of them return first; the model's distance. · The distance of two spaces: the program's. · DistanceOf: the program and the model. -/
import Derived.Test.YtilghmfffdmnjaaDoorColPure
import Derived.Test.YtilghmfffdmnjaaDoorSumS
import Derived.Test.YtilghmfffdmnjaaDoorRankOf
import Derived.Test.YtilghmfffdmnjaaDoorSpaceFor
import Derived.Test.YtilghmfffdmnjaaDoorSpacesFor
namespace Go.Proofs.YtilghmfffdmnjaaDoor
open Go.RowKit Go.Joins
set_option linter.unusedVariables false

theorem both_cases (c : Int) (zs : List Int) (d : Int) (ys : List Int) :
    (both c zs d ys = 0 ∧ ∃ (C : Nat) (L M : List Nat), c = C ∧ d = C ∧ zs = ints L ∧ ys = ints M ∧ OkM C L ∧ OkM C M ∧ joined [] L = L ∧ joined [] M = M) ∨
    (both c zs d ys = 2 ∧ ∃ (C D : Nat) (L M : List Nat), c = C ∧ d = D ∧ zs = ints L ∧ ys = ints M ∧ OkM C L ∧ OkM D M ∧ joined [] L = L ∧ joined [] M = M ∧ ¬ C = D) ∨
    (both c zs d ys = 1 ∧ (isSp c zs = false ∨ isSp d ys = false)) := by
  cases hk : isSp c zs with
  | false => exact .inr (.inr ⟨both_no1 hk, .inl rfl⟩)
  | true =>
    cases hl : isSp d ys with
    | false => exact .inr (.inr ⟨both_no2 hl, .inr rfl⟩)
    | true =>
      obtain ⟨C, L, rfl, rfl, hO, hJ⟩ := isSp_yes hk
      obtain ⟨D, M, rfl, rfl, hP, hK⟩ := isSp_yes hl
      by_cases hcd : C = D
      · subst hcd
        exact .inl ⟨both_ok hk hl rfl, C, L, M, rfl, rfl, rfl, rfl, hO, hP, hJ, hK⟩
      · exact .inr (.inl ⟨both_range hk hl (by omega), C, D, L, M, rfl, rfl, rfl, rfl, hO, hP, hJ, hK, hcd⟩)

theorem Res.slen {W : World} {B T m cp : Nat} {ao : Option Addr} {xs : List Int} (h : Res W B T (.slice ao m cp) xs) : xs.length = m := by
  cases h with
  | nil => rfl
  | row g n cap xs h1 h2 h3 h4 h5 h6 h7 => exact h4
/-- The distance of two spaces. -/
def dist (L M : List Nat) : Int := 2 * ((joined L M).length : Nat) - (L.length : Nat) - (M.length : Nat)

end Go.Proofs.YtilghmfffdmnjaaDoor
namespace Go.Proofs.YtilghmfffdmnjaaDoor
open Go.RowKit Go.Joins
set_option linter.unusedVariables false

set_option maxRecDepth 100000 in
set_option maxHeartbeats 3200000 in
theorem distance_any (C : Nat) (L M : List Nat) (hO : OkM C L) (hP : OkM C M) (hE : Ech L) (w : World) (hT : Tab w) :
    Calls Tryd.prog 95 #[.agg (gridC L C), .agg (gridC M C)] w fun e w' => e = .returned (.int .i64 (dist L M)) ∧ Below w.heap.size w w' := by
  have hc10 := hO.c10
  have hl := hO.n10
  have hm := hP.n10
  have E := fun w hT => joined_any C C L M hc10 hE hO.lt hP.lt hm w hT
  have hjl : (joined L M).length ≤ 10 := Nat.le_trans ((joined_spec M hE).1.len (joined_lt hE hO.lt hP.lt)) hc10
  unfold dist
  generalize joined L M = J at E hjl ⊢
  have hf1 : ∀ w, (Instr.field 105 (.agg (gridC J C)) 0).run Tryd.prog w = .ok (.agg (listC J)) w := fun w => field_rows _ _ _ _ _ _ _ _ _ _ _ _ w
  have hf2 : ∀ w, (Instr.field 103 (.agg (listC J)) 0).run Tryd.prog w = .ok (.int .i64 (J.length : Nat)) w := fun w => field_count _ _ _ _ _ _ _ _ _ _ _ w
  have hb0 := (below_alloc2 w (.cells (gridC L C) 105) (.cells (gridC M C) 105)).drew
  have hG : GAt (World.drew ((w.alloc (.cells (gridC L C) 105)).alloc (.cells (gridC M C) 105))) w.heap.size L C :=
    ((GAt.start w L C 105 hl (lt32 (by omega) hO.lt)).below (below_alloc1 _ _)).drewN 1
  have hH : GAt (World.drew ((w.alloc (.cells (gridC L C) 105)).alloc (.cells (gridC M C) 105))) (w.heap.size + 1) M C := by
    have h := GAt.start (w.alloc (.cells (gridC L C) 105)) M C 105 hm (lt32 (by omega) hP.lt)
    have h2 : GAt ((w.alloc (.cells (gridC L C) 105)).alloc (.cells (gridC M C) 105)) (w.heap.size + 1) M C := by simpa using h
    exact h2.drewN 1
  have HT := Lib.hid (hT.below hb0)
  obtain ⟨g0, g1, g2, g3, g4, g5, g6, g7, g8, g9, g10, g11⟩ := hG.facts
  obtain ⟨m0, m1, m2, m3, m4, m5, m6, m7, m8, m9, m10, m11⟩ := hH.facts
  have HG := Lib.hid hG
  have HH := Lib.hid hH
  have HB := Lib.hid hb0
  have EE := Lib.hid E
  clear hG hH hb0 E hT hE
  go_enter Tryd.func95, Tryd.ntmps95
  go_wp2_with fail
  go_region_held3 (fun w' => w'.cell? ⟨w.heap.size, 0, none⟩ = some (.int .i64 (L.length : Nat)) ∧ w'.cell? ⟨w.heap.size, 1, none⟩ = some (.int .u32 (nth L 0 : Nat)) ∧ w'.cell? ⟨w.heap.size, 2, none⟩ = some (.int .u32 (nth L 1 : Nat)) ∧ w'.cell? ⟨w.heap.size, 3, none⟩ = some (.int .u32 (nth L 2 : Nat)) ∧ w'.cell? ⟨w.heap.size, 4, none⟩ = some (.int .u32 (nth L 3 : Nat)) ∧ w'.cell? ⟨w.heap.size, 5, none⟩ = some (.int .u32 (nth L 4 : Nat)) ∧ w'.cell? ⟨w.heap.size, 6, none⟩ = some (.int .u32 (nth L 5 : Nat)) ∧ w'.cell? ⟨w.heap.size, 7, none⟩ = some (.int .u32 (nth L 6 : Nat)) ∧ w'.cell? ⟨w.heap.size, 8, none⟩ = some (.int .u32 (nth L 7 : Nat)) ∧ w'.cell? ⟨w.heap.size, 9, none⟩ = some (.int .u32 (nth L 8 : Nat)) ∧ w'.cell? ⟨w.heap.size, 10, none⟩ = some (.int .u32 (nth L 9 : Nat)) ∧ w'.cell? ⟨w.heap.size, 11, none⟩ = some (.int .i64 C) ∧ w'.cell? ⟨w.heap.size + 1, 0, none⟩ = some (.int .i64 (M.length : Nat)) ∧ w'.cell? ⟨w.heap.size + 1, 1, none⟩ = some (.int .u32 (nth M 0 : Nat)) ∧ w'.cell? ⟨w.heap.size + 1, 2, none⟩ = some (.int .u32 (nth M 1 : Nat)) ∧ w'.cell? ⟨w.heap.size + 1, 3, none⟩ = some (.int .u32 (nth M 2 : Nat)) ∧ w'.cell? ⟨w.heap.size + 1, 4, none⟩ = some (.int .u32 (nth M 3 : Nat)) ∧ w'.cell? ⟨w.heap.size + 1, 5, none⟩ = some (.int .u32 (nth M 4 : Nat)) ∧ w'.cell? ⟨w.heap.size + 1, 6, none⟩ = some (.int .u32 (nth M 5 : Nat)) ∧ w'.cell? ⟨w.heap.size + 1, 7, none⟩ = some (.int .u32 (nth M 6 : Nat)) ∧ w'.cell? ⟨w.heap.size + 1, 8, none⟩ = some (.int .u32 (nth M 7 : Nat)) ∧ w'.cell? ⟨w.heap.size + 1, 9, none⟩ = some (.int .u32 (nth M 8 : Nat)) ∧ w'.cell? ⟨w.heap.size + 1, 10, none⟩ = some (.int .u32 (nth M 9 : Nat)) ∧ w'.cell? ⟨w.heap.size + 1, 11, none⟩ = some (.int .i64 C)) (first | with_reducible exact ⟨g0, g1, g2, g3, g4, g5, g6, g7, g8, g9, g10, g11, m0, m1, m2, m3, m4, m5, m6, m7, m8, m9, m10, m11⟩ | with_reducible exact ⟨by assumption, by assumption, by assumption, by assumption, by assumption, by assumption, by assumption, by assumption, by assumption, by assumption, by assumption, by assumption, by assumption, by assumption, by assumption, by assumption, by assumption, by assumption, by assumption, by assumption, by assumption, by assumption, by assumption, by assumption⟩) (first | (go_at_call 94; refine (EE.out _ HT.out).mono ?_; rintro e w3 ⟨rfl, hb3⟩; have hG3 := HG.out.below hb3; have hH3 := HH.out.below hb3; have HB3 := Lib.hid (HB.out.trans (hb3.mono HB.out.size)); obtain ⟨t0, t1, t2, t3, t4, t5, t6, t7, t8, t9, t10, t11⟩ := hG3.facts; obtain ⟨r0, r1, r2, r3, r4, r5, r6, r7, r8, r9, r10, r11⟩ := hH3.facts; clear hb3 hG3 hH3))
  all_goals
    clear g0 g1 g2 g3 g4 g5 g6 g7 g8 g9 g10 g11 m0 m1 m2 m3 m4 m5 m6 m7 m8 m9 m10 m11
    go_wp2_with fail
    go_ret
    exact ⟨ret_int (by rw [IntKind.wrap_i64, IntKind.wrap_i64, IntKind.wrap_i64]; omega), HB3.out⟩
end Go.Proofs.YtilghmfffdmnjaaDoor
namespace Go.Proofs.YtilghmfffdmnjaaDoor
open Go.RowKit Go.Joins
set_option linter.unusedVariables false

/-- The distance of two spaces, with the errors first. -/
def fDistanceOf (c : Int) (zs : List Int) (d : Int) (ys : List Int) : Int × Int := if both c zs d ys = 0 then (dist (zs.map Int.toNat) (ys.map Int.toNat), 0) else (0, both c zs d ys)
theorem fDistance_yes {C : Nat} {L M : List Nat} (h : both C (ints L) C (ints M) = 0) : fDistanceOf C (ints L) C (ints M) = (dist L M, 0) := by rw [fDistanceOf, if_pos h, toNats_ints, toNats_ints]
theorem fDistance_no {c : Int} {zs : List Int} {d : Int} {ys : List Int} {k : Int} (h : both c zs d ys = k) (hk : ¬ k = 0) : fDistanceOf c zs d ys = (0, k) := by rw [fDistanceOf, h, if_neg hk]

/-- Two matrices in two new blocks. -/
theorem two_boxes (w : World) (u0 u1 v0 v1 : Value) : Below w.heap.size w ((w.alloc (.cells #[u0, u1] 50)).alloc (.cells #[v0, v1] 50)) ∧ Box ((w.alloc (.cells #[u0, u1] 50)).alloc (.cells #[v0, v1] 50)) w.heap.size u0 u1 ∧ Box ((w.alloc (.cells #[u0, u1] 50)).alloc (.cells #[v0, v1] 50)) (w.heap.size + 1) v0 v1 :=
  ⟨below_alloc2 w _ _, (Box.one w u0 u1 _).next (below_alloc1 _ _), Box.two w _ v0 v1 _⟩

/-- The grids of two matrices that are not both spaces with the same columns. -/
theorem spacesFor_badR (c : Int) (xs : List Int) (d : Int) (ys : List Int) (k : Int) (hk : both c xs d ys = k) (hk0 : ¬ k = 0) (A : Option Addr) (n cap : Nat) (A' : Option Addr) (n' cap' : Nat) (w : World) (hM : Rd w w.heap.size A n xs) (hN : Rd w w.heap.size A' n' ys) (hT : Tab w) :
    Calls Tryd.prog 93 #[.agg #[.int .i64 c, .slice A n cap], .agg #[.int .i64 d, .slice A' n' cap']] w fun e w' => e = .returned (.tuple #[.agg (gridC [] 0), .agg (gridC [] 0), .int .i64 k]) ∧ Below w.heap.size w w' := by
  rcases both_cases c xs d ys with ⟨h, _⟩ | ⟨h, C, D, L, M, rfl, rfl, rfl, rfl, hO, hP, hJ, hK, hne⟩ | ⟨h, h2⟩
  · exact absurd (hk.symm.trans h) hk0
  · obtain rfl : k = 2 := hk.symm.trans h
    exact spacesFor_rangeR C L hO hJ D M hP hK hne A n cap A' n' cap' w hM hN hT
  · obtain rfl : k = 1 := hk.symm.trans h
    exact spacesFor_noR c xs d ys h2 A n cap A' n' cap' w hM hN hT
theorem spacesFor_bad (c : Int) (xs : List Int) (d : Int) (ys : List Int) (k : Int) (hk : both c xs d ys = k) (hk0 : ¬ k = 0) (b n cap b' n' cap' : Nat) (w : World) (hM : Mt w b n xs) (hN : Mt w b' n' ys) (hT : Tab w) :
    Calls Tryd.prog 93 #[.agg #[.int .i64 c, .slice (some ⟨b, 0, none⟩) n cap], .agg #[.int .i64 d, .slice (some ⟨b', 0, none⟩) n' cap']] w fun e w' => e = .returned (.tuple #[.agg (gridC [] 0), .agg (gridC [] 0), .int .i64 k]) ∧ Below w.heap.size w w' :=
  spacesFor_badR c xs d ys k hk hk0 (some ⟨b, 0, none⟩) n cap (some ⟨b', 0, none⟩) n' cap' w hM.rd hN.rd hT
theorem ech_of {L : List Nat} (h : joined [] L = L) : Ech L := by
  have := (joined_spec L Ech.nil).1
  rwa [h] at this

set_option maxRecDepth 100000 in
set_option maxHeartbeats 1600000 in
theorem implDistanceOf_anyR (c : Int) (A : Option Addr) (n cap : Nat) (xs : List Int) (d : Int) (A' : Option Addr) (n' cap' : Nat) (ys : List Int) (w : World) (hM : Rd w w.heap.size A n xs) (hN : Rd w w.heap.size A' n' ys) (hT : Tab w) :
    Calls Tryd.prog 50 #[.agg #[.int .i64 c, .slice A n cap], .agg #[.int .i64 d, .slice A' n' cap']] w fun e w' => e = .returned (.tuple #[.int .i64 (fDistanceOf c xs d ys).1, .int .i64 (fDistanceOf c xs d ys).2]) ∧ Below w.heap.size w w' := by
  obtain ⟨hb0, hX, hY⟩ := two_boxes w (.int .i64 c) (.slice A n cap) (.int .i64 d) (.slice A' n' cap')
  have hM0 := hM.below hb0
  have hN0 := hN.below hb0
  have hT0 := hT.below hb0
  by_cases hk0 : both c xs d ys = 0
  · rcases both_cases c xs d ys with ⟨h, C, L, M, rfl, rfl, rfl, rfl, hO, hP, hJ, hK⟩ | ⟨h, _⟩ | ⟨h, _⟩
    · rw [fDistance_yes h]
      have D := fun w hT => distance_any C L M hO hP (ech_of hJ) w hT
      have hn10 := hO.n10
      have hm10 := hP.n10
      generalize dist L M = r at D ⊢
      have DD := Lib.hid D
      have HT := Lib.hid hT
      have HS := Lib.hid (spacesFor_yesR C L hO hJ M hP hK A n cap A' n' cap' _ hM0 hN0 hT0)
      clear hT hT0 hX hY hM0 hN0 D hk0 h hJ hK
      go_enter Tryd.func50, Tryd.ntmps50
      go_wp2_with fail
      refine HS.out.mono ?_
      rintro e w1 ⟨rfl, hb⟩
      have hb1 := hb0.trans (hb.mono hb0.size)
      obtain ⟨w2, w3, hst, hst2, hG, hH, hb'⟩ := grids_put w1 L C hn10 (lt32 (by have := hO.c10; omega) hO.lt) M C hm10 (lt32 (by have := hO.c10; omega) hP.lt) _ rfl
      have hb3 := hb1.trans (hb'.mono hb1.size)
      have HD := Lib.hid (DD.out w3 (HT.out.below hb3))
      obtain ⟨g0, g1, g2, g3, g4, g5, g6, g7, g8, g9, g10, g11⟩ := hG.facts
      obtain ⟨m0, m1, m2, m3, m4, m5, m6, m7, m8, m9, m10, m11⟩ := hH.facts
      clear hb hb0 hb1 hb' hG hH
      go_wp2_with fail
      refine HD.out.mono ?_
      rintro e w4 ⟨rfl, hb4⟩
      have hbb := hb3.trans (hb4.mono hb3.size)
      clear hb4 hb3 g0 g1 g2 g3 g4 g5 g6 g7 g8 g9 g10 g11 m0 m1 m2 m3 m4 m5 m6 m7 m8 m9 m10 m11
      go_wp2_with fail
      go_ret2
      exact ⟨rfl, hbb⟩
    · rw [h] at hk0; omega
    · rw [h] at hk0; omega
  · obtain ⟨k, hk⟩ : ∃ k, both c xs d ys = k := ⟨_, rfl⟩
    rw [hk] at hk0
    rw [fDistance_no hk hk0]
    have HS := Lib.hid (spacesFor_badR c xs d ys k hk hk0 A n cap A' n' cap' _ hM0 hN0 hT0)
    clear hT hT0 hX hY hM0 hN0 hk
    go_enter Tryd.func50, Tryd.ntmps50
    go_wp2_with fail
    refine HS.out.mono ?_
    rintro e w1 ⟨rfl, hb⟩
    have hb1 := hb0.trans (hb.mono hb0.size)
    obtain ⟨w2, w3, hst, hst2, hG, hH, hb'⟩ := grids_put w1 [] 0 (by simp) (by intro j; simp [nth]) [] 0 (by simp) (by intro j; simp [nth]) _ rfl
    have hb3 := hb1.trans (hb'.mono hb1.size)
    clear hb hb0 hb1 hb' hG hH
    go_wp2_with fail
    go_ret2
    exact ⟨rfl, hb3⟩
theorem implDistanceOf_any (c : Int) (b n cap : Nat) (xs : List Int) (d : Int) (b' n' cap' : Nat) (ys : List Int) (w : World) (hM : Mt w b n xs) (hN : Mt w b' n' ys) (hT : Tab w) :
    Calls Tryd.prog 50 #[.agg #[.int .i64 c, .slice (some ⟨b, 0, none⟩) n cap], .agg #[.int .i64 d, .slice (some ⟨b', 0, none⟩) n' cap']] w fun e w' => e = .returned (.tuple #[.int .i64 (fDistanceOf c xs d ys).1, .int .i64 (fDistanceOf c xs d ys).2]) ∧ Below w.heap.size w w' :=
  implDistanceOf_anyR c (some ⟨b, 0, none⟩) n cap xs d (some ⟨b', 0, none⟩) n' cap' ys w hM.rd hN.rd hT

end Go.Proofs.YtilghmfffdmnjaaDoor
