/- EchelonOf: the program and the model. -/
import Derived.Test.YtfhalaohegdbhaaDoorValid
import Derived.Test.YtfhalaohegdbhaaDoorGridFor
import Derived.Test.YtfhalaohegdbhaaDoorJoined
import Derived.Test.YtfhalaohegdbhaaDoorRankS
import Derived.Deep.RegionHeld3
namespace Go.Proofs.YtfhalaohegdbhaaDoor
open Go.RowKit Go.Joins
set_option linter.unusedVariables false

/-- The echelon form of a matrix, with ErrInvalid first. -/
def fEchelonOf (c : Int) (zs : List Int) : Int × List Int × Int := mk1 c zs fun C L => (C, ints (joined [] L), 0)
theorem OR.res {W : World} {B g cap : Nat} {A : List Nat} (h : OR W B 2 g cap A) (hk : A.length ≤ 1048576) {B' : Nat} (hB : B' ≤ B) : Res W B' W.heap.size (.slice (some ⟨g, 0, none⟩) A.length cap) (ints A) := own_res h.own hk hB
theorem joined_len {C : Nat} {L : List Nat} (hC : C ≤ 10) (hL : ∀ r ∈ L, r < 2 ^ C) : (joined [] L).length ≤ 10 := Nat.le_trans ((joined_spec L Ech.nil).1.len (joined_lt .nil (by simp) hL)) hC

set_option maxRecDepth 100000 in
set_option maxHeartbeats 1600000 in
theorem specEchelonOf_any (c : Int) (b n cap : Nat) (xs : List Int) (w : World) (hM : Mt w b n xs) :
    Calls Tryd.prog 21 #[.agg #[.int .i64 c, .slice (some ⟨b, 0, none⟩) n cap]] w fun e w' => ∃ v, e = .returned (.tuple #[.agg #[.int .i64 (fEchelonOf c xs).1, v], .int .i64 (fEchelonOf c xs).2.2]) ∧ Below w.heap.size w w' ∧ Res w' w.heap.size w'.heap.size v (fEchelonOf c xs).2.1 := by
  unfold fEchelonOf
  have hR : MRoom ((w.alloc (.cells #[.int .i64 c, .slice (some ⟨b, 0, none⟩) n cap] 28)).alloc (.cells #[.int .i64 0, .slice none 0 0] 28)) (w.heap.size + 1) := by simpa using MRoom.start (w.alloc (.cells #[.int .i64 c, .slice (some ⟨b, 0, none⟩) n cap] 28)) (.int .i64 0) (.slice none 0 0) 28
  have hb0 := below_alloc2 w (.cells #[.int .i64 c, .slice (some ⟨b, 0, none⟩) n cap] 28) (.cells #[.int .i64 0, .slice none 0 0] 28)
  have hX := (Box.one w (.int .i64 c) (.slice (some ⟨b, 0, none⟩) n cap) 28).next (below_alloc1 _ (.cells #[.int .i64 0, .slice none 0 0] 28))
  have hS : Sp1 ((w.alloc (.cells #[.int .i64 c, .slice (some ⟨b, 0, none⟩) n cap] 28)).alloc (.cells #[.int .i64 0, .slice none 0 0] 28)) w.heap.size c b n cap xs := ⟨⟨hX.c0, hX.c1, hX.lt⟩, hM.below hb0⟩
  have S := l02Ok_any w.heap.size c b n cap xs _ hS.m hS.r
  cases hk : okM c xs with
  | false =>
    rw [mk1_no hk]
    rw [hk] at S
    have HS := Lib.hid S
    clear S hX
    go_enter Tryd.func21, Tryd.ntmps21
    go_wp2_with fail
    refine HS.out.mono ?_
    rintro e w1 ⟨rfl, hb⟩
    have hR1 := hR.below hb
    have hb1 := hb0.trans (hb.mono hb0.size)
    clear hb hR hb0 hS
    obtain ⟨x, y, h0, h1⟩ := hR1.ex
    have f0 := hR1.f0
    have f1 := hR1.f1
    go_wp2_with fail
    refine bodyPost_ret (v := .tuple #[.agg #[.int .i64 0, .slice none 0 0], .int .i64 1]) (mat_results (p := 2) (u := 3) (fn := Tryd.f21) rfl _ rfl (two_setCell _ _ _ _ h0 h1).1 (two_setCell _ _ _ _ h0 h1).2) rfl ⟨_, rfl, ?_, .nil none 0⟩
    exact (only2 _ _ _ _).below hb1 (by simp)
  | true =>
    rw [hk] at S
    obtain ⟨C, L, rfl, rfl, hO⟩ := okM_nat hk
    rw [mk1_yes hO]
    have hll := hM.len
    rw [ints_length] at hll
    have hn10 := hO.n10
    have hc10 := hO.c10
    have E := fun w hM => l02Echelon_any C b n cap L hc10 hO.lt (by omega) w hM
    rw [cols_eq hO.lt] at E
    have hJ := joined_len hc10 hO.lt
    generalize joined [] L = J at E hJ ⊢
    have EE := Lib.hid E
    have HS := Lib.hid S
    clear S hX E
    go_enter Tryd.func21, Tryd.ntmps21
    go_wp2_with fail
    refine HS.out.mono ?_
    rintro e w1 ⟨rfl, hb⟩
    have hR1 := hR.below hb
    have hS1 := hS.below hb
    have hb1 := hb0.trans (hb.mono hb0.size)
    have q0 := hS1.m.c0
    have q1 := hS1.m.c1
    have hqz := hS1.m.lt
    have hrz := hR1.lt
    clear hb hR hb0 hS
    obtain ⟨x, y, h0, h1⟩ := hR1.ex
    have f0 := hR1.f0
    have f1 := hR1.f1
    have HB := Lib.hid hb1
    have HSS := Lib.hid hS1
    have HZ := Lib.hid hrz
    clear hb1 hS1 hR1
    go_wp2_with fail
    go_region_held3 (fun w' => w'.cell? ⟨w.heap.size, 0, none⟩ = some (.int .i64 C) ∧ w'.cell? ⟨w.heap.size, 1, none⟩ = some (.slice (some ⟨b, 0, none⟩) n cap)) (first | exact ⟨q0, q1⟩ | exact ⟨by assumption, by assumption⟩ | exact ⟨by rw [World.cell?_setCell_other _ ⟨w.heap.size + 1, 1, none⟩ ⟨w.heap.size, 0, none⟩ _ (by simp), World.cell?_setCell_other _ ⟨w.heap.size + 1, 0, none⟩ ⟨w.heap.size, 0, none⟩ _ (by simp)]; assumption, by rw [World.cell?_setCell_other _ ⟨w.heap.size + 1, 1, none⟩ ⟨w.heap.size, 1, none⟩ _ (by simp), World.cell?_setCell_other _ ⟨w.heap.size + 1, 0, none⟩ ⟨w.heap.size, 1, none⟩ _ (by simp)]; assumption⟩) (first | (go_at_call 56; refine (EE.out _ (HSS.out.r.drewN 1)).mono ?_; rintro e w3 ⟨g, cp, rfl, hb, hOR⟩; have t0 := (hb.cell (p := ⟨w.heap.size, 0, none⟩) hqz).trans q0; have t1 := (hb.cell (p := ⟨w.heap.size, 1, none⟩) hqz).trans q1; have t2 := (hb.cell (p := ⟨w.heap.size + 1, 0, none⟩) hrz).trans h0; have t3 := (hb.cell (p := ⟨w.heap.size + 1, 1, none⟩) hrz).trans h1; have t4 := (hb.frozen (p := ⟨w.heap.size + 1, 0, none⟩) hrz).trans f0; have t5 := (hb.frozen (p := ⟨w.heap.size + 1, 1, none⟩) hrz).trans f1; have HOR := Lib.hid hOR; have HB3 := Lib.hid (HB.out.trans ((Below.refl _ _).drew.trans (hb.mono HB.out.size))); clear hOR hb))
    all_goals
      go_wp2_with fail
      refine bodyPost_ret (v := .tuple #[.agg #[.int .i64 C, _], .int .i64 0]) (mat_results (p := 2) (u := 3) (fn := Tryd.f21) rfl _ rfl (two_setCell _ _ _ _ t2 t3).1 (two_setCell _ _ _ _ t2 t3).2) rfl ⟨_, rfl, ?_, (HOR.out.res (by omega) (Nat.le_refl _)).fin (q := w.heap.size + 1) HZ.out (by have := HB.out.size; simp; omega) _ _⟩
      exact (only2 _ _ _ _).below HB3.out (by simp)

set_option maxRecDepth 100000 in
set_option maxHeartbeats 1600000 in
theorem implEchelonOf_any (c : Int) (b n cap : Nat) (xs : List Int) (w : World) (hM : Mt w b n xs) (hT : Tab w) :
    Calls Tryd.prog 22 #[.agg #[.int .i64 c, .slice (some ⟨b, 0, none⟩) n cap]] w fun e w' => ∃ v, e = .returned (.tuple #[.agg #[.int .i64 (fEchelonOf c xs).1, v], .int .i64 (fEchelonOf c xs).2.2]) ∧ Below w.heap.size w w' ∧ Res w' w.heap.size w'.heap.size v (fEchelonOf c xs).2.1 := by
  unfold fEchelonOf
  have hR : MRoom ((w.alloc (.cells #[.int .i64 c, .slice (some ⟨b, 0, none⟩) n cap] 28)).alloc (.cells #[.int .i64 0, .slice none 0 0] 28)) (w.heap.size + 1) := by simpa using MRoom.start (w.alloc (.cells #[.int .i64 c, .slice (some ⟨b, 0, none⟩) n cap] 28)) (.int .i64 0) (.slice none 0 0) 28
  have hb0 := below_alloc2 w (.cells #[.int .i64 c, .slice (some ⟨b, 0, none⟩) n cap] 28) (.cells #[.int .i64 0, .slice none 0 0] 28)
  have hM0 := hM.below hb0
  cases hk : okM c xs with
  | false =>
    rw [mk1_no hk]
    go_enter Tryd.func22, Tryd.ntmps22
    go_wp2_with fail
    refine (gridFor_no c b n cap xs _ hM0 hk).mono ?_
    rintro e w1 ⟨rfl, hb⟩
    have hR1 := hR.below hb
    have hb1 := hb0.trans (hb.mono hb0.size)
    have hlt1 := hR1.lt
    clear hb hR hb0
    obtain ⟨w2, hst, hG2, hb⟩ := grid_put w1 [] 0 (by simp) (by intro j; simp [nth])
    have hR2 := hR1.below hb
    have hb2 := hb1.trans (hb.mono hb1.size)
    clear hb hb1
    obtain ⟨x, y, h0, h1⟩ := hR2.ex
    have f0 := hR2.f0
    have f1 := hR2.f1
    go_wp2_with fail
    refine bodyPost_ret (v := .tuple #[.agg #[.int .i64 0, .slice none 0 0], .int .i64 1]) (mat_results (p := 2) (u := 3) (fn := Tryd.f22) rfl _ rfl (two_setCell _ _ _ _ h0 h1).1 (two_setCell _ _ _ _ h0 h1).2) rfl ⟨_, rfl, ?_, .nil none 0⟩
    exact (only2 _ _ _ _).below hb2 (by simp)
  | true =>
    obtain ⟨C, L, rfl, rfl, hO⟩ := okM_nat hk
    rw [mk1_yes hO]
    have hn10 := hO.n10
    have hc10 := hO.c10
    have E := fun w hT => echelon_any C L hc10 hO.lt hn10 w hT
    have hJ := joined_len hc10 hO.lt
    have hJ2 := lt32 (show C ≤ 20 by omega) (joined_lt .nil (by simp) hO.lt)
    generalize joined [] L = J at E hJ hJ2 ⊢
    have EE := Lib.hid E
    have HJ2 := Lib.hid hJ2
    clear E hJ2
    go_enter Tryd.func22, Tryd.ntmps22
    go_wp2_with fail
    refine (gridFor_yes C L hO b n cap _ hM0).mono ?_
    rintro e w1 ⟨rfl, hb⟩
    have hR1 := hR.below hb
    have hb1 := hb0.trans (hb.mono hb0.size)
    have hlt1 := hR1.lt
    clear hb hR hb0
    obtain ⟨w2, hst, hG2, hb⟩ := grid_put w1 L C hn10 (fun j => Nat.lt_trans (hO.get' j) (by omega))
    have hR2 := hR1.below hb
    have hb2 := hb1.trans (hb.mono hb1.size)
    clear hb hb1
    obtain ⟨g0, g1, g2, g3, g4, g5, g6, g7, g8, g9, g10, g11⟩ := hG2.facts
    have HS := Lib.hid (EE.out _ (hT.below hb2))
    clear hT
    go_wp2_with fail
    refine HS.out.mono ?_
    rintro e w3 ⟨rfl, hb⟩
    have hR3 := hR2.below hb
    have hb3 := hb2.trans (hb.mono hb2.size)
    clear hb hR2 hb2 g0 g1 g2 g3 g4 g5 g6 g7 g8 g9 g10 g11
    go_wp2_with fail
    refine (matrix_any J C hJ HJ2.out _).mono ?_
    rintro e w4 ⟨v, rfl, hb, hV⟩
    have hR4 := hR3.below hb
    have hb4 := hb3.trans (hb.mono hb3.size)
    have hs4 := hb3.size
    have hq4 : w.heap.size + 1 < w3.heap.size := hR3.lt
    clear hb hR3 hb3
    obtain ⟨x, y, h0, h1⟩ := hR4.ex
    have f0 := hR4.f0
    have f1 := hR4.f1
    obtain ⟨ao, m, cap', rfl⟩ := hV.form
    have HV := Lib.hid hV
    clear hV
    go_wp2_with fail
    refine bodyPost_ret (v := .tuple #[.agg #[.int .i64 C, _], .int .i64 0]) (mat_results (p := 2) (u := 3) (fn := Tryd.f22) rfl _ rfl (two_setCell _ _ _ _ h0 h1).1 (two_setCell _ _ _ _ h0 h1).2) rfl ⟨_, rfl, ?_, HV.out.fin (q := w.heap.size + 1) (by omega) (by omega) _ _⟩
    exact (only2 _ _ _ _).below hb4 (by simp)
end Go.Proofs.YtfhalaohegdbhaaDoor
