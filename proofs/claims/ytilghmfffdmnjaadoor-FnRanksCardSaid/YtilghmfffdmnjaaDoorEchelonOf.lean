/- EchelonOf: the program and the model. -/
import Derived.Test.YtilghmfffdmnjaaDoorValid
import Derived.Test.YtilghmfffdmnjaaDoorGridFor
import Derived.Test.YtilghmfffdmnjaaDoorJoined
import Derived.Test.YtilghmfffdmnjaaDoorRankS
import Derived.Deep.RegionHeld3
namespace Go.Proofs.YtilghmfffdmnjaaDoor
open Go.RowKit Go.Joins
set_option linter.unusedVariables false

/-- The echelon form of a matrix, with ErrInvalid first. -/
def fEchelonOf (c : Int) (zs : List Int) : Int × List Int × Int := mk1 c zs fun C L => (C, ints (joined [] L), 0)
theorem OR.res {W : World} {B g cap : Nat} {A : List Nat} (h : OR W B 2 g cap A) (hk : A.length ≤ 1048576) {B' : Nat} (hB : B' ≤ B) : Res W B' W.heap.size (.slice (some ⟨g, 0, none⟩) A.length cap) (ints A) := own_res h.own hk hB
theorem joined_len {C : Nat} {L : List Nat} (hC : C ≤ 10) (hL : ∀ r ∈ L, r < 2 ^ C) : (joined [] L).length ≤ 10 := Nat.le_trans ((joined_spec L Ech.nil).1.len (joined_lt .nil (by simp) hL)) hC


set_option maxRecDepth 100000 in
set_option maxHeartbeats 1600000 in
theorem implEchelonOf_anyR (c : Int) (A : Option Addr) (n cap : Nat) (xs : List Int) (w : World) (hM : Rd w w.heap.size A n xs) (hT : Tab w) :
    Calls Tryd.prog 42 #[.agg #[.int .i64 c, .slice A n cap]] w fun e w' => ∃ v, e = .returned (.tuple #[.agg #[.int .i64 (fEchelonOf c xs).1, v], .int .i64 (fEchelonOf c xs).2.2]) ∧ Below w.heap.size w w' ∧ Res w' w.heap.size w'.heap.size v (fEchelonOf c xs).2.1 := by
  unfold fEchelonOf
  have hR : MRoom ((w.alloc (.cells #[.int .i64 c, .slice A n cap] 50)).alloc (.cells #[.int .i64 0, .slice none 0 0] 50)) (w.heap.size + 1) := by simpa using MRoom.start (w.alloc (.cells #[.int .i64 c, .slice A n cap] 50)) (.int .i64 0) (.slice none 0 0) 50
  have hb0 := below_alloc2 w (.cells #[.int .i64 c, .slice A n cap] 50) (.cells #[.int .i64 0, .slice none 0 0] 50)
  have hM0 := hM.below hb0
  cases hk : okM c xs with
  | false =>
    rw [mk1_no hk]
    go_enter Tryd.func42, Tryd.ntmps42
    go_wp2_with fail
    refine (gridFor_noR c A n cap xs _ hM0 hk).mono ?_
    rintro e w1 ⟨rfl, hb⟩
    have hR1 := hR.below hb
    have hb1 := hb0.trans (hb.mono hb0.size)
    have hlt1 := hR1.lt
    clear hb hR hb0
    obtain ⟨w2, hst, hG2, hb⟩ := grid_put w1 [] 0 (by simp) (by intro j; simp [nth])
    have hR2 := hR1.below hb
    have hb2 := hb1.trans (hb.mono hb1.size)
    clear hb hb1
    obtain ⟨x, y, h0, h1⟩ := hR2.ex
    have f0 := hR2.f0
    have f1 := hR2.f1
    go_wp2_with fail
    refine bodyPost_ret (v := .tuple #[.agg #[.int .i64 0, .slice none 0 0], .int .i64 1]) (mat_results (p := 2) (u := 3) (fn := Tryd.f42) rfl _ rfl (two_setCell _ _ _ _ h0 h1).1 (two_setCell _ _ _ _ h0 h1).2) rfl ⟨_, rfl, ?_, .nil none 0⟩
    exact (only2 _ _ _ _).below hb2 (by simp)
  | true =>
    obtain ⟨C, L, rfl, rfl, hO⟩ := okM_nat hk
    rw [mk1_yes hO]
    have hn10 := hO.n10
    have hc10 := hO.c10
    have E := fun w hT => echelon_any C L hc10 hO.lt hn10 w hT
    have hJ := joined_len hc10 hO.lt
    have hJ2 := lt32 (show C ≤ 20 by omega) (joined_lt .nil (by simp) hO.lt)
    generalize joined [] L = J at E hJ hJ2 ⊢
    have EE := Lib.hid E
    have HJ2 := Lib.hid hJ2
    clear E hJ2
    go_enter Tryd.func42, Tryd.ntmps42
    go_wp2_with fail
    refine (gridFor_yesR C L hO A n cap _ hM0).mono ?_
    rintro e w1 ⟨rfl, hb⟩
    have hR1 := hR.below hb
    have hb1 := hb0.trans (hb.mono hb0.size)
    have hlt1 := hR1.lt
    clear hb hR hb0
    obtain ⟨w2, hst, hG2, hb⟩ := grid_put w1 L C hn10 (fun j => Nat.lt_trans (hO.get' j) (by omega))
    have hR2 := hR1.below hb
    have hb2 := hb1.trans (hb.mono hb1.size)
    clear hb hb1
    obtain ⟨g0, g1, g2, g3, g4, g5, g6, g7, g8, g9, g10, g11⟩ := hG2.facts
    have HS := Lib.hid (EE.out _ (hT.below hb2))
    clear hT
    go_wp2_with fail
    refine HS.out.mono ?_
    rintro e w3 ⟨rfl, hb⟩
    have hR3 := hR2.below hb
    have hb3 := hb2.trans (hb.mono hb2.size)
    clear hb hR2 hb2 g0 g1 g2 g3 g4 g5 g6 g7 g8 g9 g10 g11
    go_wp2_with fail
    refine (matrix_any J C hJ HJ2.out _).mono ?_
    rintro e w4 ⟨v, rfl, hb, hV⟩
    have hR4 := hR3.below hb
    have hb4 := hb3.trans (hb.mono hb3.size)
    have hs4 := hb3.size
    have hq4 : w.heap.size + 1 < w3.heap.size := hR3.lt
    clear hb hR3 hb3
    obtain ⟨x, y, h0, h1⟩ := hR4.ex
    have f0 := hR4.f0
    have f1 := hR4.f1
    obtain ⟨ao, m, cap', rfl⟩ := hV.form
    have HV := Lib.hid hV
    clear hV
    go_wp2_with fail
    refine bodyPost_ret (v := .tuple #[.agg #[.int .i64 C, _], .int .i64 0]) (mat_results (p := 2) (u := 3) (fn := Tryd.f42) rfl _ rfl (two_setCell _ _ _ _ h0 h1).1 (two_setCell _ _ _ _ h0 h1).2) rfl ⟨_, rfl, ?_, HV.out.fin (q := w.heap.size + 1) (by omega) (by omega) _ _⟩
    exact (only2 _ _ _ _).below hb4 (by simp)
theorem implEchelonOf_any (c : Int) (b n cap : Nat) (xs : List Int) (w : World) (hM : Mt w b n xs) (hT : Tab w) :
    Calls Tryd.prog 42 #[.agg #[.int .i64 c, .slice (some ⟨b, 0, none⟩) n cap]] w fun e w' => ∃ v, e = .returned (.tuple #[.agg #[.int .i64 (fEchelonOf c xs).1, v], .int .i64 (fEchelonOf c xs).2.2]) ∧ Below w.heap.size w w' ∧ Res w' w.heap.size w'.heap.size v (fEchelonOf c xs).2.1 :=
  implEchelonOf_anyR c (some ⟨b, 0, none⟩) n cap xs w hM.rd hT
end Go.Proofs.YtilghmfffdmnjaaDoor
