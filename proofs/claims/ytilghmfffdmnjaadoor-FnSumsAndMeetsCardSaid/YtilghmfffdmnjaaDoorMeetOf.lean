/- The meet of two spaces: the model's. · MeetOf: the program and the model. -/
import Derived.Test.YtilghmfffdmnjaaDoorDistanceOf
import Derived.Test.YtilghmfffdmnjaaDoorKernelOf
import Derived.Test.YtilghmfffdmnjaaDoorCut
import Derived.Test.YtilghmfffdmnjaaDoorDim2
import Derived.Test.YtilghmfffdmnjaaDoorSumOf
namespace Go.Proofs.YtilghmfffdmnjaaDoor
open Go.RowKit Go.Joins
set_option linter.unusedVariables false



theorem mk_b {a W : World} {B g cp : Nat} {K : List Nat} (ha : Below a.heap.size a W) (hO : OR W B 2 g cp K) (hB : a.heap.size ≤ B) (u : Value) (T : TypeId) :
    Box (W.alloc (.cells #[u, .slice (some ⟨g, 0, none⟩) K.length cp] T)) W.heap.size u (.slice (some ⟨g, 0, none⟩) K.length cp) ∧ OR (W.alloc (.cells #[u, .slice (some ⟨g, 0, none⟩) K.length cp] T)) a.heap.size 2 g cp K ∧ Below a.heap.size a (W.alloc (.cells #[u, .slice (some ⟨g, 0, none⟩) K.length cp] T)) :=
  ⟨Box.one W u _ T, (hO.below (below_alloc1 W _) hO.lt.2).wide hB, below_al ha _⟩
theorem mk_a {a W : World} {q B g cp : Nat} {K : List Nat} (hM : MRoom W q) (hq : a.heap.size ≤ q) (ha : Below a.heap.size a W) (hO : OR W B 2 g cp K) (hqB : q < B) (u : Value) :
    Box ((W.setCell ⟨q, 0, none⟩ u).setCell ⟨q, 1, none⟩ (.slice (some ⟨g, 0, none⟩) K.length cp)) q u (.slice (some ⟨g, 0, none⟩) K.length cp) ∧ OR ((W.setCell ⟨q, 0, none⟩ u).setCell ⟨q, 1, none⟩ (.slice (some ⟨g, 0, none⟩) K.length cp)) a.heap.size 2 g cp K ∧ Below a.heap.size a ((W.setCell ⟨q, 0, none⟩ u).setCell ⟨q, 1, none⟩ (.slice (some ⟨g, 0, none⟩) K.length cp)) := by
  obtain ⟨x, y, h0, h1⟩ := hM.ex
  have h2 := two_setCell W q u (.slice (some ⟨g, 0, none⟩) K.length cp) h0 h1
  have hs := (only2 W q u (.slice (some ⟨g, 0, none⟩) K.length cp)).size
  exact ⟨⟨h2.1, h2.2, by rw [hs]; exact hM.lt⟩, (hO.only (only2 _ _ _ _) (by have := hO.lt; omega)).wide (by omega), below_two ha hq _ _⟩

end Go.Proofs.YtilghmfffdmnjaaDoor
namespace Go.Proofs.YtilghmfffdmnjaaDoor
open Go.RowKit Go.Joins
set_option linter.unusedVariables false

/-- The meet of two spaces. -/
def fMeetOf (c : Int) (zs : List Int) (d : Int) (ys : List Int) : Int × List Int × Int := mkB c zs d ys fun C L M => meet C L M

set_option maxRecDepth 100000 in
set_option maxHeartbeats 1600000 in
theorem implMeetOf_anyR (c : Int) (Ad : Option Addr) (n cap : Nat) (xs : List Int) (d : Int) (A' : Option Addr) (n' cap' : Nat) (ys : List Int) (w : World) (hM : Rd w w.heap.size Ad n xs) (hN : Rd w w.heap.size A' n' ys) (hT : Tab w) :
    Calls Tryd.prog 48 #[.agg #[.int .i64 c, .slice Ad n cap], .agg #[.int .i64 d, .slice A' n' cap']] w fun e w' => ∃ v, e = .returned (.tuple #[.agg #[.int .i64 (fMeetOf c xs d ys).1, v], .int .i64 (fMeetOf c xs d ys).2.2]) ∧ Below w.heap.size w w' ∧ Res w' w.heap.size w'.heap.size v (fMeetOf c xs d ys).2.1 := by
  unfold fMeetOf
  obtain ⟨hR, hb0, hX, hY⟩ := three w (.int .i64 c) (.slice Ad n cap) (.int .i64 d) (.slice A' n' cap') _ rfl
  have hM0 := hM.below hb0
  have hN0 := hN.below hb0
  have hT0 := hT.below hb0
  by_cases hk0 : both c xs d ys = 0
  · rcases both_cases c xs d ys with ⟨h, C, L, M, rfl, rfl, rfl, rfl, hO, hP, hJ, hK⟩ | ⟨h, _⟩ | ⟨h, _⟩
    · rw [mkB_yes h]
      have hc10 := hO.c10
      have K1 : ∀ w, Tab w → Calls Tryd.prog 83 #[.agg #[.int .i64 (L.length : Nat), .int .u32 (nth L 0 : Nat), .int .u32 (nth L 1 : Nat), .int .u32 (nth L 2 : Nat), .int .u32 (nth L 3 : Nat), .int .u32 (nth L 4 : Nat), .int .u32 (nth L 5 : Nat), .int .u32 (nth L 6 : Nat), .int .u32 (nth L 7 : Nat), .int .u32 (nth L 8 : Nat), .int .u32 (nth L 9 : Nat), .int .i64 C]] w fun e w' => e = .returned (.agg (gridC (kernel C L) C)) ∧ Below w.heap.size w w' := fun w hT => kernel_any C L hO.c10 hO.lt hO.n10 w hT
      have K2 : ∀ w, Tab w → Calls Tryd.prog 83 #[.agg #[.int .i64 (M.length : Nat), .int .u32 (nth M 0 : Nat), .int .u32 (nth M 1 : Nat), .int .u32 (nth M 2 : Nat), .int .u32 (nth M 3 : Nat), .int .u32 (nth M 4 : Nat), .int .u32 (nth M 5 : Nat), .int .u32 (nth M 6 : Nat), .int .u32 (nth M 7 : Nat), .int .u32 (nth M 8 : Nat), .int .u32 (nth M 9 : Nat), .int .i64 C]] w fun e w' => e = .returned (.agg (gridC (kernel C M) C)) ∧ Below w.heap.size w w' := fun w hT => kernel_any C M hP.c10 hP.lt hP.n10 w hT
      have l1 := kernel_lt (c := C) hO.lt
      have l2 := kernel_lt (c := C) hP.lt
      have n1 := kernel_len hO.c10 hO.lt
      have n2 := kernel_len hP.c10 hP.lt
      have e1 := kernel_ech C L
      have hme : meet C L M = kernel C (joined (kernel C L) (kernel C M)) := rfl
      obtain ⟨A, hA⟩ : ∃ A, kernel C L = A := ⟨_, rfl⟩
      obtain ⟨D0, hD0⟩ : ∃ D, kernel C M = D := ⟨_, rfl⟩
      rw [hA] at K1 l1 n1 e1 hme
      rw [hD0] at K2 l2 n2 hme
      have K3 := fun w hT => joined_any C C A D0 hO.c10 e1 l1 l2 n2 w hT
      have l3 := joined_lt e1 l1 l2
      have n3 : (joined A D0).length ≤ 10 := Nat.le_trans ((joined_spec D0 e1).1.len l3) hO.c10
      obtain ⟨J0, hJ0⟩ : ∃ J, joined A D0 = J := ⟨_, rfl⟩
      rw [hJ0] at K3 l3 n3 hme
      have K4 := fun w hT => kernel_any C J0 hO.c10 l3 n3 w hT
      have l4 := kernel_lt (c := C) l3
      have hJl := kernel_len hO.c10 l3
      rw [← hme] at K4 l4 hJl
      have hJ2 := lt32 (show C ≤ 20 by omega) l4
      have hn10 := hO.n10
      have hm10 := hP.n10
      generalize meet C L M = J at K4 l4 hJl hJ2 ⊢
      have H1 := Lib.hid K1; have H2 := Lib.hid K2; have H3 := Lib.hid K3; have H4 := Lib.hid K4
      have HJ2 := Lib.hid hJ2
      have HT := Lib.hid hT
      have HS := Lib.hid (spacesFor_yesR C L hO hJ M hP hK Ad n cap A' n' cap' _ hM0 hN0 hT0)
      clear hT hT0 hX hY hM0 hN0 hk0 h hJ hK hJ2 K1 K2 K3 K4 l1 l2 l3 l4 n1 n2 n3 e1 hme hA hD0 hJ0
      go_enter Tryd.func48, Tryd.ntmps48
      go_wp2_with fail
      refine HS.out.mono ?_
      rintro e w1 ⟨rfl, hb⟩
      have hR1 := hR.below hb
      have hb1 := hb0.trans (hb.mono hb0.size)
      obtain ⟨w2, w3, hst, hst2, hG, hH, hb'⟩ := grids_put w1 L C hn10 (lt32 (by have := hO.c10; omega) hO.lt) M C hm10 (lt32 (by have := hO.c10; omega) hP.lt) _ rfl
      have hR3 := hR1.below hb'
      have hb3 := hb1.trans (hb'.mono hb1.size)
      have vaB := Lib.hid (show Below w.heap.size w w3.drew from hb3.drew)
      have vaG := Lib.hid (show GAt w3.drew w1.heap.size L C from hG.drewN 1)
      have vaH := Lib.hid (show GAt w3.drew (w1.heap.size + 1) M C from hH.drewN 1)
      have vaR := Lib.hid (hR3.below (Below.refl _ _).drew)
      have vaf1 := vaG.out.facts
      have vaf2 := vaH.out.facts
      have g0 := hG.c0
      have zR := hR1.lt
      have ng1 : ¬ w1.heap.size = w.heap.size + 1 + 1 := by omega
      have ng2 : ¬ w1.heap.size + 1 = w.heap.size + 1 + 1 := by omega
      clear hb hb0 hb1 hb' hG hH hR hR1 hb3 hR3
      go_wp2_with fail
      go_region_held3 (fun w' => (w'.cell? ⟨w1.heap.size, 0, none⟩ = some (.int .i64 (L.length : Nat)) ∧ w'.cell? ⟨w1.heap.size, 1, none⟩ = some (.int .u32 (nth L 0 : Nat)) ∧ w'.cell? ⟨w1.heap.size, 2, none⟩ = some (.int .u32 (nth L 1 : Nat)) ∧ w'.cell? ⟨w1.heap.size, 3, none⟩ = some (.int .u32 (nth L 2 : Nat)) ∧ w'.cell? ⟨w1.heap.size, 4, none⟩ = some (.int .u32 (nth L 3 : Nat)) ∧ w'.cell? ⟨w1.heap.size, 5, none⟩ = some (.int .u32 (nth L 4 : Nat)) ∧ w'.cell? ⟨w1.heap.size, 6, none⟩ = some (.int .u32 (nth L 5 : Nat)) ∧ w'.cell? ⟨w1.heap.size, 7, none⟩ = some (.int .u32 (nth L 6 : Nat)) ∧ w'.cell? ⟨w1.heap.size, 8, none⟩ = some (.int .u32 (nth L 7 : Nat)) ∧ w'.cell? ⟨w1.heap.size, 9, none⟩ = some (.int .u32 (nth L 8 : Nat)) ∧ w'.cell? ⟨w1.heap.size, 10, none⟩ = some (.int .u32 (nth L 9 : Nat)) ∧ w'.cell? ⟨w1.heap.size, 11, none⟩ = some (.int .i64 C)) ∧ (w'.cell? ⟨w1.heap.size + 1, 0, none⟩ = some (.int .i64 (M.length : Nat)) ∧ w'.cell? ⟨w1.heap.size + 1, 1, none⟩ = some (.int .u32 (nth M 0 : Nat)) ∧ w'.cell? ⟨w1.heap.size + 1, 2, none⟩ = some (.int .u32 (nth M 1 : Nat)) ∧ w'.cell? ⟨w1.heap.size + 1, 3, none⟩ = some (.int .u32 (nth M 2 : Nat)) ∧ w'.cell? ⟨w1.heap.size + 1, 4, none⟩ = some (.int .u32 (nth M 3 : Nat)) ∧ w'.cell? ⟨w1.heap.size + 1, 5, none⟩ = some (.int .u32 (nth M 4 : Nat)) ∧ w'.cell? ⟨w1.heap.size + 1, 6, none⟩ = some (.int .u32 (nth M 5 : Nat)) ∧ w'.cell? ⟨w1.heap.size + 1, 7, none⟩ = some (.int .u32 (nth M 6 : Nat)) ∧ w'.cell? ⟨w1.heap.size + 1, 8, none⟩ = some (.int .u32 (nth M 7 : Nat)) ∧ w'.cell? ⟨w1.heap.size + 1, 9, none⟩ = some (.int .u32 (nth M 8 : Nat)) ∧ w'.cell? ⟨w1.heap.size + 1, 10, none⟩ = some (.int .u32 (nth M 9 : Nat)) ∧ w'.cell? ⟨w1.heap.size + 1, 11, none⟩ = some (.int .i64 C))) (first | with_reducible exact ⟨vaf1, vaf2⟩ | with_reducible exact ⟨vbf1, vbf2⟩ | with_reducible exact ⟨vcf1, vcf2⟩ | with_reducible exact ⟨vdf1, vdf2⟩ | with_reducible exact ⟨vef1, vef2⟩ | with_reducible exact ⟨vff1, vff2⟩ | exact ⟨(vfG.out.only (only2 _ _ _ _) ng1).facts, (vfH.out.only (only2 _ _ _ _) ng2).facts⟩) (first | (go_at_call 83; with_reducible refine Calls.mono (H1.out _ (HT.out.below vaB.out)) ?_; rintro e vb ⟨rfl, hbz⟩; have vbB := Lib.hid (vaB.out.trans (hbz.mono vaB.out.size)); have vbG := Lib.hid (vaG.out.below hbz); have vbH := Lib.hid (vaH.out.below hbz); have vbR := Lib.hid (vaR.out.below hbz); have vbf1 := vbG.out.facts; have vbf2 := vbH.out.facts; clear hbz) | (go_at_call 83; with_reducible refine Calls.mono (H2.out _ (HT.out.below vbB.out)) ?_; rintro e vc ⟨rfl, hbz⟩; have vcB := Lib.hid (vbB.out.trans (hbz.mono vbB.out.size)); have vcG := Lib.hid (vbG.out.below hbz); have vcH := Lib.hid (vbH.out.below hbz); have vcR := Lib.hid (vbR.out.below hbz); have vcf1 := vcG.out.facts; have vcf2 := vcH.out.facts; clear hbz) | (go_at_call 94; with_reducible refine Calls.mono (H3.out _ (HT.out.below vcB.out)) ?_; rintro e vd ⟨rfl, hbz⟩; have vdB := Lib.hid (vcB.out.trans (hbz.mono vcB.out.size)); have vdG := Lib.hid (vcG.out.below hbz); have vdH := Lib.hid (vcH.out.below hbz); have vdR := Lib.hid (vcR.out.below hbz); have vdf1 := vdG.out.facts; have vdf2 := vdH.out.facts; clear hbz) | (go_at_call 83; with_reducible refine Calls.mono (H4.out _ (HT.out.below vdB.out)) ?_; rintro e ve ⟨rfl, hbz⟩; have veB := Lib.hid (vdB.out.trans (hbz.mono vdB.out.size)); have veG := Lib.hid (vdG.out.below hbz); have veH := Lib.hid (vdH.out.below hbz); have veR := Lib.hid (vdR.out.below hbz); have vef1 := veG.out.facts; have vef2 := veH.out.facts; clear hbz) | (go_at_call 79; with_reducible refine Calls.mono (matrix_any J C hJl HJ2.out _) ?_; rintro e vf ⟨v, rfl, hbz, hV⟩; have vfB := Lib.hid (veB.out.trans (hbz.mono veB.out.size)); have vfG := Lib.hid (veG.out.below hbz); have vfH := Lib.hid (veH.out.below hbz); have vfR := Lib.hid (veR.out.below hbz); have vff1 := vfG.out.facts; have vff2 := vfH.out.facts; obtain ⟨x, y, h0, h1⟩ := vfR.out.ex; have f0 := vfR.out.f0; have f1 := vfR.out.f1; have hq5 := Lib.hid veR.out.lt; have hs5 := Lib.hid veB.out.size; obtain ⟨ao, m, cq, rfl⟩ := hV.form; have HV := Lib.hid hV; clear hV hbz))
      all_goals
        clear g0 vaf1 vaf2 vbf1 vbf2 vcf1 vcf2 vdf1 vdf2 vef1 vef2 vff1 vff2
        go_wp2_with fail
        refine bodyPost_ret (v := .tuple #[.agg #[.int .i64 C, _], .int .i64 0]) (mat_results (p := 4) (u := 5) (fn := Tryd.f48) rfl _ rfl (two_setCell _ _ _ _ h0 h1).1 (two_setCell _ _ _ _ h0 h1).2) rfl ⟨_, rfl, ?_, HV.out.fin (q := w.heap.size + 1 + 1) hq5.out hs5.out _ _⟩
        exact (only2 _ _ _ _).below vfB.out (by omega)
    · rw [h] at hk0; omega
    · rw [h] at hk0; omega
  · obtain ⟨k, hk⟩ : ∃ k, both c xs d ys = k := ⟨_, rfl⟩
    rw [hk] at hk0
    rw [mkB_no hk hk0]
    have HS := Lib.hid (spacesFor_badR c xs d ys k hk hk0 Ad n cap A' n' cap' _ hM0 hN0 hT0)
    clear hT hT0 hX hY hM0 hN0 hk
    go_enter Tryd.func48, Tryd.ntmps48
    go_wp2_with fail
    refine HS.out.mono ?_
    rintro e w1 ⟨rfl, hb⟩
    have hR1 := hR.below hb
    have hb1 := hb0.trans (hb.mono hb0.size)
    obtain ⟨w2, w3, hst, hst2, hG, hH, hb'⟩ := grids_put w1 [] 0 (by simp) (by intro j; simp [nth]) [] 0 (by simp) (by intro j; simp [nth]) _ rfl
    have hR3 := hR1.below hb'
    have hb3 := hb1.trans (hb'.mono hb1.size)
    clear hb hb0 hb1 hb' hG hH hR hR1
    obtain ⟨x, y, h0, h1⟩ := hR3.ex
    have f0 := hR3.f0
    have f1 := hR3.f1
    go_wp2_with fail
    refine bodyPost_ret (v := .tuple #[.agg #[.int .i64 0, .slice none 0 0], .int .i64 k]) (mat_results (p := 4) (u := 5) (fn := Tryd.f48) rfl _ rfl (two_setCell _ _ _ _ h0 h1).1 (two_setCell _ _ _ _ h0 h1).2) rfl ⟨_, rfl, ?_, .nil none 0⟩
    exact (only2 _ _ _ _).below hb3 (by omega)
theorem implMeetOf_any (c : Int) (b n cap : Nat) (xs : List Int) (d : Int) (b' n' cap' : Nat) (ys : List Int) (w : World) (hM : Mt w b n xs) (hN : Mt w b' n' ys) (hT : Tab w) :
    Calls Tryd.prog 48 #[.agg #[.int .i64 c, .slice (some ⟨b, 0, none⟩) n cap], .agg #[.int .i64 d, .slice (some ⟨b', 0, none⟩) n' cap']] w fun e w' => ∃ v, e = .returned (.tuple #[.agg #[.int .i64 (fMeetOf c xs d ys).1, v], .int .i64 (fMeetOf c xs d ys).2.2]) ∧ Below w.heap.size w w' ∧ Res w' w.heap.size w'.heap.size v (fMeetOf c xs d ys).2.1 :=
  implMeetOf_anyR c (some ⟨b, 0, none⟩) n cap xs d (some ⟨b', 0, none⟩) n' cap' ys w hM.rd hN.rd hT

end Go.Proofs.YtilghmfffdmnjaaDoor
