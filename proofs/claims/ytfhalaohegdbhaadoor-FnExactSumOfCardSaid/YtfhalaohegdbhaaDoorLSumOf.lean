/- FnExactSumOf: for every input the law returns true, and every argument reads afterwards as it read before. No condition. -/
import Derived.Test.YtfhalaohegdbhaaDoorRows
import Derived.WalkKit
import Derived.ProofKit
import Derived.OpenShut
import Derived.ChangeOld
import Derived.Below
import Derived.Lib.SmallJoins
import Derived.Test.YtfhalaohegdbhaaDoorSumOf
import Derived.Test.YtfhalaohegdbhaaDoorCut
import Derived.Test.YtfhalaohegdbhaaDoorRes
import Derived.Test.YtfhalaohegdbhaaDoorArg
import Derived.Test.YtfhalaohegdbhaaDoorValid
import Derived.Test.YtfhalaohegdbhaaDoorLaid
import Derived.Test.YtfhalaohegdbhaaDoorTie
import Derived.Test.YtfhalaohegdbhaaDoorCards
import Derived.SevenTiedAt
namespace Go.Proofs.YtfhalaohegdbhaaDoor.fnExactSumOf
open Go.ChangeShapes Go.WideShapes Go.ChangeAt Go.RowKit Go.Joins
set_option linter.unusedVariables false

theorem own : ownKnob Tryd.prog.godebug = none := by kernel_rfl
theorem laidOut : laidOutB Tryd.prog = true := by kernel_rfl
theorem cellsMat : Tryd.prog.cellsOf 24 = 2 := by kernel_rfl

set_option maxRecDepth 100000 in
set_option maxHeartbeats 6400000 in
theorem walk (c0 : Int) (a0 : Option Addr) (n0 cap0 : Nat) (z0 : List Int) (c1 : Int) (a1 : Option Addr) (n1 cap1 : Nat) (z1 : List Int) (w : World) (hT : Tab w) (h0 : Arg w a0 n0 z0) (h1 : Arg w a1 n1 z1) :
    Calls Tryd.prog 10 #[.agg #[.int .i64 c0, .slice a0 n0 cap0], .agg #[.int .i64 c1, .slice a1 n1 cap1]] w fun e w' => e = .returned (.bool true) ∧ Below w.heap.size w w' := by
  by_cases hn0 : n0 ≤ 1048576
  rotate_left
  · skip
    go_enter Tryd.func10, Tryd.ntmps10
    have hb0 := below_alloc2 w (.cells #[.int .i64 c0, .slice a0 n0 cap0] 24) (.cells #[.int .i64 c1, .slice a1 n1 cap1] 24)
    have X0 := (Box.one w (.int .i64 c0) (.slice a0 n0 cap0) 24).next (below_alloc1 _ (.cells #[.int .i64 c1, .slice a1 n1 cap1] 24))
    have pX0 : _ := X0.c0
    have qX0 : _ := X0.c1
    have X1 := Box.two w (.cells #[.int .i64 c0, .slice a0 n0 cap0] 24) (.int .i64 c1) (.slice a1 n1 cap1) 24
    have pX1 : _ := X1.c0
    have qX1 : _ := X1.c1
    go_wp2_with fail
    refine (szMatrix_no c0 a0 n0 cap0 h0.big (1048576) (by omega) (by omega) (by omega) _).mono ?_
    rintro e w1 ⟨rfl, hb⟩
    replace X0 := X0.next hb
    replace pX0 : _ := X0.c0
    replace qX0 : _ := X0.c1
    replace X1 := X1.next hb
    replace pX1 : _ := X1.c0
    replace qX1 : _ := X1.c1
    have hb1 := hb0.trans (hb.mono hb0.size)
    have Z1 := Lib.hid (show w.heap.size + 2 ≤ w1.heap.size by have := hb.size; simpa [size_setCell_] using this)
    clear hb
    go_wp2_with fail
    go_ret
    exact ⟨rfl, hb1⟩
  by_cases hn1 : n0 + n1 ≤ 1048576
  rotate_left
  · skip
    go_enter Tryd.func10, Tryd.ntmps10
    have hb0 := below_alloc2 w (.cells #[.int .i64 c0, .slice a0 n0 cap0] 24) (.cells #[.int .i64 c1, .slice a1 n1 cap1] 24)
    have X0 := (Box.one w (.int .i64 c0) (.slice a0 n0 cap0) 24).next (below_alloc1 _ (.cells #[.int .i64 c1, .slice a1 n1 cap1] 24))
    have pX0 : _ := X0.c0
    have qX0 : _ := X0.c1
    have X1 := Box.two w (.cells #[.int .i64 c0, .slice a0 n0 cap0] 24) (.int .i64 c1) (.slice a1 n1 cap1) 24
    have pX1 : _ := X1.c0
    have qX1 : _ := X1.c1
    go_wp2_with fail
    refine (szMatrix_ok c0 a0 n0 cap0 (1048576) (by omega) (by omega) _).mono ?_
    rintro e w1 ⟨rfl, hb⟩
    replace X0 := X0.next hb
    replace pX0 : _ := X0.c0
    replace qX0 : _ := X0.c1
    replace X1 := X1.next hb
    replace pX1 : _ := X1.c0
    replace qX1 : _ := X1.c1
    have hb1 := hb0.trans (hb.mono hb0.size)
    have Z1 := Lib.hid (show w.heap.size + 2 ≤ w1.heap.size by have := hb.size; simpa [size_setCell_] using this)
    clear hb
    go_wp2_with fail
    refine (szMatrix_no c1 a1 n1 cap1 h1.big ((1048576 : Int) - (n0 : Int)) (by omega) (by omega) (by omega) _).mono ?_
    rintro e w2 ⟨rfl, hb⟩
    replace X0 := X0.next hb
    replace pX0 : _ := X0.c0
    replace qX0 : _ := X0.c1
    replace X1 := X1.next hb
    replace pX1 : _ := X1.c0
    replace qX1 : _ := X1.c1
    have hb2 := hb1.trans (hb.mono hb1.size)
    have Z2 := Lib.hid (show w1.heap.size ≤ w2.heap.size by have := hb.size; simpa [size_setCell_] using this)
    clear hb
    go_wp2_with fail
    go_ret
    exact ⟨rfl, hb2⟩
  obtain ⟨r, hr⟩ : ∃ r, fSumOf c0 z0 c1 z1 = r := ⟨_, rfl⟩
  have HR := Lib.hid hr
  clear hr
  obtain ⟨r1, r2, r3⟩ := r
  have l0 := h0.len
  have l1 := h1.len
  go_enter Tryd.func10, Tryd.ntmps10
  have hb0 := below_alloc2 w (.cells #[.int .i64 c0, .slice a0 n0 cap0] 24) (.cells #[.int .i64 c1, .slice a1 n1 cap1] 24)
  have X0 := (Box.one w (.int .i64 c0) (.slice a0 n0 cap0) 24).next (below_alloc1 _ (.cells #[.int .i64 c1, .slice a1 n1 cap1] 24))
  have pX0 : _ := X0.c0
  have qX0 : _ := X0.c1
  have X1 := Box.two w (.cells #[.int .i64 c0, .slice a0 n0 cap0] 24) (.int .i64 c1) (.slice a1 n1 cap1) 24
  have pX1 : _ := X1.c0
  have qX1 : _ := X1.c1
  go_wp2_with fail
  refine (szMatrix_ok c0 a0 n0 cap0 (1048576) (by omega) (by omega) _).mono ?_
  rintro e w1 ⟨rfl, hb⟩
  replace X0 := X0.next hb
  replace pX0 : _ := X0.c0
  replace qX0 : _ := X0.c1
  replace X1 := X1.next hb
  replace pX1 : _ := X1.c0
  replace qX1 : _ := X1.c1
  have hb1 := hb0.trans (hb.mono hb0.size)
  have Z1 := Lib.hid (show w.heap.size + 2 ≤ w1.heap.size by have := hb.size; simpa [size_setCell_] using this)
  clear hb
  go_wp2_with fail
  refine (szMatrix_ok c1 a1 n1 cap1 ((1048576 : Int) - (n0 : Int)) (by omega) (by omega) _).mono ?_
  rintro e w2 ⟨rfl, hb⟩
  replace X0 := X0.next hb
  replace pX0 : _ := X0.c0
  replace qX0 : _ := X0.c1
  replace X1 := X1.next hb
  replace pX1 : _ := X1.c0
  replace qX1 : _ := X1.c1
  have hb2 := hb1.trans (hb.mono hb1.size)
  have Z2 := Lib.hid (show w1.heap.size ≤ w2.heap.size by have := hb.size; simpa [size_setCell_] using this)
  clear hb
  go_upto_region 8 with fail
  go_cut [6, 7] from 27 to 34 (fun p c wx => ∃ (q : Nat) (ao : Option Addr) (mo co : Nat), p = .pointer (some ⟨q, 0, none⟩) ∧ c = .int .i64 r3 ∧ Box wx q (.int .i64 r1) (.slice ao mo co) ∧ Res wx (w2.heap.size) (wx.heap.size) (.slice ao mo co) r2 ∧ Below w2.heap.size w2 wx)
  case first =>
    have CB : ∀ w' : World, Below w2.heap.size w2 w' → w'.cell? ⟨w.heap.size, 0, none⟩ = some (.int .i64 c0) ∧ w'.cell? ⟨w.heap.size, 1, none⟩ = some (.slice a0 n0 cap0) ∧ w'.cell? ⟨(w.heap.size + 1), 0, none⟩ = some (.int .i64 c1) ∧ w'.cell? ⟨(w.heap.size + 1), 1, none⟩ = some (.slice a1 n1 cap1) ∧ Below w2.heap.size w2 w' := fun w' hB => ⟨(X0.next hB).c0, (X0.next hB).c1, (X1.next hB).c0, (X1.next hB).c1, hB⟩
    have HBK : ∀ W : World, Below w2.heap.size w2 W → Below w.heap.size w W := fun W h => hb2.trans (h.mono hb2.size)
    have hD : Below w2.heap.size w2 w2.drew := (Below.refl _ _).drew
    replace CB := Lib.hid CB
    replace HBK := Lib.hid HBK
    clear X0 pX0 qX0
    clear X1 pX1 qX1
    clear hb2
    go_region_held3 (fun w' => w'.cell? ⟨w.heap.size, 0, none⟩ = some (.int .i64 c0) ∧ w'.cell? ⟨w.heap.size, 1, none⟩ = some (.slice a0 n0 cap0) ∧ w'.cell? ⟨(w.heap.size + 1), 0, none⟩ = some (.int .i64 c1) ∧ w'.cell? ⟨(w.heap.size + 1), 1, none⟩ = some (.slice a1 n1 cap1) ∧ Below w2.heap.size w2 w') (first | with_reducible exact CB.out _ hD | with_reducible exact CB.out _ (by assumption) | exact CB.out _ (below_al (by assumption) _) | exact CB.out _ (below_al (Below.refl _ _) _).drew | exact CB.out _ (below_two (by assumption) hMRq _ _)) (first | (go_at_call 18; with_reducible refine Calls.mono (toMatrix_any c0 a0 n0 cap0 z0 _ (h0.from (HBK.out _ ?_)) (by omega)) ?_; (first | assumption | exact below_al (by assumption) _ | exact (below_al (Below.refl _ _) _).drew); rintro e wa ⟨bs0, rfl, gea, hba, Ms0⟩; have hwa := below_on (a := w2) hba (by first | assumption | exact below_al (by assumption) _ | exact (below_al (Below.refl _ _) _).drew); (first | replace MR := MR.below hba | (with_reducible have hRm := start_room (a := w2) hba (by assumption); obtain ⟨MR, hMRq⟩ := hRm) | (with_reducible have hRm := start_room_d hba; obtain ⟨MR, hMRq⟩ := hRm) | skip); clear gea hba) | (go_at_call 18; with_reducible refine Calls.mono (toMatrix_any c1 a1 n1 cap1 z1 _ (h1.from (HBK.out _ ?_)) (by omega)) ?_; (first | assumption | exact below_al (by assumption) _ | exact (below_al (Below.refl _ _) _).drew); rintro e wb ⟨bs1, rfl, geb, hbb, Ms1⟩; have hwb := below_on (a := w2) hbb (by first | assumption | exact below_al (by assumption) _ | exact (below_al (Below.refl _ _) _).drew); (first | replace Ms0 := Ms0.below hbb | replace Ms0 := Ms0.below (below_via hbb)); (first | replace MR := MR.below hbb | (with_reducible have hRm := start_room (a := w2) hbb (by assumption); obtain ⟨MR, hMRq⟩ := hRm) | (with_reducible have hRm := start_room_d hbb; obtain ⟨MR, hMRq⟩ := hRm) | skip); clear geb hbb) | (go_at_call 35; have S := fun W hM hN => specSumOf_any c0 bs0 n0 n0 z0 c1 bs1 n1 n1 z1 W hM hN; rw [HR.out] at S; (try dsimp only at S); (first | (with_reducible refine Calls.mono (S _ Ms0 Ms1) ?_) | (with_reducible refine Calls.mono (S _ (Ms0.below (below_alloc1 _ _)) (Ms1.below (below_alloc1 _ _))) ?_)); clear S; rintro e wc ⟨vw, rfl, hbc, Rw⟩; have hwc := below_on (a := w2) hbc (by first | assumption | exact below_al (by assumption) _ | exact (below_al (Below.refl _ _) _).drew); (try (obtain ⟨ex, ey, k0, k1⟩ := (MR.below hbc).ex; have f0 := (MR.below hbc).f0; have f1 := (MR.below hbc).f1)); (try (with_reducible have hRm := start_room (a := w2) hbc (by assumption); obtain ⟨MR2, hMRq⟩ := hRm; obtain ⟨ex, ey, k0, k1⟩ := MR2.ex; have f0 := MR2.f0; have f1 := MR2.f1)); obtain ⟨aow, mow, cow, rfl⟩ := Rw.form; replace Rw := Lib.hid Rw; have hbc := Lib.hid hbc))
    all_goals
      go_wp2_with fail
      go_meet
      first | exact ⟨_, _, _, _, rfl, rfl, cut_b (by assumption) hbc.out Rw.out _ _⟩ | exact ⟨_, _, _, _, rfl, rfl, cut_a MR hMRq (by assumption) hbc.out Rw.out _⟩ | exact ⟨_, _, _, _, rfl, rfl, cut_a (MRoom.start _ _ _ _) hMRq (below_al (by assumption) _) hbc.out Rw.out _⟩
  case rest =>
    obtain ⟨w3, rfl⟩ : ∃ x, x = wc := ⟨wc, rfl⟩
    obtain ⟨qw, aow, mow, cow, rfl, rfl, Bw, Rw, hb⟩ := hcut
    replace X0 := X0.next hb
    replace pX0 : _ := X0.c0
    replace qX0 : _ := X0.c1
    replace X1 := X1.next hb
    replace pX1 : _ := X1.c0
    replace qX1 : _ := X1.c1
    have hb3 := hb2.trans (hb.mono hb2.size)
    have Z3 := Lib.hid (show w2.heap.size ≤ w3.heap.size from hb.size)
    have Zw := Lib.hid Bw.lt
    clear hb
    have pBw : _ := Bw.c0
    have qBw : _ := Bw.c1
    go_wp2_with fail
    refine (toMatrix_any c0 a0 n0 cap0 z0 _ (h0.from hb3) (by omega)).mono ?_
    rintro e w4 ⟨bx0, rfl, gex0, hb, Mx0⟩
    replace X0 := X0.next hb
    replace pX0 : _ := X0.c0
    replace qX0 : _ := X0.c1
    replace X1 := X1.next hb
    replace pX1 : _ := X1.c0
    replace qX1 : _ := X1.c1
    replace Rw := Rw.next hb
    replace Bw := Bw.next hb
    replace pBw : _ := Bw.c0
    replace qBw : _ := Bw.c1
    have hb4 := hb3.trans (hb.mono hb3.size)
    have Z4 := Lib.hid (show w3.heap.size ≤ w4.heap.size by have := hb.size; simpa [size_setCell_] using this)
    clear hb
    have Rx0 := Mx0.res (cap := n0) (B := w3.heap.size) (by simpa using gex0)
    have hb := below_alloc1 w4 (.cells #[.int .i64 c0, .slice (some ⟨bx0, 0, none⟩) n0 n0] 28)
    replace X0 := X0.next hb
    replace pX0 : _ := X0.c0
    replace qX0 : _ := X0.c1
    replace X1 := X1.next hb
    replace pX1 : _ := X1.c0
    replace qX1 : _ := X1.c1
    replace Rw := Rw.next hb
    replace Bw := Bw.next hb
    replace pBw : _ := Bw.c0
    replace qBw : _ := Bw.c1
    replace Mx0 := Mx0.below hb
    replace Rx0 := Rx0.next hb
    have hc4 := hb4.trans (hb.mono hb4.size)
    clear hb
    have Bx0 := Box.one w4 (.int .i64 c0) (.slice (some ⟨bx0, 0, none⟩) n0 n0) 28
    have pBx0 : _ := Bx0.c0
    have qBx0 : _ := Bx0.c1
    go_wp2_with fail
    refine (toMatrix_any c1 a1 n1 cap1 z1 _ (h1.from hc4) (by omega)).mono ?_
    rintro e w5 ⟨bx1, rfl, gex1, hb, Mx1⟩
    replace X0 := X0.next hb
    replace pX0 : _ := X0.c0
    replace qX0 : _ := X0.c1
    replace X1 := X1.next hb
    replace pX1 : _ := X1.c0
    replace qX1 : _ := X1.c1
    replace Rw := Rw.next hb
    replace Bw := Bw.next hb
    replace pBw : _ := Bw.c0
    replace qBw : _ := Bw.c1
    replace Mx0 := Mx0.below hb
    replace Rx0 := Rx0.next hb
    replace Bx0 := Bx0.next hb
    replace pBx0 : _ := Bx0.c0
    replace qBx0 : _ := Bx0.c1
    have hb5 := hc4.trans (hb.mono hc4.size)
    have Z5 := Lib.hid (show w4.heap.size + 1 ≤ w5.heap.size by have := hb.size; simpa [size_setCell_] using this)
    clear hb
    have Rx1 := Mx1.res (cap := n1) (B := w4.heap.size + 1) (by simpa using gex1)
    have hb := below_alloc1 w5 (.cells #[.int .i64 c1, .slice (some ⟨bx1, 0, none⟩) n1 n1] 28)
    replace X0 := X0.next hb
    replace pX0 : _ := X0.c0
    replace qX0 : _ := X0.c1
    replace X1 := X1.next hb
    replace pX1 : _ := X1.c0
    replace qX1 : _ := X1.c1
    replace Rw := Rw.next hb
    replace Bw := Bw.next hb
    replace pBw : _ := Bw.c0
    replace qBw : _ := Bw.c1
    replace Mx0 := Mx0.below hb
    replace Rx0 := Rx0.next hb
    replace Bx0 := Bx0.next hb
    replace pBx0 : _ := Bx0.c0
    replace qBx0 : _ := Bx0.c1
    replace Mx1 := Mx1.below hb
    replace Rx1 := Rx1.next hb
    have hc5 := hb5.trans (hb.mono hb5.size)
    clear hb
    have Bx1 := Box.one w5 (.int .i64 c1) (.slice (some ⟨bx1, 0, none⟩) n1 n1) 28
    have pBx1 : _ := Bx1.c0
    have qBx1 : _ := Bx1.c1
    go_wp2_with fail
    have S := implSumOf_any c0 bx0 n0 n0 z0 c1 bx1 n1 n1 z1 _ Mx0 Mx1 (hT.below hc5)
    rw [HR.out] at S
    try dsimp only at S
    refine S.mono ?_
    clear S
    rintro e w6 ⟨vg, rfl, hb, Rg⟩
    replace X0 := X0.next hb
    replace pX0 : _ := X0.c0
    replace qX0 : _ := X0.c1
    replace X1 := X1.next hb
    replace pX1 : _ := X1.c0
    replace qX1 : _ := X1.c1
    replace Rw := Rw.next hb
    replace Bw := Bw.next hb
    replace pBw : _ := Bw.c0
    replace qBw : _ := Bw.c1
    replace Mx0 := Mx0.below hb
    replace Rx0 := Rx0.next hb
    replace Bx0 := Bx0.next hb
    replace pBx0 : _ := Bx0.c0
    replace qBx0 : _ := Bx0.c1
    replace Mx1 := Mx1.below hb
    replace Rx1 := Rx1.next hb
    replace Bx1 := Bx1.next hb
    replace pBx1 : _ := Bx1.c0
    replace qBx1 : _ := Bx1.c1
    have hb6 := hc5.trans (hb.mono hc5.size)
    have Z6 := Lib.hid (show w5.heap.size + 1 ≤ w6.heap.size by have := hb.size; simpa [size_setCell_] using this)
    clear hb
    replace Rg : Res w6 (w5.heap.size + 1) (w6.heap.size) vg r2 := by simpa using Rg
    obtain ⟨aog, mog, cog, rfl⟩ := Rg.form
    have hb := below_alloc1 w6 (.cells #[.int .i64 r1, .slice aog mog cog] 28)
    replace X0 := X0.next hb
    replace pX0 : _ := X0.c0
    replace qX0 : _ := X0.c1
    replace X1 := X1.next hb
    replace pX1 : _ := X1.c0
    replace qX1 : _ := X1.c1
    replace Rw := Rw.next hb
    replace Bw := Bw.next hb
    replace pBw : _ := Bw.c0
    replace qBw : _ := Bw.c1
    replace Mx0 := Mx0.below hb
    replace Rx0 := Rx0.next hb
    replace Bx0 := Bx0.next hb
    replace pBx0 : _ := Bx0.c0
    replace qBx0 : _ := Bx0.c1
    replace Mx1 := Mx1.below hb
    replace Rx1 := Rx1.next hb
    replace Bx1 := Bx1.next hb
    replace pBx1 : _ := Bx1.c0
    replace qBx1 : _ := Bx1.c1
    replace Rg := Rg.next hb
    have hc6 := hb6.trans (hb.mono hb6.size)
    clear hb
    have Bg := Box.one w6 (.int .i64 r1) (.slice aog mog cog) 28
    have pBg : _ := Bg.c0
    have qBg : _ := Bg.c1
    clear Mx0
    clear Mx1
    go_wp2_with fail
    refine (eqMatrix_res r1 Rg Rw).mono ?_
    rintro e w7 ⟨rfl, hb⟩
    replace X0 := X0.next hb
    replace pX0 : _ := X0.c0
    replace qX0 : _ := X0.c1
    replace X1 := X1.next hb
    replace pX1 : _ := X1.c0
    replace qX1 : _ := X1.c1
    replace Rw := Rw.next hb
    replace Bw := Bw.next hb
    replace pBw : _ := Bw.c0
    replace qBw : _ := Bw.c1
    replace Rx0 := Rx0.next hb
    replace Bx0 := Bx0.next hb
    replace pBx0 : _ := Bx0.c0
    replace qBx0 : _ := Bx0.c1
    replace Rx1 := Rx1.next hb
    replace Bx1 := Bx1.next hb
    replace pBx1 : _ := Bx1.c0
    replace qBx1 : _ := Bx1.c1
    replace Rg := Rg.next hb
    replace Bg := Bg.next hb
    replace pBg : _ := Bg.c0
    replace qBg : _ := Bg.c1
    have hb7 := hc6.trans (hb.mono hc6.size)
    have Z7 := Lib.hid (show w6.heap.size + 1 ≤ w7.heap.size by have := hb.size; simpa [size_setCell_] using this)
    clear hb
    go_wp2_with fail
    obtain ⟨Φ1, hΦ⟩ : ∃ Φ : World → Prop, Φ = fun W => (Below w.heap.size w W ∧ w7.heap.size ≤ W.heap.size ∧ Box W w.heap.size (.int .i64 c0) (.slice a0 n0 cap0) ∧ Box W (w.heap.size + 1) (.int .i64 c1) (.slice a1 n1 cap1) ∧ Res W (w2.heap.size) (w3.heap.size) (.slice aow mow cow) r2 ∧ Box W qw (.int .i64 r1) (.slice aow mow cow) ∧ Res W (w3.heap.size) (w4.heap.size) (.slice (some ⟨bx0, 0, none⟩) n0 n0) z0 ∧ Box W w4.heap.size (.int .i64 c0) (.slice (some ⟨bx0, 0, none⟩) n0 n0) ∧ Res W (w4.heap.size + 1) (w5.heap.size) (.slice (some ⟨bx1, 0, none⟩) n1 n1) z1 ∧ Box W w5.heap.size (.int .i64 c1) (.slice (some ⟨bx1, 0, none⟩) n1 n1) ∧ Res W (w5.heap.size + 1) (w6.heap.size) (.slice aog mog cog) r2 ∧ Box W w6.heap.size (.int .i64 r1) (.slice aog mog cog)) := ⟨_, rfl⟩
    have F1 : Φ1 w7 := by rw [hΦ]; exact ⟨hb7, (by first | exact Nat.le_refl _ | simp | simp [size_setCell_]), X0, X1, Rw, Bw, Rx0, Bx0, Rx1, Bx1, Rg, Bg⟩
    have SP1 : ∀ W W' : World, Φ1 W → Below W.heap.size W W' → Φ1 W' := by intro W W' h hb; rw [hΦ] at h ⊢; exact ⟨(h.1.trans (hb.mono h.1.size)), (Nat.le_trans h.2.1 hb.size), (h.2.2.1.next hb), (h.2.2.2.1.next hb), (h.2.2.2.2.1.next hb), (h.2.2.2.2.2.1.next hb), (h.2.2.2.2.2.2.1.next hb), (h.2.2.2.2.2.2.2.1.next hb), (h.2.2.2.2.2.2.2.2.1.next hb), (h.2.2.2.2.2.2.2.2.2.1.next hb), (h.2.2.2.2.2.2.2.2.2.2.1.next hb), (h.2.2.2.2.2.2.2.2.2.2.2.next hb)⟩
    have C1B : ∀ W, Φ1 W → Below w.heap.size w W := fun W h => by rw [hΦ] at h; exact h.1
    have C1Z : ∀ W, Φ1 W → w7.heap.size ≤ W.heap.size := fun W h => by rw [hΦ] at h; exact h.2.1
    have C1X0 : ∀ W, Φ1 W → Box W w.heap.size (.int .i64 c0) (.slice a0 n0 cap0) := fun W h => by rw [hΦ] at h; exact h.2.2.1
    have C1X1 : ∀ W, Φ1 W → Box W (w.heap.size + 1) (.int .i64 c1) (.slice a1 n1 cap1) := fun W h => by rw [hΦ] at h; exact h.2.2.2.1
    have C1Rw : ∀ W, Φ1 W → Res W (w2.heap.size) (w3.heap.size) (.slice aow mow cow) r2 := fun W h => by rw [hΦ] at h; exact h.2.2.2.2.1
    have C1Bw : ∀ W, Φ1 W → Box W qw (.int .i64 r1) (.slice aow mow cow) := fun W h => by rw [hΦ] at h; exact h.2.2.2.2.2.1
    have C1Rx0 : ∀ W, Φ1 W → Res W (w3.heap.size) (w4.heap.size) (.slice (some ⟨bx0, 0, none⟩) n0 n0) z0 := fun W h => by rw [hΦ] at h; exact h.2.2.2.2.2.2.1
    have C1Bx0 : ∀ W, Φ1 W → Box W w4.heap.size (.int .i64 c0) (.slice (some ⟨bx0, 0, none⟩) n0 n0) := fun W h => by rw [hΦ] at h; exact h.2.2.2.2.2.2.2.1
    have C1Rx1 : ∀ W, Φ1 W → Res W (w4.heap.size + 1) (w5.heap.size) (.slice (some ⟨bx1, 0, none⟩) n1 n1) z1 := fun W h => by rw [hΦ] at h; exact h.2.2.2.2.2.2.2.2.1
    have C1Bx1 : ∀ W, Φ1 W → Box W w5.heap.size (.int .i64 c1) (.slice (some ⟨bx1, 0, none⟩) n1 n1) := fun W h => by rw [hΦ] at h; exact h.2.2.2.2.2.2.2.2.2.1
    have C1Rg : ∀ W, Φ1 W → Res W (w5.heap.size + 1) (w6.heap.size) (.slice aog mog cog) r2 := fun W h => by rw [hΦ] at h; exact h.2.2.2.2.2.2.2.2.2.2.1
    have C1Bg : ∀ W, Φ1 W → Box W w6.heap.size (.int .i64 r1) (.slice aog mog cog) := fun W h => by rw [hΦ] at h; exact h.2.2.2.2.2.2.2.2.2.2.2
    have D1 : Φ1 (World.drew w7) := SP1 _ _ F1 (Below.refl _ _).drew
    clear hΦ F1 hb7
    clear X0 pX0 qX0
    clear X1 pX1 qX1
    clear Rw
    clear Bw pBw qBw
    clear Rx0
    clear Bx0 pBx0 qBx0
    clear Rx1
    clear Bx1 pBx1 qBx1
    clear Rg
    clear Bg pBg qBg
    replace SP1 := Lib.hid SP1
    replace C1B := Lib.hid C1B
    replace C1Z := Lib.hid C1Z
    replace C1X0 := Lib.hid C1X0
    replace C1X1 := Lib.hid C1X1
    replace C1Rw := Lib.hid C1Rw
    replace C1Bw := Lib.hid C1Bw
    replace C1Rx0 := Lib.hid C1Rx0
    replace C1Bx0 := Lib.hid C1Bx0
    replace C1Rx1 := Lib.hid C1Rx1
    replace C1Bx1 := Lib.hid C1Bx1
    replace C1Rg := Lib.hid C1Rg
    replace C1Bg := Lib.hid C1Bg
    go_region_held3 (fun w' => w'.cell? ⟨w.heap.size, 0, none⟩ = some (.int .i64 c0) ∧ w'.cell? ⟨w.heap.size, 1, none⟩ = some (.slice a0 n0 cap0) ∧ w'.cell? ⟨(w.heap.size + 1), 0, none⟩ = some (.int .i64 c1) ∧ w'.cell? ⟨(w.heap.size + 1), 1, none⟩ = some (.slice a1 n1 cap1) ∧ w'.cell? ⟨qw, 0, none⟩ = some (.int .i64 r1) ∧ w'.cell? ⟨qw, 1, none⟩ = some (.slice aow mow cow) ∧ w'.cell? ⟨w4.heap.size, 0, none⟩ = some (.int .i64 c0) ∧ w'.cell? ⟨w4.heap.size, 1, none⟩ = some (.slice (some ⟨bx0, 0, none⟩) n0 n0) ∧ w'.cell? ⟨w5.heap.size, 0, none⟩ = some (.int .i64 c1) ∧ w'.cell? ⟨w5.heap.size, 1, none⟩ = some (.slice (some ⟨bx1, 0, none⟩) n1 n1) ∧ w'.cell? ⟨w6.heap.size, 0, none⟩ = some (.int .i64 r1) ∧ w'.cell? ⟨w6.heap.size, 1, none⟩ = some (.slice aog mog cog) ∧ Φ1 w') (first | exact ⟨(C1X0.out _ D1).c0, (C1X0.out _ D1).c1, (C1X1.out _ D1).c0, (C1X1.out _ D1).c1, (C1Bw.out _ D1).c0, (C1Bw.out _ D1).c1, (C1Bx0.out _ D1).c0, (C1Bx0.out _ D1).c1, (C1Bx1.out _ D1).c0, (C1Bx1.out _ D1).c1, (C1Bg.out _ D1).c0, (C1Bg.out _ D1).c1, D1⟩ | exact ⟨by assumption, by assumption, by assumption, by assumption, by assumption, by assumption, by assumption, by assumption, by assumption, by assumption, by assumption, by assumption, by assumption⟩) (first | (go_at_call 18; with_reducible refine (toMatrix_any c0 a0 n0 cap0 z0 _ (h0.from (C1B.out _ (by assumption))) (by omega)).mono ?_; rintro e w8 ⟨by0, rfl, gey0, hb8r, My0⟩; have G8 : Φ1 w8 := SP1.out _ _ (by assumption) hb8r; have pX08 := (C1X0.out _ G8).c0; have qX08 := (C1X0.out _ G8).c1; have pX18 := (C1X1.out _ G8).c0; have qX18 := (C1X1.out _ G8).c1; have pBw8 := (C1Bw.out _ G8).c0; have qBw8 := (C1Bw.out _ G8).c1; have pBx08 := (C1Bx0.out _ G8).c0; have qBx08 := (C1Bx0.out _ G8).c1; have pBx18 := (C1Bx1.out _ G8).c0; have qBx18 := (C1Bx1.out _ G8).c1; have pBg8 := (C1Bg.out _ G8).c0; have qBg8 := (C1Bg.out _ G8).c1; have Ry0 := My0.res (cap := n0) (Nat.zero_le _); clear hb8r gey0) | (go_at_call 20; refine (eqMatrix_res c0 (C1Rx0.out _ (by assumption)) Ry0).mono ?_; rintro e w9 ⟨rfl, hb9r⟩; have G9 : Φ1 w9 := SP1.out _ _ (by assumption) hb9r; have pX09 := (C1X0.out _ G9).c0; have qX09 := (C1X0.out _ G9).c1; have pX19 := (C1X1.out _ G9).c0; have qX19 := (C1X1.out _ G9).c1; have pBw9 := (C1Bw.out _ G9).c0; have qBw9 := (C1Bw.out _ G9).c1; have pBx09 := (C1Bx0.out _ G9).c0; have qBx09 := (C1Bx0.out _ G9).c1; have pBx19 := (C1Bx1.out _ G9).c0; have qBx19 := (C1Bx1.out _ G9).c1; have pBg9 := (C1Bg.out _ G9).c0; have qBg9 := (C1Bg.out _ G9).c1; replace My0 := My0.below hb9r; replace Ry0 := Ry0.next hb9r; clear hb9r))
    have Z9 := Lib.hid (C1Z.out _ G9)
    have hb9 := C1B.out _ G9
    have X0 := C1X0.out _ G9
    have pX0 : _ := X0.c0
    have qX0 : _ := X0.c1
    have X1 := C1X1.out _ G9
    have pX1 : _ := X1.c0
    have qX1 : _ := X1.c1
    have Rw := C1Rw.out _ G9
    have Bw := C1Bw.out _ G9
    have pBw : _ := Bw.c0
    have qBw : _ := Bw.c1
    have Rx0 := C1Rx0.out _ G9
    have Bx0 := C1Bx0.out _ G9
    have pBx0 : _ := Bx0.c0
    have qBx0 : _ := Bx0.c1
    have Rx1 := C1Rx1.out _ G9
    have Bx1 := C1Bx1.out _ G9
    have pBx1 : _ := Bx1.c0
    have qBx1 : _ := Bx1.c1
    have Rg := C1Rg.out _ G9
    have Bg := C1Bg.out _ G9
    have pBg : _ := Bg.c0
    have qBg : _ := Bg.c1
    go_wp2_with fail
    obtain ⟨Φ2, hΦ⟩ : ∃ Φ : World → Prop, Φ = fun W => (Below w.heap.size w W ∧ w9.heap.size ≤ W.heap.size ∧ Box W w.heap.size (.int .i64 c0) (.slice a0 n0 cap0) ∧ Box W (w.heap.size + 1) (.int .i64 c1) (.slice a1 n1 cap1) ∧ Res W (w2.heap.size) (w3.heap.size) (.slice aow mow cow) r2 ∧ Box W qw (.int .i64 r1) (.slice aow mow cow) ∧ Res W (w3.heap.size) (w4.heap.size) (.slice (some ⟨bx0, 0, none⟩) n0 n0) z0 ∧ Box W w4.heap.size (.int .i64 c0) (.slice (some ⟨bx0, 0, none⟩) n0 n0) ∧ Res W (w4.heap.size + 1) (w5.heap.size) (.slice (some ⟨bx1, 0, none⟩) n1 n1) z1 ∧ Box W w5.heap.size (.int .i64 c1) (.slice (some ⟨bx1, 0, none⟩) n1 n1) ∧ Res W (w5.heap.size + 1) (w6.heap.size) (.slice aog mog cog) r2 ∧ Box W w6.heap.size (.int .i64 r1) (.slice aog mog cog)) := ⟨_, rfl⟩
    have F2 : Φ2 w9 := by rw [hΦ]; exact ⟨hb9, (by first | exact Nat.le_refl _ | simp | simp [size_setCell_]), X0, X1, Rw, Bw, Rx0, Bx0, Rx1, Bx1, Rg, Bg⟩
    have SP2 : ∀ W W' : World, Φ2 W → Below W.heap.size W W' → Φ2 W' := by intro W W' h hb; rw [hΦ] at h ⊢; exact ⟨(h.1.trans (hb.mono h.1.size)), (Nat.le_trans h.2.1 hb.size), (h.2.2.1.next hb), (h.2.2.2.1.next hb), (h.2.2.2.2.1.next hb), (h.2.2.2.2.2.1.next hb), (h.2.2.2.2.2.2.1.next hb), (h.2.2.2.2.2.2.2.1.next hb), (h.2.2.2.2.2.2.2.2.1.next hb), (h.2.2.2.2.2.2.2.2.2.1.next hb), (h.2.2.2.2.2.2.2.2.2.2.1.next hb), (h.2.2.2.2.2.2.2.2.2.2.2.next hb)⟩
    have C2B : ∀ W, Φ2 W → Below w.heap.size w W := fun W h => by rw [hΦ] at h; exact h.1
    have C2Z : ∀ W, Φ2 W → w9.heap.size ≤ W.heap.size := fun W h => by rw [hΦ] at h; exact h.2.1
    have C2X0 : ∀ W, Φ2 W → Box W w.heap.size (.int .i64 c0) (.slice a0 n0 cap0) := fun W h => by rw [hΦ] at h; exact h.2.2.1
    have C2X1 : ∀ W, Φ2 W → Box W (w.heap.size + 1) (.int .i64 c1) (.slice a1 n1 cap1) := fun W h => by rw [hΦ] at h; exact h.2.2.2.1
    have C2Rw : ∀ W, Φ2 W → Res W (w2.heap.size) (w3.heap.size) (.slice aow mow cow) r2 := fun W h => by rw [hΦ] at h; exact h.2.2.2.2.1
    have C2Bw : ∀ W, Φ2 W → Box W qw (.int .i64 r1) (.slice aow mow cow) := fun W h => by rw [hΦ] at h; exact h.2.2.2.2.2.1
    have C2Rx0 : ∀ W, Φ2 W → Res W (w3.heap.size) (w4.heap.size) (.slice (some ⟨bx0, 0, none⟩) n0 n0) z0 := fun W h => by rw [hΦ] at h; exact h.2.2.2.2.2.2.1
    have C2Bx0 : ∀ W, Φ2 W → Box W w4.heap.size (.int .i64 c0) (.slice (some ⟨bx0, 0, none⟩) n0 n0) := fun W h => by rw [hΦ] at h; exact h.2.2.2.2.2.2.2.1
    have C2Rx1 : ∀ W, Φ2 W → Res W (w4.heap.size + 1) (w5.heap.size) (.slice (some ⟨bx1, 0, none⟩) n1 n1) z1 := fun W h => by rw [hΦ] at h; exact h.2.2.2.2.2.2.2.2.1
    have C2Bx1 : ∀ W, Φ2 W → Box W w5.heap.size (.int .i64 c1) (.slice (some ⟨bx1, 0, none⟩) n1 n1) := fun W h => by rw [hΦ] at h; exact h.2.2.2.2.2.2.2.2.2.1
    have C2Rg : ∀ W, Φ2 W → Res W (w5.heap.size + 1) (w6.heap.size) (.slice aog mog cog) r2 := fun W h => by rw [hΦ] at h; exact h.2.2.2.2.2.2.2.2.2.2.1
    have C2Bg : ∀ W, Φ2 W → Box W w6.heap.size (.int .i64 r1) (.slice aog mog cog) := fun W h => by rw [hΦ] at h; exact h.2.2.2.2.2.2.2.2.2.2.2
    have D2 : Φ2 (World.drew w9) := SP2 _ _ F2 (Below.refl _ _).drew
    clear hΦ F2 hb9
    clear X0 pX0 qX0
    clear X1 pX1 qX1
    clear Rw
    clear Bw pBw qBw
    clear Rx0
    clear Bx0 pBx0 qBx0
    clear Rx1
    clear Bx1 pBx1 qBx1
    clear Rg
    clear Bg pBg qBg
    replace SP2 := Lib.hid SP2
    replace C2B := Lib.hid C2B
    replace C2Z := Lib.hid C2Z
    replace C2X0 := Lib.hid C2X0
    replace C2X1 := Lib.hid C2X1
    replace C2Rw := Lib.hid C2Rw
    replace C2Bw := Lib.hid C2Bw
    replace C2Rx0 := Lib.hid C2Rx0
    replace C2Bx0 := Lib.hid C2Bx0
    replace C2Rx1 := Lib.hid C2Rx1
    replace C2Bx1 := Lib.hid C2Bx1
    replace C2Rg := Lib.hid C2Rg
    replace C2Bg := Lib.hid C2Bg
    go_region_held3 (fun w' => w'.cell? ⟨w.heap.size, 0, none⟩ = some (.int .i64 c0) ∧ w'.cell? ⟨w.heap.size, 1, none⟩ = some (.slice a0 n0 cap0) ∧ w'.cell? ⟨(w.heap.size + 1), 0, none⟩ = some (.int .i64 c1) ∧ w'.cell? ⟨(w.heap.size + 1), 1, none⟩ = some (.slice a1 n1 cap1) ∧ w'.cell? ⟨qw, 0, none⟩ = some (.int .i64 r1) ∧ w'.cell? ⟨qw, 1, none⟩ = some (.slice aow mow cow) ∧ w'.cell? ⟨w4.heap.size, 0, none⟩ = some (.int .i64 c0) ∧ w'.cell? ⟨w4.heap.size, 1, none⟩ = some (.slice (some ⟨bx0, 0, none⟩) n0 n0) ∧ w'.cell? ⟨w5.heap.size, 0, none⟩ = some (.int .i64 c1) ∧ w'.cell? ⟨w5.heap.size, 1, none⟩ = some (.slice (some ⟨bx1, 0, none⟩) n1 n1) ∧ w'.cell? ⟨w6.heap.size, 0, none⟩ = some (.int .i64 r1) ∧ w'.cell? ⟨w6.heap.size, 1, none⟩ = some (.slice aog mog cog) ∧ Φ2 w') (first | exact ⟨(C2X0.out _ D2).c0, (C2X0.out _ D2).c1, (C2X1.out _ D2).c0, (C2X1.out _ D2).c1, (C2Bw.out _ D2).c0, (C2Bw.out _ D2).c1, (C2Bx0.out _ D2).c0, (C2Bx0.out _ D2).c1, (C2Bx1.out _ D2).c0, (C2Bx1.out _ D2).c1, (C2Bg.out _ D2).c0, (C2Bg.out _ D2).c1, D2⟩ | exact ⟨by assumption, by assumption, by assumption, by assumption, by assumption, by assumption, by assumption, by assumption, by assumption, by assumption, by assumption, by assumption, by assumption⟩) (first | (go_at_call 18; with_reducible refine (toMatrix_any c1 a1 n1 cap1 z1 _ (h1.from (C2B.out _ (by assumption))) (by omega)).mono ?_; rintro e w10 ⟨by1, rfl, gey1, hb10r, My1⟩; have G10 : Φ2 w10 := SP2.out _ _ (by assumption) hb10r; have pX010 := (C2X0.out _ G10).c0; have qX010 := (C2X0.out _ G10).c1; have pX110 := (C2X1.out _ G10).c0; have qX110 := (C2X1.out _ G10).c1; have pBw10 := (C2Bw.out _ G10).c0; have qBw10 := (C2Bw.out _ G10).c1; have pBx010 := (C2Bx0.out _ G10).c0; have qBx010 := (C2Bx0.out _ G10).c1; have pBx110 := (C2Bx1.out _ G10).c0; have qBx110 := (C2Bx1.out _ G10).c1; have pBg10 := (C2Bg.out _ G10).c0; have qBg10 := (C2Bg.out _ G10).c1; have Ry1 := My1.res (cap := n1) (Nat.zero_le _); clear hb10r gey1) | (go_at_call 20; refine (eqMatrix_res c1 (C2Rx1.out _ (by assumption)) Ry1).mono ?_; rintro e w11 ⟨rfl, hb11r⟩; have G11 : Φ2 w11 := SP2.out _ _ (by assumption) hb11r; have pX011 := (C2X0.out _ G11).c0; have qX011 := (C2X0.out _ G11).c1; have pX111 := (C2X1.out _ G11).c0; have qX111 := (C2X1.out _ G11).c1; have pBw11 := (C2Bw.out _ G11).c0; have qBw11 := (C2Bw.out _ G11).c1; have pBx011 := (C2Bx0.out _ G11).c0; have qBx011 := (C2Bx0.out _ G11).c1; have pBx111 := (C2Bx1.out _ G11).c0; have qBx111 := (C2Bx1.out _ G11).c1; have pBg11 := (C2Bg.out _ G11).c0; have qBg11 := (C2Bg.out _ G11).c1; replace My1 := My1.below hb11r; replace Ry1 := Ry1.next hb11r; clear hb11r))
    have Z11 := Lib.hid (C2Z.out _ G11)
    have hb11 := C2B.out _ G11
    have X0 := C2X0.out _ G11
    have pX0 : _ := X0.c0
    have qX0 : _ := X0.c1
    have X1 := C2X1.out _ G11
    have pX1 : _ := X1.c0
    have qX1 : _ := X1.c1
    have Rw := C2Rw.out _ G11
    have Bw := C2Bw.out _ G11
    have pBw : _ := Bw.c0
    have qBw : _ := Bw.c1
    have Rx0 := C2Rx0.out _ G11
    have Bx0 := C2Bx0.out _ G11
    have pBx0 : _ := Bx0.c0
    have qBx0 : _ := Bx0.c1
    have Rx1 := C2Rx1.out _ G11
    have Bx1 := C2Bx1.out _ G11
    have pBx1 : _ := Bx1.c0
    have qBx1 : _ := Bx1.c1
    have Rg := C2Rg.out _ G11
    have Bg := C2Bg.out _ G11
    have pBg : _ := Bg.c0
    have qBg : _ := Bg.c1
    have l2 := Rg.small
    go_wp2_with fail
    refine (markMatrix_res c0 Rx0 (1) (by omega) (by omega)).mono ?_
    rintro e w12 ⟨rfl, hC, HM⟩
    replace X0 := X0.chg hC (by have := Z1.out; have := Z2.out; have := Z3.out; have := Zw.out; have := Z4.out; have := Z5.out; have := Z6.out; have := Z7.out; have := Z9.out; have := Z11.out; omega)
    replace pX0 : _ := X0.c0
    replace qX0 : _ := X0.c1
    replace X1 := X1.chg hC (by have := Z1.out; have := Z2.out; have := Z3.out; have := Zw.out; have := Z4.out; have := Z5.out; have := Z6.out; have := Z7.out; have := Z9.out; have := Z11.out; omega)
    replace pX1 : _ := X1.c0
    replace qX1 : _ := X1.c1
    replace Rw := Rw.chg hC (by have := Z1.out; have := Z2.out; have := Z3.out; have := Zw.out; have := Z4.out; have := Z5.out; have := Z6.out; have := Z7.out; have := Z9.out; have := Z11.out; omega)
    replace Bw := Bw.chg hC (by have := Z1.out; have := Z2.out; have := Z3.out; have := Zw.out; have := Z4.out; have := Z5.out; have := Z6.out; have := Z7.out; have := Z9.out; have := Z11.out; omega)
    replace pBw : _ := Bw.c0
    replace qBw : _ := Bw.c1
    replace Bx0 := Bx0.chg hC (by have := Z1.out; have := Z2.out; have := Z3.out; have := Zw.out; have := Z4.out; have := Z5.out; have := Z6.out; have := Z7.out; have := Z9.out; have := Z11.out; omega)
    replace pBx0 : _ := Bx0.c0
    replace qBx0 : _ := Bx0.c1
    replace Rx1 := Rx1.chg hC (by have := Z1.out; have := Z2.out; have := Z3.out; have := Zw.out; have := Z4.out; have := Z5.out; have := Z6.out; have := Z7.out; have := Z9.out; have := Z11.out; omega)
    replace Bx1 := Bx1.chg hC (by have := Z1.out; have := Z2.out; have := Z3.out; have := Zw.out; have := Z4.out; have := Z5.out; have := Z6.out; have := Z7.out; have := Z9.out; have := Z11.out; omega)
    replace pBx1 : _ := Bx1.c0
    replace qBx1 : _ := Bx1.c1
    replace Rg := Rg.chg hC (by have := Z1.out; have := Z2.out; have := Z3.out; have := Zw.out; have := Z4.out; have := Z5.out; have := Z6.out; have := Z7.out; have := Z9.out; have := Z11.out; omega)
    replace Bg := Bg.chg hC (by have := Z1.out; have := Z2.out; have := Z3.out; have := Zw.out; have := Z4.out; have := Z5.out; have := Z6.out; have := Z7.out; have := Z9.out; have := Z11.out; omega)
    replace pBg : _ := Bg.c0
    replace qBg : _ := Bg.c1
    have hb12 := Chg.below hb11 hb11.size hC (by have := Z1.out; have := Z2.out; have := Z3.out; have := Zw.out; have := Z4.out; have := Z5.out; have := Z6.out; have := Z7.out; have := Z9.out; have := Z11.out; omega)
    have Z12 := Lib.hid (show w11.heap.size ≤ w12.heap.size by have := hC.size; simpa [size_setCell_] using this)
    clear hC Rx0
    clear HM
    generalize hk : 1 + z0.length = k1
    have hk1 : k1 ≤ 1048577 := by omega
    have HK1 := Lib.hid hk
    clear hk
    go_wp2_with fail
    refine (markMatrix_res c1 Rx1 (k1) (by have := HK1.out; omega) (by omega)).mono ?_
    rintro e w13 ⟨rfl, hC, HM⟩
    replace X0 := X0.chg hC (by have := Z1.out; have := Z2.out; have := Z3.out; have := Zw.out; have := Z4.out; have := Z5.out; have := Z6.out; have := Z7.out; have := Z9.out; have := Z11.out; have := Z12.out; omega)
    replace pX0 : _ := X0.c0
    replace qX0 : _ := X0.c1
    replace X1 := X1.chg hC (by have := Z1.out; have := Z2.out; have := Z3.out; have := Zw.out; have := Z4.out; have := Z5.out; have := Z6.out; have := Z7.out; have := Z9.out; have := Z11.out; have := Z12.out; omega)
    replace pX1 : _ := X1.c0
    replace qX1 : _ := X1.c1
    replace Rw := Rw.chg hC (by have := Z1.out; have := Z2.out; have := Z3.out; have := Zw.out; have := Z4.out; have := Z5.out; have := Z6.out; have := Z7.out; have := Z9.out; have := Z11.out; have := Z12.out; omega)
    replace Bw := Bw.chg hC (by have := Z1.out; have := Z2.out; have := Z3.out; have := Zw.out; have := Z4.out; have := Z5.out; have := Z6.out; have := Z7.out; have := Z9.out; have := Z11.out; have := Z12.out; omega)
    replace pBw : _ := Bw.c0
    replace qBw : _ := Bw.c1
    replace Bx0 := Bx0.chg hC (by have := Z1.out; have := Z2.out; have := Z3.out; have := Zw.out; have := Z4.out; have := Z5.out; have := Z6.out; have := Z7.out; have := Z9.out; have := Z11.out; have := Z12.out; omega)
    replace pBx0 : _ := Bx0.c0
    replace qBx0 : _ := Bx0.c1
    replace Bx1 := Bx1.chg hC (by have := Z1.out; have := Z2.out; have := Z3.out; have := Zw.out; have := Z4.out; have := Z5.out; have := Z6.out; have := Z7.out; have := Z9.out; have := Z11.out; have := Z12.out; omega)
    replace pBx1 : _ := Bx1.c0
    replace qBx1 : _ := Bx1.c1
    replace Rg := Rg.chg hC (by have := Z1.out; have := Z2.out; have := Z3.out; have := Zw.out; have := Z4.out; have := Z5.out; have := Z6.out; have := Z7.out; have := Z9.out; have := Z11.out; have := Z12.out; omega)
    replace Bg := Bg.chg hC (by have := Z1.out; have := Z2.out; have := Z3.out; have := Zw.out; have := Z4.out; have := Z5.out; have := Z6.out; have := Z7.out; have := Z9.out; have := Z11.out; have := Z12.out; omega)
    replace pBg : _ := Bg.c0
    replace qBg : _ := Bg.c1
    have hb13 := Chg.below hb12 hb12.size hC (by have := Z1.out; have := Z2.out; have := Z3.out; have := Zw.out; have := Z4.out; have := Z5.out; have := Z6.out; have := Z7.out; have := Z9.out; have := Z11.out; have := Z12.out; omega)
    have Z13 := Lib.hid (show w12.heap.size ≤ w13.heap.size by have := hC.size; simpa [size_setCell_] using this)
    clear hC Rx1
    clear HM
    go_wp2_with fail
    refine (eqMatrix_res r1 Rg Rw).mono ?_
    rintro e w14 ⟨rfl, hb⟩
    replace X0 := X0.next hb
    replace pX0 : _ := X0.c0
    replace qX0 : _ := X0.c1
    replace X1 := X1.next hb
    replace pX1 : _ := X1.c0
    replace qX1 : _ := X1.c1
    replace Rw := Rw.next hb
    replace Bw := Bw.next hb
    replace pBw : _ := Bw.c0
    replace qBw : _ := Bw.c1
    replace Bx0 := Bx0.next hb
    replace pBx0 : _ := Bx0.c0
    replace qBx0 : _ := Bx0.c1
    replace Bx1 := Bx1.next hb
    replace pBx1 : _ := Bx1.c0
    replace qBx1 : _ := Bx1.c1
    replace Rg := Rg.next hb
    replace Bg := Bg.next hb
    replace pBg : _ := Bg.c0
    replace qBg : _ := Bg.c1
    have hb14 := hb13.trans (hb.mono hb13.size)
    have Z14 := Lib.hid (show w13.heap.size ≤ w14.heap.size by have := hb.size; simpa [size_setCell_] using this)
    clear hb
    go_wp2_with fail
    refine (markMatrix_res r1 Rg (1) (by omega) (by omega)).mono ?_
    rintro e w15 ⟨rfl, hC, HM⟩
    replace X0 := X0.chg hC (by have := Z1.out; have := Z2.out; have := Z3.out; have := Zw.out; have := Z4.out; have := Z5.out; have := Z6.out; have := Z7.out; have := Z9.out; have := Z11.out; have := Z12.out; have := Z13.out; have := Z14.out; omega)
    replace pX0 : _ := X0.c0
    replace qX0 : _ := X0.c1
    replace X1 := X1.chg hC (by have := Z1.out; have := Z2.out; have := Z3.out; have := Zw.out; have := Z4.out; have := Z5.out; have := Z6.out; have := Z7.out; have := Z9.out; have := Z11.out; have := Z12.out; have := Z13.out; have := Z14.out; omega)
    replace pX1 : _ := X1.c0
    replace qX1 : _ := X1.c1
    replace Rw := Rw.chg hC (by have := Z1.out; have := Z2.out; have := Z3.out; have := Zw.out; have := Z4.out; have := Z5.out; have := Z6.out; have := Z7.out; have := Z9.out; have := Z11.out; have := Z12.out; have := Z13.out; have := Z14.out; omega)
    replace Bw := Bw.chg hC (by have := Z1.out; have := Z2.out; have := Z3.out; have := Zw.out; have := Z4.out; have := Z5.out; have := Z6.out; have := Z7.out; have := Z9.out; have := Z11.out; have := Z12.out; have := Z13.out; have := Z14.out; omega)
    replace pBw : _ := Bw.c0
    replace qBw : _ := Bw.c1
    replace Bx0 := Bx0.chg hC (by have := Z1.out; have := Z2.out; have := Z3.out; have := Zw.out; have := Z4.out; have := Z5.out; have := Z6.out; have := Z7.out; have := Z9.out; have := Z11.out; have := Z12.out; have := Z13.out; have := Z14.out; omega)
    replace pBx0 : _ := Bx0.c0
    replace qBx0 : _ := Bx0.c1
    replace Bx1 := Bx1.chg hC (by have := Z1.out; have := Z2.out; have := Z3.out; have := Zw.out; have := Z4.out; have := Z5.out; have := Z6.out; have := Z7.out; have := Z9.out; have := Z11.out; have := Z12.out; have := Z13.out; have := Z14.out; omega)
    replace pBx1 : _ := Bx1.c0
    replace qBx1 : _ := Bx1.c1
    replace Bg := Bg.chg hC (by have := Z1.out; have := Z2.out; have := Z3.out; have := Zw.out; have := Z4.out; have := Z5.out; have := Z6.out; have := Z7.out; have := Z9.out; have := Z11.out; have := Z12.out; have := Z13.out; have := Z14.out; omega)
    replace pBg : _ := Bg.c0
    replace qBg : _ := Bg.c1
    have hb15 := Chg.below hb14 hb14.size hC (by have := Z1.out; have := Z2.out; have := Z3.out; have := Zw.out; have := Z4.out; have := Z5.out; have := Z6.out; have := Z7.out; have := Z9.out; have := Z11.out; have := Z12.out; have := Z13.out; have := Z14.out; omega)
    have Z15 := Lib.hid (show w14.heap.size ≤ w15.heap.size by have := hC.size; simpa [size_setCell_] using this)
    clear hC Rg
    go_wp2_with fail
    refine (heldMatrix_res r1 1 r2.length HM (by omega) (by omega)).mono ?_
    rintro e w16 ⟨rfl, hb⟩
    replace X0 := X0.next hb
    replace pX0 : _ := X0.c0
    replace qX0 : _ := X0.c1
    replace X1 := X1.next hb
    replace pX1 : _ := X1.c0
    replace qX1 : _ := X1.c1
    replace Rw := Rw.next hb
    replace Bw := Bw.next hb
    replace pBw : _ := Bw.c0
    replace qBw : _ := Bw.c1
    replace Bx0 := Bx0.next hb
    replace pBx0 : _ := Bx0.c0
    replace qBx0 : _ := Bx0.c1
    replace Bx1 := Bx1.next hb
    replace pBx1 : _ := Bx1.c0
    replace qBx1 : _ := Bx1.c1
    replace Bg := Bg.next hb
    replace pBg : _ := Bg.c0
    replace qBg : _ := Bg.c1
    replace HM := HM.next hb
    have hb16 := hb15.trans (hb.mono hb15.size)
    have Z16 := Lib.hid (show w15.heap.size ≤ w16.heap.size by have := hb.size; simpa [size_setCell_] using this)
    clear hb
    go_upto_region 31 with fail
    go_cut [15, 16] from 94 to 101 (fun p c wx => ∃ (q : Nat) (ao : Option Addr) (mo co : Nat), p = .pointer (some ⟨q, 0, none⟩) ∧ c = .int .i64 r3 ∧ Box wx q (.int .i64 r1) (.slice ao mo co) ∧ Res wx (w16.heap.size) (wx.heap.size) (.slice ao mo co) r2 ∧ Below w16.heap.size w16 wx)
    case first =>
      have CB : ∀ w' : World, Below w16.heap.size w16 w' → w'.cell? ⟨w.heap.size, 0, none⟩ = some (.int .i64 c0) ∧ w'.cell? ⟨w.heap.size, 1, none⟩ = some (.slice a0 n0 cap0) ∧ w'.cell? ⟨(w.heap.size + 1), 0, none⟩ = some (.int .i64 c1) ∧ w'.cell? ⟨(w.heap.size + 1), 1, none⟩ = some (.slice a1 n1 cap1) ∧ w'.cell? ⟨qw, 0, none⟩ = some (.int .i64 r1) ∧ w'.cell? ⟨qw, 1, none⟩ = some (.slice aow mow cow) ∧ w'.cell? ⟨w4.heap.size, 0, none⟩ = some (.int .i64 c0) ∧ w'.cell? ⟨w4.heap.size, 1, none⟩ = some (.slice (some ⟨bx0, 0, none⟩) n0 n0) ∧ w'.cell? ⟨w5.heap.size, 0, none⟩ = some (.int .i64 c1) ∧ w'.cell? ⟨w5.heap.size, 1, none⟩ = some (.slice (some ⟨bx1, 0, none⟩) n1 n1) ∧ w'.cell? ⟨w6.heap.size, 0, none⟩ = some (.int .i64 r1) ∧ w'.cell? ⟨w6.heap.size, 1, none⟩ = some (.slice aog mog cog) ∧ Below w16.heap.size w16 w' := fun w' hB => ⟨(X0.next hB).c0, (X0.next hB).c1, (X1.next hB).c0, (X1.next hB).c1, (Bw.next hB).c0, (Bw.next hB).c1, (Bx0.next hB).c0, (Bx0.next hB).c1, (Bx1.next hB).c0, (Bx1.next hB).c1, (Bg.next hB).c0, (Bg.next hB).c1, hB⟩
      have HBK : ∀ W : World, Below w16.heap.size w16 W → Below w.heap.size w W := fun W h => hb16.trans (h.mono hb16.size)
      have hD : Below w16.heap.size w16 w16.drew := (Below.refl _ _).drew
      replace CB := Lib.hid CB
      replace HBK := Lib.hid HBK
      clear X0 pX0 qX0
      clear X1 pX1 qX1
      clear Bw pBw qBw
      clear Bx0 pBx0 qBx0
      clear Bx1 pBx1 qBx1
      clear Bg pBg qBg
      clear hb16
      go_region_held3 (fun w' => w'.cell? ⟨w.heap.size, 0, none⟩ = some (.int .i64 c0) ∧ w'.cell? ⟨w.heap.size, 1, none⟩ = some (.slice a0 n0 cap0) ∧ w'.cell? ⟨(w.heap.size + 1), 0, none⟩ = some (.int .i64 c1) ∧ w'.cell? ⟨(w.heap.size + 1), 1, none⟩ = some (.slice a1 n1 cap1) ∧ w'.cell? ⟨qw, 0, none⟩ = some (.int .i64 r1) ∧ w'.cell? ⟨qw, 1, none⟩ = some (.slice aow mow cow) ∧ w'.cell? ⟨w4.heap.size, 0, none⟩ = some (.int .i64 c0) ∧ w'.cell? ⟨w4.heap.size, 1, none⟩ = some (.slice (some ⟨bx0, 0, none⟩) n0 n0) ∧ w'.cell? ⟨w5.heap.size, 0, none⟩ = some (.int .i64 c1) ∧ w'.cell? ⟨w5.heap.size, 1, none⟩ = some (.slice (some ⟨bx1, 0, none⟩) n1 n1) ∧ w'.cell? ⟨w6.heap.size, 0, none⟩ = some (.int .i64 r1) ∧ w'.cell? ⟨w6.heap.size, 1, none⟩ = some (.slice aog mog cog) ∧ Below w16.heap.size w16 w') (first | with_reducible exact CB.out _ hD | with_reducible exact CB.out _ (by assumption) | exact CB.out _ (below_al (by assumption) _) | exact CB.out _ (below_al (Below.refl _ _) _).drew | exact CB.out _ (below_two (by assumption) hMRq _ _)) (first | (go_at_call 18; with_reducible refine Calls.mono (toMatrix_any c0 a0 n0 cap0 z0 _ (h0.from (HBK.out _ ?_)) (by omega)) ?_; (first | assumption | exact below_al (by assumption) _ | exact (below_al (Below.refl _ _) _).drew); rintro e wa ⟨bt0, rfl, gea, hba, Mt0⟩; have hwa := below_on (a := w16) hba (by first | assumption | exact below_al (by assumption) _ | exact (below_al (Below.refl _ _) _).drew); (first | replace MR := MR.below hba | (with_reducible have hRm := start_room (a := w16) hba (by assumption); obtain ⟨MR, hMRq⟩ := hRm) | (with_reducible have hRm := start_room_d hba; obtain ⟨MR, hMRq⟩ := hRm) | skip); clear gea hba) | (go_at_call 18; with_reducible refine Calls.mono (toMatrix_any c1 a1 n1 cap1 z1 _ (h1.from (HBK.out _ ?_)) (by omega)) ?_; (first | assumption | exact below_al (by assumption) _ | exact (below_al (Below.refl _ _) _).drew); rintro e wb ⟨bt1, rfl, geb, hbb, Mt1⟩; have hwb := below_on (a := w16) hbb (by first | assumption | exact below_al (by assumption) _ | exact (below_al (Below.refl _ _) _).drew); (first | replace Mt0 := Mt0.below hbb | replace Mt0 := Mt0.below (below_via hbb)); (first | replace MR := MR.below hbb | (with_reducible have hRm := start_room (a := w16) hbb (by assumption); obtain ⟨MR, hMRq⟩ := hRm) | (with_reducible have hRm := start_room_d hbb; obtain ⟨MR, hMRq⟩ := hRm) | skip); clear geb hbb) | (go_at_call 36; have S := fun W hM hN hT => implSumOf_any c0 bt0 n0 n0 z0 c1 bt1 n1 n1 z1 W hM hN hT; rw [HR.out] at S; (try dsimp only at S); (first | (with_reducible refine Calls.mono (S _ Mt0 Mt1 (hT.below (HBK.out _ ?_))) ?_) | (with_reducible refine Calls.mono (S _ (Mt0.below (below_alloc1 _ _)) (Mt1.below (below_alloc1 _ _)) (hT.below (HBK.out _ ?_))) ?_)); (first | assumption | exact below_al (by assumption) _ | exact (below_al (Below.refl _ _) _).drew); clear S; rintro e wc ⟨vh, rfl, hbc, Rh⟩; have hwc := below_on (a := w16) hbc (by first | assumption | exact below_al (by assumption) _ | exact (below_al (Below.refl _ _) _).drew); (try (obtain ⟨ex, ey, k0, k1⟩ := (MR.below hbc).ex; have f0 := (MR.below hbc).f0; have f1 := (MR.below hbc).f1)); (try (with_reducible have hRm := start_room (a := w16) hbc (by assumption); obtain ⟨MR2, hMRq⟩ := hRm; obtain ⟨ex, ey, k0, k1⟩ := MR2.ex; have f0 := MR2.f0; have f1 := MR2.f1)); obtain ⟨aoh, moh, coh, rfl⟩ := Rh.form; replace Rh := Lib.hid Rh; have hbc := Lib.hid hbc))
      all_goals
        go_wp2_with fail
        go_meet
        first | exact ⟨_, _, _, _, rfl, rfl, cut_b (by assumption) hbc.out Rh.out _ _⟩ | exact ⟨_, _, _, _, rfl, rfl, cut_a MR hMRq (by assumption) hbc.out Rh.out _⟩ | exact ⟨_, _, _, _, rfl, rfl, cut_a (MRoom.start _ _ _ _) hMRq (below_al (by assumption) _) hbc.out Rh.out _⟩
    case rest =>
      obtain ⟨w17, rfl⟩ : ∃ x, x = wc := ⟨wc, rfl⟩
      obtain ⟨qh, aoh, moh, coh, rfl, rfl, Bh, Rh, hb⟩ := hcut
      replace X0 := X0.next hb
      replace pX0 : _ := X0.c0
      replace qX0 : _ := X0.c1
      replace X1 := X1.next hb
      replace pX1 : _ := X1.c0
      replace qX1 : _ := X1.c1
      replace Rw := Rw.next hb
      replace Bw := Bw.next hb
      replace pBw : _ := Bw.c0
      replace qBw : _ := Bw.c1
      replace Bx0 := Bx0.next hb
      replace pBx0 : _ := Bx0.c0
      replace qBx0 : _ := Bx0.c1
      replace Bx1 := Bx1.next hb
      replace pBx1 : _ := Bx1.c0
      replace qBx1 : _ := Bx1.c1
      replace Bg := Bg.next hb
      replace pBg : _ := Bg.c0
      replace qBg : _ := Bg.c1
      replace HM := HM.next hb
      have hb17 := hb16.trans (hb.mono hb16.size)
      have Z17 := Lib.hid (show w16.heap.size ≤ w17.heap.size from hb.size)
      have Zh := Lib.hid Bh.lt
      clear hb
      have pBh : _ := Bh.c0
      have qBh : _ := Bh.c1
      go_wp2_with fail
      refine (eqMatrix_res r1 Rh Rw).mono ?_
      rintro e w18 ⟨rfl, hb⟩
      replace X0 := X0.next hb
      replace pX0 : _ := X0.c0
      replace qX0 : _ := X0.c1
      replace X1 := X1.next hb
      replace pX1 : _ := X1.c0
      replace qX1 : _ := X1.c1
      replace Rw := Rw.next hb
      replace Bw := Bw.next hb
      replace pBw : _ := Bw.c0
      replace qBw : _ := Bw.c1
      replace Bx0 := Bx0.next hb
      replace pBx0 : _ := Bx0.c0
      replace qBx0 : _ := Bx0.c1
      replace Bx1 := Bx1.next hb
      replace pBx1 : _ := Bx1.c0
      replace qBx1 : _ := Bx1.c1
      replace Bg := Bg.next hb
      replace pBg : _ := Bg.c0
      replace qBg : _ := Bg.c1
      replace HM := HM.next hb
      replace Rh := Rh.next hb
      replace Bh := Bh.next hb
      replace pBh : _ := Bh.c0
      replace qBh : _ := Bh.c1
      have hb18 := hb17.trans (hb.mono hb17.size)
      have Z18 := Lib.hid (show w17.heap.size ≤ w18.heap.size by have := hb.size; simpa [size_setCell_] using this)
      clear hb
      go_wp2_with fail
      refine (heldMatrix_res r1 1 r2.length HM (by omega) (by omega)).mono ?_
      rintro e w19 ⟨rfl, hb⟩
      replace X0 := X0.next hb
      replace pX0 : _ := X0.c0
      replace qX0 : _ := X0.c1
      replace X1 := X1.next hb
      replace pX1 : _ := X1.c0
      replace qX1 : _ := X1.c1
      replace Rw := Rw.next hb
      replace Bw := Bw.next hb
      replace pBw : _ := Bw.c0
      replace qBw : _ := Bw.c1
      replace Bx0 := Bx0.next hb
      replace pBx0 : _ := Bx0.c0
      replace qBx0 : _ := Bx0.c1
      replace Bx1 := Bx1.next hb
      replace pBx1 : _ := Bx1.c0
      replace qBx1 : _ := Bx1.c1
      replace Bg := Bg.next hb
      replace pBg : _ := Bg.c0
      replace qBg : _ := Bg.c1
      replace HM := HM.next hb
      replace Rh := Rh.next hb
      replace Bh := Bh.next hb
      replace pBh : _ := Bh.c0
      replace qBh : _ := Bh.c1
      have hb19 := hb18.trans (hb.mono hb18.size)
      have Z19 := Lib.hid (show w18.heap.size ≤ w19.heap.size by have := hb.size; simpa [size_setCell_] using this)
      clear hb
      go_wp2_with fail
      go_ret
      exact ⟨rfl, hb19⟩

set_option maxRecDepth 100000 in
theorem lifted (os : Os) (started : os.Started) (H : Type) (enc : TypeId × Value → H) :
    ReturnsInHanded {} Tryd.checked os 10 .any (fun w args => (Rows.fnExactSumOfSpec.pre enc Tryd.prog Tryd.f10 [] false w args ∧ laidMetH Tryd.prog listed w) ∧ sizedMet enc Tryd.prog Tryd.f10 (OpenSpec.ofChange Rows.fnExactSumOfSpec) false w args)
      (Rows.fnExactSumOfSpec.post enc Tryd.prog Tryd.f10 false true false false) := by
  refine returnsInHanded_of_change_and (C := Tryd.checked) (X := fun w _ => laidMetH Tryd.prog listed w) (fun _ _ _ hh h => h.of_heap hh) own started (by kernel_rfl) Tryd.func10
    (ChangeSpec.witness_shaped (enc := enc) (C := Tryd.checked) (os := os) (X := fun w _ => laidMetH Tryd.prog listed w) false (World.doorLaid Tryd.prog 400 os) #[.agg #[.int .i64 0, .slice none 0 0], .agg #[.int .i64 0, .slice none 0 0]] 8 rfl (World.shaped_of_RefB (by kernel_rfl) (by kernel_rfl)) (by kernel_rfl) (by kernel_rfl) (by kernel_rfl) (door_met os _)) ?_
  intro W base args ds gs before hval0 hW _ _ hL _
  have hval : ∀ (j : Nat) t v, Tryd.f10.params[j]? = some t → args[j]? = some v → Value.okWide Tryd.prog W .any base t v := hval0
  have hT := tab_of_laid hL
  have hW' := hW
  obtain ⟨p, q, hA0, hV, rfl, hfz, hnd⟩ := hW
  have hA : DataW.TrodAll enc Tryd.prog W 0 (fun _ => true) true Tryd.f10.params.toList args.toList ds p := hA0
  rw [Tryd.params10] at hA hval
  obtain ⟨v0, vs0, dd0, ds0, pp0, qq0, hargs, rfl, rfl, h0, r0⟩ := trodAll_cons hA
  obtain ⟨v1, vs1, dd1, ds1, pp1, qq1, rfl, rfl, rfl, h1, r1⟩ := trodAll_cons r0
  obtain ⟨rfl, rfl, rfl⟩ := trodAll_nil r1
  obtain rfl : args = #[v0, v1] := by cases args; simp_all
  obtain ⟨rfl, rfl⟩ := trodVars_none hV
  have k0 := h0
  have lt0 : ∀ x ∈ pp0, x.block < W.heap.size := by obtain ⟨m, hm⟩ := k0; exact DataW.trod_lt m _ _ _ hm
  obtain ⟨u0, e0, y0, q0, m0, rfl, rfl, rfl, hy0, hz0⟩ := open_agg2 Tryd.underlying24 (by kernel_rfl) cellsMat (hval 0 24 v0 rfl rfl) h0
  obtain ⟨c0, ec0, rfl, wc0⟩ := DataW.trod_int Tryd.underlying2 hy0
  simp at ec0; subst ec0
  obtain ⟨a0, n0, cap0, z0, rfl, w0⟩ := arg_open hz0
  have k1 := h1
  have lt1 : ∀ x ∈ pp1, x.block < W.heap.size := by obtain ⟨m, hm⟩ := k1; exact DataW.trod_lt m _ _ _ hm
  obtain ⟨u1, e1, y1, q1, m1, rfl, rfl, rfl, hy1, hz1⟩ := open_agg2 Tryd.underlying24 (by kernel_rfl) cellsMat (hval 1 24 v1 rfl rfl) h1
  obtain ⟨c1, ec1, rfl, wc1⟩ := DataW.trod_int Tryd.underlying2 hy1
  simp at ec1; subst ec1
  obtain ⟨a1, n1, cap1, z1, rfl, w1⟩ := arg_open hz1
  clear hA0 hval0
  refine (walk c0 a0 n0 cap0 z0 c1 a1 n1 cap1 z1 W hT w0 w1).mono fun e W' ⟨he, bel⟩ => ?_
  subst he
  exact ⟨_, rfl, _, _, _, [], _, [], hW', trodAll_mk1 (shut_bool Tryd.underlying4 _), (trodAll_cons_mk (Below.trod laidOut (by kernel_rfl) (of_decide_eq_true (by kernel_rfl)) k0 bel lt0) (trodAll_cons_mk (Below.trod laidOut (by kernel_rfl) (of_decide_eq_true (by kernel_rfl)) k1 bel lt1) trodAll_mk0)), rfl, bel.frame _, fun h => by cases h⟩

theorem over : Rows.fnExactSumOfRow.holds Tryd.pinned (OpenSpec.ofChange Rows.fnExactSumOfSpec) :=
  OpenClaim.holds_of_wide 10 Tryd.f10 rfl rfl rfl rfl rfl rfl rfl ⟨rfl, rfl, rfl, rfl, rfl⟩ rfl rfl rfl rfl rfl (by kernel_rfl) Tryd.func10 (by kernel_rfl)
    (of_decide_eq_true (by kernel_rfl)) (by unfold Func.isWrapper; first | (rw [if_pos (by decide +kernel)]; kernel_rfl) | (rw [if_neg (by decide +kernel)]; exact ⟨rfl, rfl⟩))
    (fun os started H enc _ => lifted os started H enc)

theorem proved : Rows.FnExactSumOfCardSaid :=
  Claim7.holds_tied_plain_at .later [] [.data] true Rows.fnExactSumOfCard.stood.harness false
    over (fun _ h => by cases h) (by kernel_rfl) (fun _ h => by cases h) fnExactSumOf_row_tie rfl ⟨rfl, rfl⟩ (by kernel_rfl) rfl
    (fun f fn hf hfn => by
      obtain rfl : f = 10 := Option.some.inj ((show Tryd.prog.funcNamed "loop.example/g01144/laws.FnExactSumOf" = some 10 by kernel_rfl).symm.trans hf) |>.symm
      obtain rfl : fn = Tryd.f10 := (Option.some.inj (Tryd.func10.symm.trans hfn)).symm
      exact ⟨by kernel_rfl, fun j t ht => by
        rw [Tryd.params10] at ht
        have hm : t ∈ [24, 24] := by simpa using Array.mem_of_getElem? ht
        have hall : ([24, 24].all fun u => !Tryd.prog.wantsStandIn u) = true := by kernel_rfl
        exact (show Tryd.prog.wantsStandIn t = false by simpa using List.all_eq_true.1 hall t hm)⟩)
    (by kernel_rfl)
#print axioms proved
end Go.Proofs.YtfhalaohegdbhaaDoor.fnExactSumOf
