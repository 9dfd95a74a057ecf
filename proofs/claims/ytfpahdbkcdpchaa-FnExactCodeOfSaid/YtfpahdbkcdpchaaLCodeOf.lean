/- FnExactCodeOf: for every input the law returns true, and every argument reads afterwards as it read before. No condition. -/
import Derived.Test.YtfpahdbkcdpchaaRows
import Derived.WalkKit
import Derived.ProofKit
import Derived.OpenShut
import Derived.ChangeOld
import Derived.Below
import Derived.Lib.SmallJoins
import Derived.Test.YtfpahdbkcdpchaaCodeOf
import Derived.Test.YtfpahdbkcdpchaaSsLaw
import Derived.Test.YtfpahdbkcdpchaaLB
import Derived.Test.YtfpahdbkcdpchaaToField
import Derived.Test.YtfpahdbkcdpchaaThird
import Derived.Test.YtfpahdbkcdpchaaRow
import Derived.Test.YtfpahdbkcdpchaaRes
import Derived.Test.YtfpahdbkcdpchaaStep
import Derived.Test.YtfpahdbkcdpchaaCode
namespace Go.Proofs.Ytfpahdbkcdpchaa.fnExactCodeOf
open Go.ChangeShapes Go.WideShapes Go.ChangeAt Go.RowKit Go.Joins
set_option linter.unusedVariables false

theorem own : ownKnob Try.prog.godebug = none := by kernel_rfl
theorem laidOut : laidOutB Try.prog = true := by kernel_rfl
theorem cellsField : Try.prog.cellsOf 23 = 2 := by kernel_rfl

set_option maxRecDepth 100000 in
set_option maxHeartbeats 12800000 in
theorem walk (d0 p0 : Int) (wd0 : (Lit.int .i64 d0).wf = true) (wp0 : (Lit.int .i64 p0).wf = true) (a1 : Int) (w1 : (Lit.int .i64 a1).wf = true) (a2 : Option Addr) (n2 cap2 : Nat) (z2 : List (List Int)) (w : World) (h2S : ArgS w a2 n2 z2) :
    Calls Try.prog 5 #[.agg #[.int .i64 d0, .int .i64 p0], .int .i64 a1, .slice a2 n2 cap2] w fun e w' => e = .returned (.bool true) ∧ Below w.heap.size w w' := by
  obtain ⟨hl, hh⟩ := bounds_i64 wp0
  have big2 := h2S.big
  obtain ⟨N2, hN2⟩ : ∃ N, n2 + total z2 = N := ⟨_, rfl⟩
  have HN2 := Lib.hid hN2
  clear hN2
  by_cases hm2 : N2 ≤ 1048576
  rotate_left
  ·
    go_enter Try.func5, Try.ntmps5
    have h0 := G1.start w [.int .i64 d0, .int .i64 p0] 23
    have xx0k0 : _ := h0.x.cell 0 _ rfl
    have xx1k0 : _ := h0.x.cell 1 _ rfl
    go_wp2_with fail
    refine (szInt64SS_any a2 n2 cap2 z2 1048576 (by omega) (by omega) _ (h2S.below h0.b)).mono ?_
    rw [HN2.out]
    rintro e w1 ⟨⟨hq, rfl⟩ | ⟨hq, rfl⟩, hb⟩
    · exact absurd hq (by omega)
    · have hb1 := (h0.next hb).b
      clear hb hq
      go_wp2_with fail
      go_ret
      exact ⟨rfl, hb1⟩
  have hn2 : n2 + total z2 ≤ 1048576 := by have := HN2.out; omega
  obtain ⟨r, hr⟩ : ∃ r, fCodeOf d0 p0 a1 z2 = r := ⟨_, rfl⟩
  have HR := Lib.hid hr
  clear hr
  obtain ⟨r1, r2, r3, r4, r5⟩ := r
  go_enter Try.func5, Try.ntmps5
  have h0 := G1.start w [.int .i64 d0, .int .i64 p0] 23
  have xx0k0 : _ := h0.x.cell 0 _ rfl
  have xx1k0 : _ := h0.x.cell 1 _ rfl
  go_wp2_with fail
  refine (szInt64SS_any a2 n2 cap2 z2 1048576 (by omega) (by omega) _ (h2S.below h0.b)).mono ?_
  rw [HN2.out]
  rintro e w1 ⟨⟨hq, rfl⟩ | ⟨hq, rfl⟩, hb⟩
  rotate_left
  · exact absurd hq (by omega)
  clear hq
  have h1 := h0.next hb
  have xx0k1 : _ := h1.x.cell 0 _ rfl
  have xx1k1 : _ := h1.x.cell 1 _ rfl
  have Z1 := Lib.hid h1.z
  clear hb h0 xx0k0 xx1k0
  go_wp2_with fail
  refine (toField_any d0 p0 _).mono ?_
  rintro e w2 ⟨rfl, hb⟩
  have h2 := h1.next hb
  have xx0k2 : _ := h2.x.cell 0 _ rfl
  have xx1k2 : _ := h2.x.cell 1 _ rfl
  have Z2 := Lib.hid hb.size
  clear hb h1 xx0k1 xx1k1
  go_wp2_with fail
  refine (toInt64SS_any a2 n2 cap2 z2 _ (h2S.below h2.b) hn2).mono ?_
  rintro e w3 ⟨gs2, rfl, ges2, hb, Ss2⟩
  clear ges2
  have h3 := h2.next hb
  have xx0k3 : _ := h3.x.cell 0 _ rfl
  have xx1k3 : _ := h3.x.cell 1 _ rfl
  have Z3 := Lib.hid hb.size
  clear hb h2 xx0k2 xx1k2
  go_wp2_with fail
  have S := specCodeOf_any d0 p0 a1 (.slice (some ⟨gs2, 0, none⟩) n2 n2) z2 _ Ss2.rr
  rw [HR.out] at S
  try dsimp only at S
  refine S.mono ?_
  clear S
  rintro e w4 ⟨vw, rfl, hb, Rw⟩
  have h4 := h3.next hb
  have xx0k4 : _ := h4.x.cell 0 _ rfl
  have xx1k4 : _ := h4.x.cell 1 _ rfl
  have Z4 := Lib.hid hb.size
  replace Ss2 := Ss2.next hb
  clear hb h3 xx0k3 xx1k3
  obtain ⟨aow, cow, rfl⟩ := Rw.is
  have hb := below_alloc1 w4 (.cells (codL r1 r2 r3 (.slice aow r4.length cow)).toArray 36)
  have nBw := LB.one w4 (codL r1 r2 r3 (.slice aow r4.length cow)) 36
  have h5 := h4.next hb
  have xx0k5 : _ := h5.x.cell 0 _ rfl
  have xx1k5 : _ := h5.x.cell 1 _ rfl
  have Z5 := Lib.hid hb.size
  replace Ss2 := Ss2.next hb
  replace Rw := Rw.next hb
  clear hb h4 xx0k4 xx1k4
  have Y5 := Lib.hid (show w4.heap.size + 1 ≤ (w4.alloc (.cells (codL r1 r2 r3 (.slice aow r4.length cow)).toArray 36)).heap.size by simp)
  have Bw := nBw; clear nBw
  have q0Bw : _ := Bw.cell 0 _ rfl
  have q1Bw : _ := Bw.cell 1 _ rfl
  have q2Bw : _ := Bw.cell 2 _ rfl
  have q3Bw : _ := Bw.cell 3 _ rfl
  clear Ss2
  go_wp2_with fail
  refine (toInt64SS_any a2 n2 cap2 z2 _ (h2S.below h5.b) hn2).mono ?_
  rintro e w6 ⟨gx2, rfl, gex2, hb, Sx2⟩
  clear gex2
  have h6 := h5.next hb
  have xx0k6 : _ := h6.x.cell 0 _ rfl
  have xx1k6 : _ := h6.x.cell 1 _ rfl
  have Z6 := Lib.hid hb.size
  replace Rw := Rw.next hb
  replace Bw := Bw.next hb
  replace q0Bw : _ := Bw.cell 0 _ rfl
  replace q1Bw : _ := Bw.cell 1 _ rfl
  replace q2Bw : _ := Bw.cell 2 _ rfl
  replace q3Bw : _ := Bw.cell 3 _ rfl
  clear hb h5 xx0k5 xx1k5
  go_wp2_with fail
  refine (toField_any d0 p0 _).mono ?_
  rintro e w7 ⟨rfl, hb⟩
  have h7 := h6.next hb
  have xx0k7 : _ := h7.x.cell 0 _ rfl
  have xx1k7 : _ := h7.x.cell 1 _ rfl
  have Z7 := Lib.hid hb.size
  replace Rw := Rw.next hb
  replace Bw := Bw.next hb
  replace q0Bw : _ := Bw.cell 0 _ rfl
  replace q1Bw : _ := Bw.cell 1 _ rfl
  replace q2Bw : _ := Bw.cell 2 _ rfl
  replace q3Bw : _ := Bw.cell 3 _ rfl
  replace Sx2 := Sx2.next hb
  clear hb h6 xx0k6 xx1k6
  go_wp2_with fail
  have S := implCodeOf_any d0 p0 a1 (.slice (some ⟨gx2, 0, none⟩) n2 n2) z2 _ hl hh Sx2.rr
  rw [HR.out] at S
  try dsimp only at S
  refine S.mono ?_
  clear S
  rintro e w8 ⟨vg, rfl, hb, Rg⟩
  have h8 := h7.next hb
  have xx0k8 : _ := h8.x.cell 0 _ rfl
  have xx1k8 : _ := h8.x.cell 1 _ rfl
  have Z8 := Lib.hid hb.size
  replace Rw := Rw.next hb
  replace Bw := Bw.next hb
  replace q0Bw : _ := Bw.cell 0 _ rfl
  replace q1Bw : _ := Bw.cell 1 _ rfl
  replace q2Bw : _ := Bw.cell 2 _ rfl
  replace q3Bw : _ := Bw.cell 3 _ rfl
  replace Sx2 := Sx2.next hb
  clear hb h7 xx0k7 xx1k7
  obtain ⟨aog, cog, rfl⟩ := Rg.is
  have hb := below_alloc1 w8 (.cells (codL r1 r2 r3 (.slice aog r4.length cog)).toArray 36)
  have nBg := LB.one w8 (codL r1 r2 r3 (.slice aog r4.length cog)) 36
  have h9 := h8.next hb
  have xx0k9 : _ := h9.x.cell 0 _ rfl
  have xx1k9 : _ := h9.x.cell 1 _ rfl
  have Z9 := Lib.hid hb.size
  replace Rw := Rw.next hb
  replace Bw := Bw.next hb
  replace q0Bw : _ := Bw.cell 0 _ rfl
  replace q1Bw : _ := Bw.cell 1 _ rfl
  replace q2Bw : _ := Bw.cell 2 _ rfl
  replace q3Bw : _ := Bw.cell 3 _ rfl
  replace Sx2 := Sx2.next hb
  replace Rg := Rg.next hb
  clear hb h8 xx0k8 xx1k8
  have Y9 := Lib.hid (show w8.heap.size + 1 ≤ (w8.alloc (.cells (codL r1 r2 r3 (.slice aog r4.length cog)).toArray 36)).heap.size by simp)
  have Bg := nBg; clear nBg
  have q0Bg : _ := Bg.cell 0 _ rfl
  have q1Bg : _ := Bg.cell 1 _ rfl
  have q2Bg : _ := Bg.cell 2 _ rfl
  have q3Bg : _ := Bg.cell 3 _ rfl
  go_wp2_with fail
  refine (eqCode_rr r1 r2 r3 Rg.rr Rw.rr).mono ?_
  rintro e w10 ⟨rfl, hb⟩
  have h10 := h9.next hb
  have xx0k10 : _ := h10.x.cell 0 _ rfl
  have xx1k10 : _ := h10.x.cell 1 _ rfl
  have Z10 := Lib.hid hb.size
  replace Rw := Rw.next hb
  replace Bw := Bw.next hb
  replace q0Bw : _ := Bw.cell 0 _ rfl
  replace q1Bw : _ := Bw.cell 1 _ rfl
  replace q2Bw : _ := Bw.cell 2 _ rfl
  replace q3Bw : _ := Bw.cell 3 _ rfl
  replace Sx2 := Sx2.next hb
  replace Rg := Rg.next hb
  replace Bg := Bg.next hb
  replace q0Bg : _ := Bg.cell 0 _ rfl
  replace q1Bg : _ := Bg.cell 1 _ rfl
  replace q2Bg : _ := Bg.cell 2 _ rfl
  replace q3Bg : _ := Bg.cell 3 _ rfl
  clear hb h9 xx0k9 xx1k9
  go_wp2_with fail
  refine (toInt64SS_any a2 n2 cap2 z2 _ (h2S.below h10.b) hn2).mono ?_
  rintro e w11 ⟨gy2, rfl, gey2, hb, Sy2⟩
  clear gey2
  have h11 := h10.next hb
  have xx0k11 : _ := h11.x.cell 0 _ rfl
  have xx1k11 : _ := h11.x.cell 1 _ rfl
  have Z11 := Lib.hid hb.size
  replace Rw := Rw.next hb
  replace Bw := Bw.next hb
  replace q0Bw : _ := Bw.cell 0 _ rfl
  replace q1Bw : _ := Bw.cell 1 _ rfl
  replace q2Bw : _ := Bw.cell 2 _ rfl
  replace q3Bw : _ := Bw.cell 3 _ rfl
  replace Sx2 := Sx2.next hb
  replace Rg := Rg.next hb
  replace Bg := Bg.next hb
  replace q0Bg : _ := Bg.cell 0 _ rfl
  replace q1Bg : _ := Bg.cell 1 _ rfl
  replace q2Bg : _ := Bg.cell 2 _ rfl
  replace q3Bg : _ := Bg.cell 3 _ rfl
  clear hb h10 xx0k10 xx1k10
  go_wp2_with fail
  refine (eqSS_rr Sx2.rr Sy2.rr).mono ?_
  rintro e w12 ⟨rfl, hb⟩
  have h12 := h11.next hb
  have xx0k12 : _ := h12.x.cell 0 _ rfl
  have xx1k12 : _ := h12.x.cell 1 _ rfl
  have Z12 := Lib.hid hb.size
  replace Rw := Rw.next hb
  replace Bw := Bw.next hb
  replace q0Bw : _ := Bw.cell 0 _ rfl
  replace q1Bw : _ := Bw.cell 1 _ rfl
  replace q2Bw : _ := Bw.cell 2 _ rfl
  replace q3Bw : _ := Bw.cell 3 _ rfl
  replace Sx2 := Sx2.next hb
  replace Rg := Rg.next hb
  replace Bg := Bg.next hb
  replace q0Bg : _ := Bg.cell 0 _ rfl
  replace q1Bg : _ := Bg.cell 1 _ rfl
  replace q2Bg : _ := Bg.cell 2 _ rfl
  replace q3Bg : _ := Bg.cell 3 _ rfl
  replace Sy2 := Sy2.next hb
  clear hb h11 xx0k11 xx1k11
  clear Sy2
  have l8 := Rg.small
  go_wp2_with fail
  refine (markSS_rs Sx2 1 (by omega)).mono ?_
  rintro e w13 ⟨rfl, hC, -⟩
  clear Sx2
  have h13 := h12.chg hC (by have := Z1.out; have := Z2.out; have := Z3.out; have := Z4.out; have := Z5.out; have := Z6.out; have := Z7.out; have := Z8.out; have := Z9.out; have := Z10.out; have := Z11.out; have := Z12.out; have := Y5.out; have := Y9.out; omega)
  have xx0k13 : _ := h13.x.cell 0 _ rfl
  have xx1k13 : _ := h13.x.cell 1 _ rfl
  have Z13 := Lib.hid hC.size
  replace Rw := Rw.chg hC (by have := Z1.out; have := Z2.out; have := Z3.out; have := Z4.out; have := Z5.out; have := Z6.out; have := Z7.out; have := Z8.out; have := Z9.out; have := Z10.out; have := Z11.out; have := Z12.out; have := Y5.out; have := Y9.out; omega)
  replace Bw := Bw.chg hC (by have := Z1.out; have := Z2.out; have := Z3.out; have := Z4.out; have := Z5.out; have := Z6.out; have := Z7.out; have := Z8.out; have := Z9.out; have := Z10.out; have := Z11.out; have := Z12.out; have := Y5.out; have := Y9.out; omega)
  replace q0Bw : _ := Bw.cell 0 _ rfl
  replace q1Bw : _ := Bw.cell 1 _ rfl
  replace q2Bw : _ := Bw.cell 2 _ rfl
  replace q3Bw : _ := Bw.cell 3 _ rfl
  replace Rg := Rg.chg hC (by have := Z1.out; have := Z2.out; have := Z3.out; have := Z4.out; have := Z5.out; have := Z6.out; have := Z7.out; have := Z8.out; have := Z9.out; have := Z10.out; have := Z11.out; have := Z12.out; have := Y5.out; have := Y9.out; omega)
  replace Bg := Bg.chg hC (by have := Z1.out; have := Z2.out; have := Z3.out; have := Z4.out; have := Z5.out; have := Z6.out; have := Z7.out; have := Z8.out; have := Z9.out; have := Z10.out; have := Z11.out; have := Z12.out; have := Y5.out; have := Y9.out; omega)
  replace q0Bg : _ := Bg.cell 0 _ rfl
  replace q1Bg : _ := Bg.cell 1 _ rfl
  replace q2Bg : _ := Bg.cell 2 _ rfl
  replace q3Bg : _ := Bg.cell 3 _ rfl
  clear hC h12 xx0k12 xx1k12
  generalize hk : 1 + total z2 = k1
  have hk1 : k1 ≤ 1048577 := by omega
  clear hk
  go_wp2_with fail
  refine (eqCode_rr r1 r2 r3 Rg.rr Rw.rr).mono ?_
  rintro e w14 ⟨rfl, hb⟩
  have h14 := h13.next hb
  have xx0k14 : _ := h14.x.cell 0 _ rfl
  have xx1k14 : _ := h14.x.cell 1 _ rfl
  have Z14 := Lib.hid hb.size
  replace Rw := Rw.next hb
  replace Bw := Bw.next hb
  replace q0Bw : _ := Bw.cell 0 _ rfl
  replace q1Bw : _ := Bw.cell 1 _ rfl
  replace q2Bw : _ := Bw.cell 2 _ rfl
  replace q3Bw : _ := Bw.cell 3 _ rfl
  replace Rg := Rg.next hb
  replace Bg := Bg.next hb
  replace q0Bg : _ := Bg.cell 0 _ rfl
  replace q1Bg : _ := Bg.cell 1 _ rfl
  replace q2Bg : _ := Bg.cell 2 _ rfl
  replace q3Bg : _ := Bg.cell 3 _ rfl
  clear hb h13 xx0k13 xx1k13
  go_wp2_with fail
  refine (markCode_rs r1 r2 r3 Rg 1 (by omega)).mono ?_
  rintro e w15 ⟨rfl, hC, HM⟩
  clear Rg
  have h15 := h14.chg hC (by have := Z1.out; have := Z2.out; have := Z3.out; have := Z4.out; have := Z5.out; have := Z6.out; have := Z7.out; have := Z8.out; have := Z9.out; have := Z10.out; have := Z11.out; have := Z12.out; have := Z13.out; have := Z14.out; have := Y5.out; have := Y9.out; omega)
  have xx0k15 : _ := h15.x.cell 0 _ rfl
  have xx1k15 : _ := h15.x.cell 1 _ rfl
  have Z15 := Lib.hid hC.size
  replace Rw := Rw.chg hC (by have := Z1.out; have := Z2.out; have := Z3.out; have := Z4.out; have := Z5.out; have := Z6.out; have := Z7.out; have := Z8.out; have := Z9.out; have := Z10.out; have := Z11.out; have := Z12.out; have := Z13.out; have := Z14.out; have := Y5.out; have := Y9.out; omega)
  replace Bw := Bw.chg hC (by have := Z1.out; have := Z2.out; have := Z3.out; have := Z4.out; have := Z5.out; have := Z6.out; have := Z7.out; have := Z8.out; have := Z9.out; have := Z10.out; have := Z11.out; have := Z12.out; have := Z13.out; have := Z14.out; have := Y5.out; have := Y9.out; omega)
  replace q0Bw : _ := Bw.cell 0 _ rfl
  replace q1Bw : _ := Bw.cell 1 _ rfl
  replace q2Bw : _ := Bw.cell 2 _ rfl
  replace q3Bw : _ := Bw.cell 3 _ rfl
  replace Bg := Bg.chg hC (by have := Z1.out; have := Z2.out; have := Z3.out; have := Z4.out; have := Z5.out; have := Z6.out; have := Z7.out; have := Z8.out; have := Z9.out; have := Z10.out; have := Z11.out; have := Z12.out; have := Z13.out; have := Z14.out; have := Y5.out; have := Y9.out; omega)
  replace q0Bg : _ := Bg.cell 0 _ rfl
  replace q1Bg : _ := Bg.cell 1 _ rfl
  replace q2Bg : _ := Bg.cell 2 _ rfl
  replace q3Bg : _ := Bg.cell 3 _ rfl
  clear hC h14 xx0k14 xx1k14
  go_wp2_with fail
  refine (heldCode_rs r1 r2 r3 1 HM (by omega)).mono ?_
  rintro e w16 ⟨rfl, hb⟩
  have h16 := h15.next hb
  have xx0k16 : _ := h16.x.cell 0 _ rfl
  have xx1k16 : _ := h16.x.cell 1 _ rfl
  have Z16 := Lib.hid hb.size
  replace Rw := Rw.next hb
  replace Bw := Bw.next hb
  replace q0Bw : _ := Bw.cell 0 _ rfl
  replace q1Bw : _ := Bw.cell 1 _ rfl
  replace q2Bw : _ := Bw.cell 2 _ rfl
  replace q3Bw : _ := Bw.cell 3 _ rfl
  replace Bg := Bg.next hb
  replace q0Bg : _ := Bg.cell 0 _ rfl
  replace q1Bg : _ := Bg.cell 1 _ rfl
  replace q2Bg : _ := Bg.cell 2 _ rfl
  replace q3Bg : _ := Bg.cell 3 _ rfl
  replace HM := HM.next hb
  clear hb h15 xx0k15 xx1k15
  go_wp2_with fail
  refine (toField_any d0 p0 _).mono ?_
  rintro e w17 ⟨rfl, hb⟩
  have h17 := h16.next hb
  have xx0k17 : _ := h17.x.cell 0 _ rfl
  have xx1k17 : _ := h17.x.cell 1 _ rfl
  have Z17 := Lib.hid hb.size
  replace Rw := Rw.next hb
  replace Bw := Bw.next hb
  replace q0Bw : _ := Bw.cell 0 _ rfl
  replace q1Bw : _ := Bw.cell 1 _ rfl
  replace q2Bw : _ := Bw.cell 2 _ rfl
  replace q3Bw : _ := Bw.cell 3 _ rfl
  replace Bg := Bg.next hb
  replace q0Bg : _ := Bg.cell 0 _ rfl
  replace q1Bg : _ := Bg.cell 1 _ rfl
  replace q2Bg : _ := Bg.cell 2 _ rfl
  replace q3Bg : _ := Bg.cell 3 _ rfl
  replace HM := HM.next hb
  clear hb h16 xx0k16 xx1k16
  go_wp2_with fail
  refine (toInt64SS_any a2 n2 cap2 z2 _ (h2S.below h17.b) hn2).mono ?_
  rintro e w18 ⟨gt2, rfl, get2, hb, St2⟩
  clear get2
  have h18 := h17.next hb
  have xx0k18 : _ := h18.x.cell 0 _ rfl
  have xx1k18 : _ := h18.x.cell 1 _ rfl
  have Z18 := Lib.hid hb.size
  replace Rw := Rw.next hb
  replace Bw := Bw.next hb
  replace q0Bw : _ := Bw.cell 0 _ rfl
  replace q1Bw : _ := Bw.cell 1 _ rfl
  replace q2Bw : _ := Bw.cell 2 _ rfl
  replace q3Bw : _ := Bw.cell 3 _ rfl
  replace Bg := Bg.next hb
  replace q0Bg : _ := Bg.cell 0 _ rfl
  replace q1Bg : _ := Bg.cell 1 _ rfl
  replace q2Bg : _ := Bg.cell 2 _ rfl
  replace q3Bg : _ := Bg.cell 3 _ rfl
  replace HM := HM.next hb
  clear hb h17 xx0k17 xx1k17
  go_wp2_with fail
  have S := implCodeOf_any d0 p0 a1 (.slice (some ⟨gt2, 0, none⟩) n2 n2) z2 _ hl hh St2.rr
  rw [HR.out] at S
  try dsimp only at S
  refine S.mono ?_
  clear S
  rintro e w19 ⟨vh, rfl, hb, Rh⟩
  have h19 := h18.next hb
  have xx0k19 : _ := h19.x.cell 0 _ rfl
  have xx1k19 : _ := h19.x.cell 1 _ rfl
  have Z19 := Lib.hid hb.size
  replace Rw := Rw.next hb
  replace Bw := Bw.next hb
  replace q0Bw : _ := Bw.cell 0 _ rfl
  replace q1Bw : _ := Bw.cell 1 _ rfl
  replace q2Bw : _ := Bw.cell 2 _ rfl
  replace q3Bw : _ := Bw.cell 3 _ rfl
  replace Bg := Bg.next hb
  replace q0Bg : _ := Bg.cell 0 _ rfl
  replace q1Bg : _ := Bg.cell 1 _ rfl
  replace q2Bg : _ := Bg.cell 2 _ rfl
  replace q3Bg : _ := Bg.cell 3 _ rfl
  replace HM := HM.next hb
  replace St2 := St2.next hb
  clear hb h18 xx0k18 xx1k18
  obtain ⟨aoh, coh, rfl⟩ := Rh.is
  have hb := below_alloc1 w19 (.cells (codL r1 r2 r3 (.slice aoh r4.length coh)).toArray 36)
  have nBh := LB.one w19 (codL r1 r2 r3 (.slice aoh r4.length coh)) 36
  have h20 := h19.next hb
  have xx0k20 : _ := h20.x.cell 0 _ rfl
  have xx1k20 : _ := h20.x.cell 1 _ rfl
  have Z20 := Lib.hid hb.size
  replace Rw := Rw.next hb
  replace Bw := Bw.next hb
  replace q0Bw : _ := Bw.cell 0 _ rfl
  replace q1Bw : _ := Bw.cell 1 _ rfl
  replace q2Bw : _ := Bw.cell 2 _ rfl
  replace q3Bw : _ := Bw.cell 3 _ rfl
  replace Bg := Bg.next hb
  replace q0Bg : _ := Bg.cell 0 _ rfl
  replace q1Bg : _ := Bg.cell 1 _ rfl
  replace q2Bg : _ := Bg.cell 2 _ rfl
  replace q3Bg : _ := Bg.cell 3 _ rfl
  replace HM := HM.next hb
  replace St2 := St2.next hb
  replace Rh := Rh.next hb
  clear hb h19 xx0k19 xx1k19
  have Y20 := Lib.hid (show w19.heap.size + 1 ≤ (w19.alloc (.cells (codL r1 r2 r3 (.slice aoh r4.length coh)).toArray 36)).heap.size by simp)
  have Bh := nBh; clear nBh
  have q0Bh : _ := Bh.cell 0 _ rfl
  have q1Bh : _ := Bh.cell 1 _ rfl
  have q2Bh : _ := Bh.cell 2 _ rfl
  have q3Bh : _ := Bh.cell 3 _ rfl
  clear St2
  go_wp2_with fail
  refine (eqCode_rr r1 r2 r3 Rh.rr Rw.rr).mono ?_
  rintro e w21 ⟨rfl, hb⟩
  have h21 := h20.next hb
  have xx0k21 : _ := h21.x.cell 0 _ rfl
  have xx1k21 : _ := h21.x.cell 1 _ rfl
  have Z21 := Lib.hid hb.size
  replace Rw := Rw.next hb
  replace Bw := Bw.next hb
  replace q0Bw : _ := Bw.cell 0 _ rfl
  replace q1Bw : _ := Bw.cell 1 _ rfl
  replace q2Bw : _ := Bw.cell 2 _ rfl
  replace q3Bw : _ := Bw.cell 3 _ rfl
  replace Bg := Bg.next hb
  replace q0Bg : _ := Bg.cell 0 _ rfl
  replace q1Bg : _ := Bg.cell 1 _ rfl
  replace q2Bg : _ := Bg.cell 2 _ rfl
  replace q3Bg : _ := Bg.cell 3 _ rfl
  replace HM := HM.next hb
  replace Rh := Rh.next hb
  replace Bh := Bh.next hb
  replace q0Bh : _ := Bh.cell 0 _ rfl
  replace q1Bh : _ := Bh.cell 1 _ rfl
  replace q2Bh : _ := Bh.cell 2 _ rfl
  replace q3Bh : _ := Bh.cell 3 _ rfl
  clear hb h20 xx0k20 xx1k20
  go_wp2_with fail
  refine (heldCode_rs r1 r2 r3 1 HM (by omega)).mono ?_
  rintro e w22 ⟨rfl, hb⟩
  have h22 := h21.next hb
  have xx0k22 : _ := h22.x.cell 0 _ rfl
  have xx1k22 : _ := h22.x.cell 1 _ rfl
  have Z22 := Lib.hid hb.size
  replace Rw := Rw.next hb
  replace Bw := Bw.next hb
  replace q0Bw : _ := Bw.cell 0 _ rfl
  replace q1Bw : _ := Bw.cell 1 _ rfl
  replace q2Bw : _ := Bw.cell 2 _ rfl
  replace q3Bw : _ := Bw.cell 3 _ rfl
  replace Bg := Bg.next hb
  replace q0Bg : _ := Bg.cell 0 _ rfl
  replace q1Bg : _ := Bg.cell 1 _ rfl
  replace q2Bg : _ := Bg.cell 2 _ rfl
  replace q3Bg : _ := Bg.cell 3 _ rfl
  replace HM := HM.next hb
  replace Rh := Rh.next hb
  replace Bh := Bh.next hb
  replace q0Bh : _ := Bh.cell 0 _ rfl
  replace q1Bh : _ := Bh.cell 1 _ rfl
  replace q2Bh : _ := Bh.cell 2 _ rfl
  replace q3Bh : _ := Bh.cell 3 _ rfl
  clear hb h21 xx0k21 xx1k21
  go_wp2_with fail
  go_ret
  exact ⟨rfl, h22.b⟩

set_option maxRecDepth 100000 in
theorem lifted (os : Os) (started : os.Started) (H : Type) (enc : TypeId × Value → H) :
    ReturnsInHanded {} Try.checked os 5 .any (Rows.fnExactCodeOfSpec.pre6 enc Try.prog Try.f5 Rows.fnExactCodeOfRow.domain false) (Rows.fnExactCodeOfSpec.post enc Try.prog Try.f5 false true false false) := by
  refine returnsInHanded_of_change (C := Try.checked) own started (by kernel_rfl) Try.func5
    (ChangeSpec.witness6 (enc := enc) (C := Try.checked) false ⟨#[], #[.agg #[.int .i64 0, .int .i64 0], .int .i64 0, .slice none 0 0], []⟩ 8 (by kernel_rfl) (by kernel_rfl) (by kernel_rfl) (by kernel_rfl)) ?_
  intro W base args ds gs before hval0 hW hcnd _
  have hval : ∀ (j : Nat) t v, Try.f5.params[j]? = some t → args[j]? = some v → Value.okWide Try.prog W .any base t v := hval0
  have hW' := hW
  obtain ⟨p, q, hA0, hV, rfl, hfz, hnd⟩ := hW
  have hA : DataW.TrodAll enc Try.prog W 0 (fun _ => true) true Try.f5.params.toList args.toList ds p := hA0
  rw [Try.params5] at hA hval
  obtain ⟨v0, vs0, dd0, ds0, pp0, qq0, hargs, rfl, rfl, h0, r0⟩ := trodAll_cons hA
  obtain ⟨v1, vs1, dd1, ds1, pp1, qq1, rfl, rfl, rfl, h1, r1⟩ := trodAll_cons r0
  obtain ⟨v2, vs2, dd2, ds2, pp2, qq2, rfl, rfl, rfl, h2, r2⟩ := trodAll_cons r1
  obtain ⟨rfl, rfl, rfl⟩ := trodAll_nil r2
  obtain rfl : args = #[v0, v1, v2] := by cases args; simp_all
  obtain ⟨rfl, rfl⟩ := trodVars_none hV
  have k0 := h0
  have lt0 : ∀ x ∈ pp0, x.block < W.heap.size := by obtain ⟨m, hm⟩ := k0; exact DataW.trod_lt m _ _ _ hm
  obtain ⟨c0, e0, y0, z0, m0, rfl, rfl, rfl, hy0, hz0⟩ := open_agg2 Try.underlying23 (by kernel_rfl) cellsField (hval 0 23 v0 rfl rfl) h0
  obtain ⟨d0, ed0, rfl, wd0⟩ := DataW.trod_int Try.underlying2 hy0
  obtain ⟨p0, ep0, rfl, wp0⟩ := DataW.trod_int Try.underlying2 hz0
  simp at ed0 ep0; subst ed0 ep0
  have k1 := h1
  have lt1 : ∀ x ∈ pp1, x.block < W.heap.size := by obtain ⟨m, hm⟩ := k1; exact DataW.trod_lt m _ _ _ hm
  obtain ⟨a1, rfl, rfl, rfl, w1⟩ := open_int Try.underlying2 (hval 1 2 v1 rfl rfl) h1
  have k2 := h2
  have lt2 : ∀ x ∈ pp2, x.block < W.heap.size := by obtain ⟨m, hm⟩ := k2; exact DataW.trod_lt m _ _ _ hm
  obtain ⟨a2, n2, cap2, rfl⟩ := okWide_slice Try.underlying24 (hval 2 24 v2 rfl rfl)
  obtain ⟨z2, w2⟩ : ∃ z, ArgS W a2 n2 z := by
    obtain ⟨fuel, hf⟩ := h2
    obtain ⟨A, k, c, z, e, w⟩ := args_open (v := .slice a2 n2 cap2) hf
    injection e with e1 e2 e3
    subst e1 e2 e3
    exact ⟨z, w⟩
  clear hA0 hval0
  refine (walk d0 p0 wd0 wp0 a1 w1 a2 n2 cap2 z2 W w2).mono fun e W' ⟨he, bel⟩ => ?_
  subst he
  exact ⟨_, rfl, _, _, _, [], _, [], hW', trodAll_mk1 (shut_bool Try.underlying4 _), (trodAll_cons_mk (Below.trod laidOut (by kernel_rfl) (of_decide_eq_true (by kernel_rfl)) k0 bel lt0) (trodAll_cons_mk (Below.trod laidOut (by kernel_rfl) (of_decide_eq_true (by kernel_rfl)) k1 bel lt1) (trodAll_cons_mk (Below.trod laidOut (by kernel_rfl) (of_decide_eq_true (by kernel_rfl)) k2 bel lt2) trodAll_mk0))), rfl, bel.frame _, fun h => by cases h⟩

theorem over : Rows.fnExactCodeOfRow.holds Try.pinned (OpenSpec.ofChange Rows.fnExactCodeOfSpec) :=
  OpenClaim.holds_of_wide 5 Try.f5 rfl rfl rfl rfl rfl rfl rfl ⟨rfl, rfl, rfl, rfl, rfl⟩ rfl rfl rfl rfl rfl (by kernel_rfl) Try.func5 (by kernel_rfl)
    (of_decide_eq_true (by kernel_rfl)) (by unfold Func.isWrapper; first | (rw [if_pos (by decide +kernel)]; kernel_rfl) | (rw [if_neg (by decide +kernel)]; exact ⟨rfl, rfl⟩))
    (fun os started H enc _ => lifted os started H enc)

theorem proved : Rows.FnExactCodeOfSaid :=
  over
#print axioms proved
end Go.Proofs.Ytfpahdbkcdpchaa.fnExactCodeOf
