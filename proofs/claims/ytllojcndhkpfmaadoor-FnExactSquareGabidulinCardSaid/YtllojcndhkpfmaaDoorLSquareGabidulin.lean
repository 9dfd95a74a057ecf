/- FnExactSquareGabidulin: for every input the law returns true, and every argument reads afterwards as it read before. No condition. -/
import Derived.Test.YtllojcndhkpfmaaDoorRows
import Derived.WalkKit
import Derived.ProofKit
import Derived.OpenShut
import Derived.ChangeOld
import Derived.Below
import Derived.Lib.SmallJoins
import Derived.Test.YtllojcndhkpfmaaDoorSquareGabidulin
import Derived.Test.YtllojcndhkpfmaaDoorGabArg
import Derived.Test.YtllojcndhkpfmaaDoorMtRes
import Derived.Test.YtllojcndhkpfmaaDoorArg
import Derived.Test.YtllojcndhkpfmaaDoorToField
import Derived.Test.YtllojcndhkpfmaaDoorThird
import Derived.Test.YtllojcndhkpfmaaDoorRow
import Derived.Test.YtllojcndhkpfmaaDoorRes
import Derived.Test.YtllojcndhkpfmaaDoorStep
import Derived.Test.YtllojcndhkpfmaaDoorLaid
import Derived.Test.YtllojcndhkpfmaaDoorTie
import Derived.Test.YtllojcndhkpfmaaDoorCards
import Derived.SevenTiedAt
namespace Go.Proofs.YtllojcndhkpfmaaDoor.fnExactSquareGabidulin
open Go.ChangeShapes Go.WideShapes Go.ChangeAt Go.RowKit Go.Joins
set_option linter.unusedVariables false

theorem own : ownKnob Tryd.prog.godebug = none := by kernel_rfl
theorem laidOut : laidOutB Tryd.prog = true := by kernel_rfl

set_option maxRecDepth 100000 in
set_option maxHeartbeats 12800000 in
theorem walk (d0 p0 kk0 : Int) (wd0 : (Lit.int .i64 d0).wf = true) (wp0 : (Lit.int .i64 p0).wf = true) (wk0 : (Lit.int .i64 kk0).wf = true) (a0 : Option Addr) (n0 cap0 : Nat) (z0 : List Int) (a1 : Int) (w1 : (Lit.int .i64 a1).wf = true) (w : World) (hT : Tab w) (h0A : Arg w a0 n0 z0) :
    Calls Tryd.prog 3 #[.agg (gabC d0 p0 (.slice a0 n0 cap0) kk0), .int .i64 a1] w fun e w' => e = .returned (.bool true) ∧ Below w.heap.size w w' := by
  obtain ⟨hl, hh⟩ := bounds_i64 wp0
  have HT := Lib.hid hT
  clear hT
  have big0 := h0A.big
  have l0 := h0A.len
  by_cases hn0 : n0 ≤ 1048576
  rotate_left
  ·
    go_enter Tryd.func3, Tryd.ntmps3
    have h0 := G4.start w d0 p0 (.slice a0 n0 cap0) kk0 26
    have x0 := h0.x.c0; have y0 := h0.x.c1; have u0 := h0.x.c2; have v0 := h0.x.c3
    go_wp2_with fail
    refine (szGab_no d0 p0 kk0 a0 n0 cap0 (by omega) 1048576 (by omega) (by omega) (by omega) _).mono ?_
    rintro e w1 ⟨rfl, hb⟩
    have hb1 := (h0.next hb).b
    clear hb
    go_wp2_with fail
    go_ret
    exact ⟨rfl, hb1⟩
  obtain ⟨r, hr⟩ : ∃ r, fSquareGabidulin d0 p0 z0 kk0 a1 = r := ⟨_, rfl⟩
  have HR := Lib.hid hr
  clear hr
  obtain ⟨r1, r2, r3, r4, r5⟩ := r
  go_enter Tryd.func3, Tryd.ntmps3
  have h0 := G4.start w d0 p0 (.slice a0 n0 cap0) kk0 26
  have x0 := h0.x.c0; have y0 := h0.x.c1; have u0 := h0.x.c2; have v0 := h0.x.c3
  go_wp2_with fail
  refine (szGab_ok d0 p0 kk0 a0 n0 cap0 1048576 (by omega) (by omega) _).mono ?_
  rintro e w1 ⟨rfl, hb⟩
  have h1 := h0.next hb
  have x1 := h1.x.c0; have y1 := h1.x.c1; have u1 := h1.x.c2; have v1 := h1.x.c3
  have Z1 := Lib.hid h1.z
  clear hb h0 x0 y0 u0 v0
  go_wp2_with fail
  refine (toGab_any d0 p0 kk0 a0 n0 cap0 z0 _ (h0A.from h1.b) hn0).mono ?_
  rintro e w2 ⟨bs, rfl, ges, hb, Ms⟩
  have h2 := h1.next hb
  have x2 := h2.x.c0; have y2 := h2.x.c1; have u2 := h2.x.c2; have v2 := h2.x.c3
  have Z2 := Lib.hid hb.size
  clear hb h1 x1 y1 u1 v1
  have Rs := Ms.res (cap := n0) ges
  clear ges
  go_wp2_with fail
  have S := specSquareGabidulin_any d0 p0 kk0 bs n0 n0 z0 a1 _ Ms
  rw [HR.out] at S
  dsimp only at S
  refine S.mono ?_
  clear S
  rintro e w3 ⟨vw, rfl, hb, Rw⟩
  have h3 := h2.next hb
  have x3 := h3.x.c0; have y3 := h3.x.c1; have u3 := h3.x.c2; have v3 := h3.x.c3
  have Z3 := Lib.hid hb.size
  replace Ms := Ms.below hb
  replace Rs := Rs.next hb
  clear hb h2 x2 y2 u2 v2
  obtain ⟨aow, mow, cow, rfl⟩ := Rw.form
  have hb := below_alloc1 w3 (.cells #[.int .i64 r1, .int .i64 r2, (.slice aow mow cow), .int .i64 r4] 30)
  have nBw := Box4.one w3 (.int .i64 r1) (.int .i64 r2) (.slice aow mow cow) (.int .i64 r4) 30
  have h4 := h3.next hb
  have x4 := h4.x.c0; have y4 := h4.x.c1; have u4 := h4.x.c2; have v4 := h4.x.c3
  have Z4 := Lib.hid hb.size
  replace Ms := Ms.below hb
  replace Rs := Rs.next hb
  replace Rw := Rw.next hb
  clear hb h3 x3 y3 u3 v3
  have Y4 := Lib.hid (show w3.heap.size + 1 ≤ (w3.alloc (.cells #[.int .i64 r1, .int .i64 r2, (.slice aow mow cow), .int .i64 r4] 30)).heap.size by simp)
  have Bw := nBw; clear nBw
  have q0Bw : _ := Bw.c0
  have q1Bw : _ := Bw.c1
  have q2Bw : _ := Bw.c2
  have q3Bw : _ := Bw.c3
  clear Ms
  clear Rs
  go_wp2_with fail
  refine (toGab_any d0 p0 kk0 a0 n0 cap0 z0 _ (h0A.from h4.b) hn0).mono ?_
  rintro e w5 ⟨bx, rfl, gex, hb, Mx⟩
  have h5 := h4.next hb
  have x5 := h5.x.c0; have y5 := h5.x.c1; have u5 := h5.x.c2; have v5 := h5.x.c3
  have Z5 := Lib.hid hb.size
  replace Rw := Rw.next hb
  replace Bw := Bw.next hb
  replace q0Bw : _ := Bw.c0
  replace q1Bw : _ := Bw.c1
  replace q2Bw : _ := Bw.c2
  replace q3Bw : _ := Bw.c3
  clear hb h4 x4 y4 u4 v4
  have Rx := Mx.res (cap := n0) gex
  clear gex
  have hb := below_alloc1 w5 (.cells #[.int .i64 d0, .int .i64 p0, (.slice (some ⟨bx, 0, none⟩) n0 n0), .int .i64 kk0] 30)
  have nBx := Box4.one w5 (.int .i64 d0) (.int .i64 p0) (.slice (some ⟨bx, 0, none⟩) n0 n0) (.int .i64 kk0) 30
  have h6 := h5.next hb
  have x6 := h6.x.c0; have y6 := h6.x.c1; have u6 := h6.x.c2; have v6 := h6.x.c3
  have Z6 := Lib.hid hb.size
  replace Rw := Rw.next hb
  replace Bw := Bw.next hb
  replace q0Bw : _ := Bw.c0
  replace q1Bw : _ := Bw.c1
  replace q2Bw : _ := Bw.c2
  replace q3Bw : _ := Bw.c3
  replace Mx := Mx.below hb
  replace Rx := Rx.next hb
  clear hb h5 x5 y5 u5 v5
  have Y6 := Lib.hid (show w5.heap.size + 1 ≤ (w5.alloc (.cells #[.int .i64 d0, .int .i64 p0, (.slice (some ⟨bx, 0, none⟩) n0 n0), .int .i64 kk0] 30)).heap.size by simp)
  have Bx := nBx; clear nBx
  have q0Bx : _ := Bx.c0
  have q1Bx : _ := Bx.c1
  have q2Bx : _ := Bx.c2
  have q3Bx : _ := Bx.c3
  go_wp2_with fail
  have S := implSquareGabidulin_any d0 p0 kk0 bx n0 n0 z0 a1 _ hl hh Mx (HT.out.below h6.b)
  rw [HR.out] at S
  dsimp only at S
  refine S.mono ?_
  clear S
  rintro e w7 ⟨vg, rfl, hb, Rg⟩
  have h7 := h6.next hb
  have x7 := h7.x.c0; have y7 := h7.x.c1; have u7 := h7.x.c2; have v7 := h7.x.c3
  have Z7 := Lib.hid hb.size
  replace Rw := Rw.next hb
  replace Bw := Bw.next hb
  replace q0Bw : _ := Bw.c0
  replace q1Bw : _ := Bw.c1
  replace q2Bw : _ := Bw.c2
  replace q3Bw : _ := Bw.c3
  replace Mx := Mx.below hb
  replace Rx := Rx.next hb
  replace Bx := Bx.next hb
  replace q0Bx : _ := Bx.c0
  replace q1Bx : _ := Bx.c1
  replace q2Bx : _ := Bx.c2
  replace q3Bx : _ := Bx.c3
  clear hb h6 x6 y6 u6 v6
  obtain ⟨aog, mog, cog, rfl⟩ := Rg.form
  have hb := below_alloc1 w7 (.cells #[.int .i64 r1, .int .i64 r2, (.slice aog mog cog), .int .i64 r4] 30)
  have nBg := Box4.one w7 (.int .i64 r1) (.int .i64 r2) (.slice aog mog cog) (.int .i64 r4) 30
  have h8 := h7.next hb
  have x8 := h8.x.c0; have y8 := h8.x.c1; have u8 := h8.x.c2; have v8 := h8.x.c3
  have Z8 := Lib.hid hb.size
  replace Rw := Rw.next hb
  replace Bw := Bw.next hb
  replace q0Bw : _ := Bw.c0
  replace q1Bw : _ := Bw.c1
  replace q2Bw : _ := Bw.c2
  replace q3Bw : _ := Bw.c3
  replace Mx := Mx.below hb
  replace Rx := Rx.next hb
  replace Bx := Bx.next hb
  replace q0Bx : _ := Bx.c0
  replace q1Bx : _ := Bx.c1
  replace q2Bx : _ := Bx.c2
  replace q3Bx : _ := Bx.c3
  replace Rg := Rg.next hb
  clear hb h7 x7 y7 u7 v7
  have Y8 := Lib.hid (show w7.heap.size + 1 ≤ (w7.alloc (.cells #[.int .i64 r1, .int .i64 r2, (.slice aog mog cog), .int .i64 r4] 30)).heap.size by simp)
  have Bg := nBg; clear nBg
  have q0Bg : _ := Bg.c0
  have q1Bg : _ := Bg.c1
  have q2Bg : _ := Bg.c2
  have q3Bg : _ := Bg.c3
  clear Mx
  go_wp2_with fail
  refine (eqGab_res r1 r2 r4 Rg Rw).mono ?_
  rintro e w9 ⟨rfl, hb⟩
  have h9 := h8.next hb
  have x9 := h9.x.c0; have y9 := h9.x.c1; have u9 := h9.x.c2; have v9 := h9.x.c3
  have Z9 := Lib.hid hb.size
  replace Rw := Rw.next hb
  replace Bw := Bw.next hb
  replace q0Bw : _ := Bw.c0
  replace q1Bw : _ := Bw.c1
  replace q2Bw : _ := Bw.c2
  replace q3Bw : _ := Bw.c3
  replace Rx := Rx.next hb
  replace Bx := Bx.next hb
  replace q0Bx : _ := Bx.c0
  replace q1Bx : _ := Bx.c1
  replace q2Bx : _ := Bx.c2
  replace q3Bx : _ := Bx.c3
  replace Rg := Rg.next hb
  replace Bg := Bg.next hb
  replace q0Bg : _ := Bg.c0
  replace q1Bg : _ := Bg.c1
  replace q2Bg : _ := Bg.c2
  replace q3Bg : _ := Bg.c3
  clear hb h8 x8 y8 u8 v8
  have HD := Lib.hid h9.drew
  have ORw := Lib.hid (Rw.next (Below.refl _ w9).drew)
  have OBw := Lib.hid (Bw.next (Below.refl _ w9).drew)
  have ORx := Lib.hid (Rx.next (Below.refl _ w9).drew)
  have OBx := Lib.hid (Bx.next (Below.refl _ w9).drew)
  have ORg := Lib.hid (Rg.next (Below.refl _ w9).drew)
  have OBg := Lib.hid (Bg.next (Below.refl _ w9).drew)
  go_wp2_with fail
  go_region_law (go_simp; go_wp2_with (first | (go_at_call 6; refine (toGab_any d0 p0 kk0 a0 n0 cap0 z0 _ (h0A.from HD.out.b) hn0).mono ?_; rintro e w10 ⟨b7, rfl, ge7, hb, M7⟩; have H7 := Lib.hid (HD.out.next hb); have PRw := Lib.hid (ORw.out.next hb); have PBw := Lib.hid (OBw.out.next hb); have PRx := Lib.hid (ORx.out.next hb); have PBx := Lib.hid (OBx.out.next hb); have PRg := Lib.hid (ORg.out.next hb); have PBg := Lib.hid (OBg.out.next hb); have RY := Lib.hid (M7.res (cap := n0) ge7); have m0 := PBx.out.c0; have m1 := PBx.out.c1; have m2 := PBx.out.c2; have m3 := PBx.out.c3; have Z10 := Lib.hid (show w9.heap.size ≤ w10.heap.size from hb.size); clear hb ge7 M7) | (go_at_call 8; refine (eqGab_res d0 p0 kk0 PRx.out RY.out).mono ?_; rintro e w11 ⟨rfl, hb⟩; have H8 := Lib.hid (H7.out.next hb); have QRw := Lib.hid (PRw.out.next hb); have QBw := Lib.hid (PBw.out.next hb); have QRx := Lib.hid (PRx.out.next hb); have QBx := Lib.hid (PBx.out.next hb); have QRg := Lib.hid (PRg.out.next hb); have QBg := Lib.hid (PBg.out.next hb); have Z11 := Lib.hid hb.size; clear hb)))
  all_goals
    have h11 := H8.out
    clear x9 y9 u9 v9 m0 m1 m2 m3
    have x11 := h11.x.c0; have y11 := h11.x.c1; have u11 := h11.x.c2; have v11 := h11.x.c3
    replace Rw := QRw.out
    replace Bw := QBw.out
    replace q0Bw : _ := Bw.c0
    replace q1Bw : _ := Bw.c1
    replace q2Bw : _ := Bw.c2
    replace q3Bw : _ := Bw.c3
    replace Rx := QRx.out
    replace Bx := QBx.out
    replace q0Bx : _ := Bx.c0
    replace q1Bx : _ := Bx.c1
    replace q2Bx : _ := Bx.c2
    replace q3Bx : _ := Bx.c3
    replace Rg := QRg.out
    replace Bg := QBg.out
    replace q0Bg : _ := Bg.c0
    replace q1Bg : _ := Bg.c1
    replace q2Bg : _ := Bg.c2
    replace q3Bg : _ := Bg.c3
    clear ORw PRw QRw OBw PBw QBw ORx PRx QRx OBx PBx QBx ORg PRg QRg OBg PBg QBg HD H7 H8 RY
    have l8 := Rg.small
    go_wp2_with fail
    refine (markGab_res d0 p0 kk0 Rx (1) (by omega) (by omega)).mono ?_
    rintro e w12 ⟨rfl, hC⟩
    have h12 := h11.chg hC (by have := Z1.out; have := Z2.out; have := Z3.out; have := Z4.out; have := Z5.out; have := Z6.out; have := Z7.out; have := Z8.out; have := Z9.out; have := Z10.out; have := Z11.out; have := Y4.out; have := Y6.out; have := Y8.out; omega)
    have x12 := h12.x.c0; have y12 := h12.x.c1; have u12 := h12.x.c2; have v12 := h12.x.c3
    have Z12 := Lib.hid hC.size
    replace Rw := Rw.chg hC (by have := Z1.out; have := Z2.out; have := Z3.out; have := Z4.out; have := Z5.out; have := Z6.out; have := Z7.out; have := Z8.out; have := Z9.out; have := Z10.out; have := Z11.out; have := Y4.out; have := Y6.out; have := Y8.out; omega)
    replace Bw := Bw.chg hC (by have := Z1.out; have := Z2.out; have := Z3.out; have := Z4.out; have := Z5.out; have := Z6.out; have := Z7.out; have := Z8.out; have := Z9.out; have := Z10.out; have := Z11.out; have := Y4.out; have := Y6.out; have := Y8.out; omega)
    replace q0Bw : _ := Bw.c0
    replace q1Bw : _ := Bw.c1
    replace q2Bw : _ := Bw.c2
    replace q3Bw : _ := Bw.c3
    replace Bx := Bx.chg hC (by have := Z1.out; have := Z2.out; have := Z3.out; have := Z4.out; have := Z5.out; have := Z6.out; have := Z7.out; have := Z8.out; have := Z9.out; have := Z10.out; have := Z11.out; have := Y4.out; have := Y6.out; have := Y8.out; omega)
    replace q0Bx : _ := Bx.c0
    replace q1Bx : _ := Bx.c1
    replace q2Bx : _ := Bx.c2
    replace q3Bx : _ := Bx.c3
    replace Rg := Rg.chg hC (by have := Z1.out; have := Z2.out; have := Z3.out; have := Z4.out; have := Z5.out; have := Z6.out; have := Z7.out; have := Z8.out; have := Z9.out; have := Z10.out; have := Z11.out; have := Y4.out; have := Y6.out; have := Y8.out; omega)
    replace Bg := Bg.chg hC (by have := Z1.out; have := Z2.out; have := Z3.out; have := Z4.out; have := Z5.out; have := Z6.out; have := Z7.out; have := Z8.out; have := Z9.out; have := Z10.out; have := Z11.out; have := Y4.out; have := Y6.out; have := Y8.out; omega)
    replace q0Bg : _ := Bg.c0
    replace q1Bg : _ := Bg.c1
    replace q2Bg : _ := Bg.c2
    replace q3Bg : _ := Bg.c3
    clear hC h11 x11 y11 u11 v11 Rx
    clear Bx q0Bx q1Bx q2Bx q3Bx
    generalize 1 + z0.length = k1
    go_wp2_with fail
    refine (eqGab_res r1 r2 r4 Rg Rw).mono ?_
    rintro e w13 ⟨rfl, hb⟩
    have h13 := h12.next hb
    have x13 := h13.x.c0; have y13 := h13.x.c1; have u13 := h13.x.c2; have v13 := h13.x.c3
    have Z13 := Lib.hid hb.size
    replace Rw := Rw.next hb
    replace Bw := Bw.next hb
    replace q0Bw : _ := Bw.c0
    replace q1Bw : _ := Bw.c1
    replace q2Bw : _ := Bw.c2
    replace q3Bw : _ := Bw.c3
    replace Rg := Rg.next hb
    replace Bg := Bg.next hb
    replace q0Bg : _ := Bg.c0
    replace q1Bg : _ := Bg.c1
    replace q2Bg : _ := Bg.c2
    replace q3Bg : _ := Bg.c3
    clear hb h12 x12 y12 u12 v12
    go_wp2_with fail
    refine (markGab_out r1 r2 r4 Rg (1) (by omega) (by omega)).mono ?_
    rintro e w14 ⟨rfl, hC, HM⟩
    have h14 := h13.chg hC (by have := Z1.out; have := Z2.out; have := Z3.out; have := Z4.out; have := Z5.out; have := Z6.out; have := Z7.out; have := Z8.out; have := Z9.out; have := Z10.out; have := Z11.out; have := Z12.out; have := Z13.out; have := Y4.out; have := Y6.out; have := Y8.out; omega)
    have x14 := h14.x.c0; have y14 := h14.x.c1; have u14 := h14.x.c2; have v14 := h14.x.c3
    have Z14 := Lib.hid hC.size
    replace Rw := Rw.chg hC (by have := Z1.out; have := Z2.out; have := Z3.out; have := Z4.out; have := Z5.out; have := Z6.out; have := Z7.out; have := Z8.out; have := Z9.out; have := Z10.out; have := Z11.out; have := Z12.out; have := Z13.out; have := Y4.out; have := Y6.out; have := Y8.out; omega)
    replace Bw := Bw.chg hC (by have := Z1.out; have := Z2.out; have := Z3.out; have := Z4.out; have := Z5.out; have := Z6.out; have := Z7.out; have := Z8.out; have := Z9.out; have := Z10.out; have := Z11.out; have := Z12.out; have := Z13.out; have := Y4.out; have := Y6.out; have := Y8.out; omega)
    replace q0Bw : _ := Bw.c0
    replace q1Bw : _ := Bw.c1
    replace q2Bw : _ := Bw.c2
    replace q3Bw : _ := Bw.c3
    replace Bg := Bg.chg hC (by have := Z1.out; have := Z2.out; have := Z3.out; have := Z4.out; have := Z5.out; have := Z6.out; have := Z7.out; have := Z8.out; have := Z9.out; have := Z10.out; have := Z11.out; have := Z12.out; have := Z13.out; have := Y4.out; have := Y6.out; have := Y8.out; omega)
    replace q0Bg : _ := Bg.c0
    replace q1Bg : _ := Bg.c1
    replace q2Bg : _ := Bg.c2
    replace q3Bg : _ := Bg.c3
    clear hC h13 x13 y13 u13 v13 Rg
    go_wp2_with fail
    refine (heldGab_res r1 r2 r4 1 r3.length HM (by omega) (by omega)).mono ?_
    rintro e w15 ⟨rfl, hb⟩
    have h15 := h14.next hb
    have x15 := h15.x.c0; have y15 := h15.x.c1; have u15 := h15.x.c2; have v15 := h15.x.c3
    have Z15 := Lib.hid hb.size
    replace Rw := Rw.next hb
    replace Bw := Bw.next hb
    replace q0Bw : _ := Bw.c0
    replace q1Bw : _ := Bw.c1
    replace q2Bw : _ := Bw.c2
    replace q3Bw : _ := Bw.c3
    replace Bg := Bg.next hb
    replace q0Bg : _ := Bg.c0
    replace q1Bg : _ := Bg.c1
    replace q2Bg : _ := Bg.c2
    replace q3Bg : _ := Bg.c3
    replace HM := HM.next hb
    clear hb h14 x14 y14 u14 v14
    go_wp2_with fail
    refine (toGab_any d0 p0 kk0 a0 n0 cap0 z0 _ (h0A.from h15.b) hn0).mono ?_
    rintro e w16 ⟨bt, rfl, get, hb, Mt⟩
    have h16 := h15.next hb
    have x16 := h16.x.c0; have y16 := h16.x.c1; have u16 := h16.x.c2; have v16 := h16.x.c3
    have Z16 := Lib.hid hb.size
    replace Rw := Rw.next hb
    replace Bw := Bw.next hb
    replace q0Bw : _ := Bw.c0
    replace q1Bw : _ := Bw.c1
    replace q2Bw : _ := Bw.c2
    replace q3Bw : _ := Bw.c3
    replace Bg := Bg.next hb
    replace q0Bg : _ := Bg.c0
    replace q1Bg : _ := Bg.c1
    replace q2Bg : _ := Bg.c2
    replace q3Bg : _ := Bg.c3
    replace HM := HM.next hb
    clear hb h15 x15 y15 u15 v15
    have Rt := Mt.res (cap := n0) get
    clear get
    go_wp2_with fail
    have S := implSquareGabidulin_any d0 p0 kk0 bt n0 n0 z0 a1 _ hl hh Mt (HT.out.below h16.b)
    rw [HR.out] at S
    dsimp only at S
    refine S.mono ?_
    clear S
    rintro e w17 ⟨vh, rfl, hb, Rh⟩
    have h17 := h16.next hb
    have x17 := h17.x.c0; have y17 := h17.x.c1; have u17 := h17.x.c2; have v17 := h17.x.c3
    have Z17 := Lib.hid hb.size
    replace Rw := Rw.next hb
    replace Bw := Bw.next hb
    replace q0Bw : _ := Bw.c0
    replace q1Bw : _ := Bw.c1
    replace q2Bw : _ := Bw.c2
    replace q3Bw : _ := Bw.c3
    replace Bg := Bg.next hb
    replace q0Bg : _ := Bg.c0
    replace q1Bg : _ := Bg.c1
    replace q2Bg : _ := Bg.c2
    replace q3Bg : _ := Bg.c3
    replace HM := HM.next hb
    replace Mt := Mt.below hb
    replace Rt := Rt.next hb
    clear hb h16 x16 y16 u16 v16
    obtain ⟨aoh, moh, coh, rfl⟩ := Rh.form
    have hb := below_alloc1 w17 (.cells #[.int .i64 r1, .int .i64 r2, (.slice aoh moh coh), .int .i64 r4] 30)
    have nBh := Box4.one w17 (.int .i64 r1) (.int .i64 r2) (.slice aoh moh coh) (.int .i64 r4) 30
    have h18 := h17.next hb
    have x18 := h18.x.c0; have y18 := h18.x.c1; have u18 := h18.x.c2; have v18 := h18.x.c3
    have Z18 := Lib.hid hb.size
    replace Rw := Rw.next hb
    replace Bw := Bw.next hb
    replace q0Bw : _ := Bw.c0
    replace q1Bw : _ := Bw.c1
    replace q2Bw : _ := Bw.c2
    replace q3Bw : _ := Bw.c3
    replace Bg := Bg.next hb
    replace q0Bg : _ := Bg.c0
    replace q1Bg : _ := Bg.c1
    replace q2Bg : _ := Bg.c2
    replace q3Bg : _ := Bg.c3
    replace HM := HM.next hb
    replace Mt := Mt.below hb
    replace Rt := Rt.next hb
    replace Rh := Rh.next hb
    clear hb h17 x17 y17 u17 v17
    have Y18 := Lib.hid (show w17.heap.size + 1 ≤ (w17.alloc (.cells #[.int .i64 r1, .int .i64 r2, (.slice aoh moh coh), .int .i64 r4] 30)).heap.size by simp)
    have Bh := nBh; clear nBh
    have q0Bh : _ := Bh.c0
    have q1Bh : _ := Bh.c1
    have q2Bh : _ := Bh.c2
    have q3Bh : _ := Bh.c3
    clear Mt
    clear Rt
    go_wp2_with fail
    refine (eqGab_res r1 r2 r4 Rh Rw).mono ?_
    rintro e w19 ⟨rfl, hb⟩
    have h19 := h18.next hb
    have x19 := h19.x.c0; have y19 := h19.x.c1; have u19 := h19.x.c2; have v19 := h19.x.c3
    have Z19 := Lib.hid hb.size
    replace Rw := Rw.next hb
    replace Bw := Bw.next hb
    replace q0Bw : _ := Bw.c0
    replace q1Bw : _ := Bw.c1
    replace q2Bw : _ := Bw.c2
    replace q3Bw : _ := Bw.c3
    replace Bg := Bg.next hb
    replace q0Bg : _ := Bg.c0
    replace q1Bg : _ := Bg.c1
    replace q2Bg : _ := Bg.c2
    replace q3Bg : _ := Bg.c3
    replace HM := HM.next hb
    replace Rh := Rh.next hb
    replace Bh := Bh.next hb
    replace q0Bh : _ := Bh.c0
    replace q1Bh : _ := Bh.c1
    replace q2Bh : _ := Bh.c2
    replace q3Bh : _ := Bh.c3
    clear hb h18 x18 y18 u18 v18
    go_wp2_with fail
    refine (heldGab_res r1 r2 r4 1 r3.length HM (by omega) (by omega)).mono ?_
    rintro e w20 ⟨rfl, hb⟩
    have h20 := h19.next hb
    have x20 := h20.x.c0; have y20 := h20.x.c1; have u20 := h20.x.c2; have v20 := h20.x.c3
    have Z20 := Lib.hid hb.size
    replace Rw := Rw.next hb
    replace Bw := Bw.next hb
    replace q0Bw : _ := Bw.c0
    replace q1Bw : _ := Bw.c1
    replace q2Bw : _ := Bw.c2
    replace q3Bw : _ := Bw.c3
    replace Bg := Bg.next hb
    replace q0Bg : _ := Bg.c0
    replace q1Bg : _ := Bg.c1
    replace q2Bg : _ := Bg.c2
    replace q3Bg : _ := Bg.c3
    replace HM := HM.next hb
    replace Rh := Rh.next hb
    replace Bh := Bh.next hb
    replace q0Bh : _ := Bh.c0
    replace q1Bh : _ := Bh.c1
    replace q2Bh : _ := Bh.c2
    replace q3Bh : _ := Bh.c3
    clear hb h19 x19 y19 u19 v19
    go_wp2_with fail
    go_ret
    exact ⟨rfl, h20.b⟩

set_option maxRecDepth 100000 in
theorem lifted (os : Os) (started : os.Started) (H : Type) (enc : TypeId × Value → H) :
    ReturnsInHanded {} Tryd.checked os 3 .any (fun w args => (Rows.fnExactSquareGabidulinSpec.pre enc Tryd.prog Tryd.f3 [] false w args ∧ laidMetH Tryd.prog listed w) ∧ sizedMet enc Tryd.prog Tryd.f3 (OpenSpec.ofChange Rows.fnExactSquareGabidulinSpec) false w args)
      (Rows.fnExactSquareGabidulinSpec.post enc Tryd.prog Tryd.f3 false true false false) := by
  refine returnsInHanded_of_change_and (C := Tryd.checked) (X := fun w _ => laidMetH Tryd.prog listed w) (fun _ _ _ hh h => h.of_heap hh) own started (by kernel_rfl) Tryd.func3
    (ChangeSpec.witness_shaped (enc := enc) (C := Tryd.checked) (os := os) (X := fun w _ => laidMetH Tryd.prog listed w) false (World.doorLaid Tryd.prog 400 os) #[.agg #[.int .i64 0, .int .i64 0, .slice none 0 0, .int .i64 0], .int .i64 0] 8 rfl (World.shaped_of_RefB (by kernel_rfl) (by kernel_rfl)) (by kernel_rfl) (by kernel_rfl) (by kernel_rfl) (door_met os _)) ?_
  intro W base args ds gs before hval0 hW _ _ hL _
  have hval : ∀ (j : Nat) t v, Tryd.f3.params[j]? = some t → args[j]? = some v → Value.okWide Tryd.prog W .any base t v := hval0
  have hT := tab_of_laid hL
  have hW' := hW
  obtain ⟨p, q, hA0, hV, rfl, hfz, hnd⟩ := hW
  have hA : DataW.TrodAll enc Tryd.prog W 0 (fun _ => true) true Tryd.f3.params.toList args.toList ds p := hA0
  rw [Tryd.params3] at hA hval
  obtain ⟨v0, vs0, dd0, ds0, pp0, qq0, hargs, rfl, rfl, h0, r0⟩ := trodAll_cons hA
  obtain ⟨v1, vs1, dd1, ds1, pp1, qq1, rfl, rfl, rfl, h1, r1⟩ := trodAll_cons r0
  obtain ⟨rfl, rfl, rfl⟩ := trodAll_nil r1
  obtain rfl : args = #[v0, v1] := by cases args; simp_all
  obtain ⟨rfl, rfl⟩ := trodVars_none hV
  have k0 := h0
  have lt0 : ∀ x ∈ pp0, x.block < W.heap.size := by obtain ⟨m, hm⟩ := k0; exact DataW.trod_lt m _ _ _ hm
  obtain ⟨d0, p0, kk0, a0, n0, cap0, z0, rfl, wd0, wp0, wk0, w0⟩ := gab_open (hval 0 26 v0 rfl rfl) h0
  have k1 := h1
  have lt1 : ∀ x ∈ pp1, x.block < W.heap.size := by obtain ⟨m, hm⟩ := k1; exact DataW.trod_lt m _ _ _ hm
  obtain ⟨a1, rfl, rfl, rfl, w1⟩ := open_int Tryd.underlying2 (hval 1 2 v1 rfl rfl) h1
  clear hA0 hval0
  refine (walk d0 p0 kk0 wd0 wp0 wk0 a0 n0 cap0 z0 a1 w1 W hT w0).mono fun e W' ⟨he, bel⟩ => ?_
  subst he
  exact ⟨_, rfl, _, _, _, [], _, [], hW', trodAll_mk1 (shut_bool Tryd.underlying4 _), (trodAll_cons_mk (Below.trod laidOut (by kernel_rfl) (of_decide_eq_true (by kernel_rfl)) k0 bel lt0) (trodAll_cons_mk (Below.trod laidOut (by kernel_rfl) (of_decide_eq_true (by kernel_rfl)) k1 bel lt1) trodAll_mk0)), rfl, bel.frame _, fun h => by cases h⟩

theorem over : Rows.fnExactSquareGabidulinRow.holds Tryd.pinned (OpenSpec.ofChange Rows.fnExactSquareGabidulinSpec) :=
  OpenClaim.holds_of_wide 3 Tryd.f3 rfl rfl rfl rfl rfl rfl rfl ⟨rfl, rfl, rfl, rfl, rfl⟩ rfl rfl rfl rfl rfl (by kernel_rfl) Tryd.func3 (by kernel_rfl)
    (of_decide_eq_true (by kernel_rfl)) (by unfold Func.isWrapper; first | (rw [if_pos (by decide +kernel)]; kernel_rfl) | (rw [if_neg (by decide +kernel)]; exact ⟨rfl, rfl⟩))
    (fun os started H enc _ => lifted os started H enc)

theorem proved : Rows.FnExactSquareGabidulinCardSaid :=
  Claim7.holds_tied_plain_at .later [] [.data] true Rows.fnExactSquareGabidulinCard.stood.harness false
    over (fun _ h => by cases h) (by kernel_rfl) (fun _ h => by cases h) fnExactSquareGabidulin_row_tie rfl ⟨rfl, rfl⟩ (by kernel_rfl) rfl
    (fun f fn hf hfn => by
      obtain rfl : f = 3 := Option.some.inj ((show Tryd.prog.funcNamed "loop.example/g01144/laws.FnExactSquareGabidulin" = some 3 by kernel_rfl).symm.trans hf) |>.symm
      obtain rfl : fn = Tryd.f3 := (Option.some.inj (Tryd.func3.symm.trans hfn)).symm
      exact ⟨by kernel_rfl, fun j t ht => by
        rw [Tryd.params3] at ht
        have hm : t ∈ [26, 2] := by simpa using Array.mem_of_getElem? ht
        have hall : ([26, 2].all fun u => !Tryd.prog.wantsStandIn u) = true := by kernel_rfl
        exact (show Tryd.prog.wantsStandIn t = false by simpa using List.all_eq_true.1 hall t hm)⟩)
    (by kernel_rfl)
#print axioms proved
end Go.Proofs.YtllojcndhkpfmaaDoor.fnExactSquareGabidulin
