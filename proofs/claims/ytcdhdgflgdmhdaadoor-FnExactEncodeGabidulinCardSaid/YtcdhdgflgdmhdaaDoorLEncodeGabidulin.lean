/- FnExactEncodeGabidulin: for every input the law returns true, and every argument reads afterwards as it read before. No condition. -/
import Derived.Test.YtcdhdgflgdmhdaaDoorRows
import Derived.WalkKit
import Derived.ProofKit
import Derived.OpenShut
import Derived.ChangeOld
import Derived.Below
import Derived.Lib.SmallJoins
import Derived.Test.YtcdhdgflgdmhdaaDoorEncodeGabidulin
import Derived.Test.YtcdhdgflgdmhdaaDoorGabArg
import Derived.Test.YtcdhdgflgdmhdaaDoorGabM
import Derived.Test.YtcdhdgflgdmhdaaDoorMtRes
import Derived.Test.YtcdhdgflgdmhdaaDoorArg
import Derived.Test.YtcdhdgflgdmhdaaDoorToField
import Derived.Test.YtcdhdgflgdmhdaaDoorThird
import Derived.Test.YtcdhdgflgdmhdaaDoorRow
import Derived.Test.YtcdhdgflgdmhdaaDoorRes
import Derived.Test.YtcdhdgflgdmhdaaDoorStep
import Derived.Test.YtcdhdgflgdmhdaaDoorLaid
import Derived.Test.YtcdhdgflgdmhdaaDoorTie
import Derived.Test.YtcdhdgflgdmhdaaDoorCards
import Derived.SevenTiedAt
namespace Go.Proofs.YtcdhdgflgdmhdaaDoor.fnExactEncodeGabidulin
open Go.ChangeShapes Go.WideShapes Go.ChangeAt Go.RowKit Go.Joins
set_option linter.unusedVariables false

theorem own : ownKnob Tryd.prog.godebug = none := by kernel_rfl
theorem laidOut : laidOutB Tryd.prog = true := by kernel_rfl

set_option maxRecDepth 100000 in
set_option maxHeartbeats 12800000 in
theorem walk (d0 p0 kk0 : Int) (wd0 : (Lit.int .i64 d0).wf = true) (wp0 : (Lit.int .i64 p0).wf = true) (wk0 : (Lit.int .i64 kk0).wf = true) (a0 : Option Addr) (n0 cap0 : Nat) (z0 : List Int) (a1 : Option Addr) (n1 cap1 : Nat) (z1 : List Int) (w : World) (hT : Tab w) (h0A : Arg w a0 n0 z0) (h1A : Arg w a1 n1 z1) :
    Calls Tryd.prog 5 #[.agg (gabC d0 p0 (.slice a0 n0 cap0) kk0), .slice a1 n1 cap1] w fun e w' => e = .returned (.bool true) ∧ Below w.heap.size w w' := by
  obtain ⟨hl, hh⟩ := bounds_i64 wp0
  have HT := Lib.hid hT
  clear hT
  have big0 := h0A.big
  have l0 := h0A.len
  have big1 := h1A.big
  have l1 := h1A.len
  by_cases hn1 : n1 ≤ 1048576
  rotate_left
  ·
    go_enter Tryd.func5, Tryd.ntmps5
    have h0 := G4.start w d0 p0 (.slice a0 n0 cap0) kk0 26
    have x0 := h0.x.c0; have y0 := h0.x.c1; have u0 := h0.x.c2; have v0 := h0.x.c3
    go_wp2_with fail
    go_ret
    exact ⟨rfl, h0.b⟩
  by_cases hn0 : n0 ≤ 1048576
  rotate_left
  ·
    go_enter Tryd.func5, Tryd.ntmps5
    have h0 := G4.start w d0 p0 (.slice a0 n0 cap0) kk0 26
    have x0 := h0.x.c0; have y0 := h0.x.c1; have u0 := h0.x.c2; have v0 := h0.x.c3
    go_wp2_with fail
    refine (szGab_no d0 p0 kk0 a0 n0 cap0 (by omega) 1048576 (by omega) (by omega) (by omega) _).mono ?_
    rintro e w1 ⟨rfl, hb⟩
    have hb1 := (h0.next hb).b
    clear hb
    go_wp2_with fail
    go_ret
    exact ⟨rfl, hb1⟩
  obtain ⟨r, hr⟩ : ∃ r, fEncodeGabidulin d0 p0 z0 kk0 z1 = r := ⟨_, rfl⟩
  have HR := Lib.hid hr
  clear hr
  obtain ⟨r1, r2⟩ := r
  go_enter Tryd.func5, Tryd.ntmps5
  have h0 := G4.start w d0 p0 (.slice a0 n0 cap0) kk0 26
  have x0 := h0.x.c0; have y0 := h0.x.c1; have u0 := h0.x.c2; have v0 := h0.x.c3
  go_wp2_with fail
  refine (szGab_ok d0 p0 kk0 a0 n0 cap0 1048576 (by omega) (by omega) _).mono ?_
  rintro e w1 ⟨rfl, hb⟩
  have h1 := h0.next hb
  have x1 := h1.x.c0; have y1 := h1.x.c1; have u1 := h1.x.c2; have v1 := h1.x.c3
  have Z1 := Lib.hid h1.z
  clear hb h0 x0 y0 u0 v0
  go_wp2_with fail
  refine (toGab_any d0 p0 kk0 a0 n0 cap0 z0 _ (h0A.from h1.b) hn0).mono ?_
  rintro e w2 ⟨bs, rfl, ges, hb, Ms⟩
  have h2 := h1.next hb
  have x2 := h2.x.c0; have y2 := h2.x.c1; have u2 := h2.x.c2; have v2 := h2.x.c3
  have Z2 := Lib.hid hb.size
  clear hb h1 x1 y1 u1 v1
  have Rs := Ms.res (cap := n0) ges
  clear ges
  go_wp2_with fail
  refine (toInt64S_any a1 n1 cap1 z1 _ (h1A.from h2.b) hn1).mono ?_
  rintro e w3 ⟨bs1, rfl, ges1, hb, Ms1⟩
  have h3 := h2.next hb
  have x3 := h3.x.c0; have y3 := h3.x.c1; have u3 := h3.x.c2; have v3 := h3.x.c3
  have Z3 := Lib.hid hb.size
  replace Ms := Ms.below hb
  replace Rs := Rs.next hb
  clear hb h2 x2 y2 u2 v2
  have Rs1 := Ms1.res (cap := n1) ges1
  clear ges1
  go_wp2_with fail
  have S := specEncodeGabidulin_any d0 p0 kk0 bs n0 n0 z0 bs1 n1 n1 z1 _ Ms Ms1
  rw [HR.out] at S
  try dsimp only at S
  refine S.mono ?_
  clear S
  rintro e w4 ⟨vw, rfl, hb, Rw⟩
  have h4 := h3.next hb
  have x4 := h4.x.c0; have y4 := h4.x.c1; have u4 := h4.x.c2; have v4 := h4.x.c3
  have Z4 := Lib.hid hb.size
  replace Ms := Ms.below hb
  replace Rs := Rs.next hb
  replace Ms1 := Ms1.below hb
  replace Rs1 := Rs1.next hb
  clear hb h3 x3 y3 u3 v3
  clear Ms
  clear Rs
  clear Ms1
  clear Rs1
  go_wp2_with fail
  refine (toGab_any d0 p0 kk0 a0 n0 cap0 z0 _ (h0A.from h4.b) hn0).mono ?_
  rintro e w5 ⟨bx, rfl, gex, hb, Mx⟩
  have h5 := h4.next hb
  have x5 := h5.x.c0; have y5 := h5.x.c1; have u5 := h5.x.c2; have v5 := h5.x.c3
  have Z5 := Lib.hid hb.size
  replace Rw := Rw.next hb
  clear hb h4 x4 y4 u4 v4
  have Rx := Mx.res (cap := n0) gex
  clear gex
  have hb := below_alloc1 w5 (.cells (gabC d0 p0 (.slice (some ⟨bx, 0, none⟩) n0 n0) kk0) 31)
  have nBx := Box4.one w5 (.int .i64 d0) (.int .i64 p0) (.slice (some ⟨bx, 0, none⟩) n0 n0) (.int .i64 kk0) 31
  have h6 := h5.next hb
  have x6 := h6.x.c0; have y6 := h6.x.c1; have u6 := h6.x.c2; have v6 := h6.x.c3
  have Z6 := Lib.hid hb.size
  replace Rw := Rw.next hb
  replace Mx := Mx.below hb
  replace Rx := Rx.next hb
  clear hb h5 x5 y5 u5 v5
  have Y6 := Lib.hid (show w5.heap.size + 1 ≤ (w5.alloc (.cells (gabC d0 p0 (.slice (some ⟨bx, 0, none⟩) n0 n0) kk0) 31)).heap.size by simp)
  have Bx := nBx; clear nBx
  have q0Bx : _ := Bx.c0
  have q1Bx : _ := Bx.c1
  have q2Bx : _ := Bx.c2
  have q3Bx : _ := Bx.c3
  go_wp2_with fail
  refine (toInt64S_any a1 n1 cap1 z1 _ (h1A.from h6.b) hn1).mono ?_
  rintro e w7 ⟨bx1, rfl, gex1, hb, Mx1⟩
  have h7 := h6.next hb
  have x7 := h7.x.c0; have y7 := h7.x.c1; have u7 := h7.x.c2; have v7 := h7.x.c3
  have Z7 := Lib.hid hb.size
  replace Rw := Rw.next hb
  replace Mx := Mx.below hb
  replace Rx := Rx.next hb
  replace Bx := Bx.next hb
  replace q0Bx : _ := Bx.c0
  replace q1Bx : _ := Bx.c1
  replace q2Bx : _ := Bx.c2
  replace q3Bx : _ := Bx.c3
  clear hb h6 x6 y6 u6 v6
  have Rx1 := Mx1.res (cap := n1) gex1
  clear gex1
  go_wp2_with fail
  have S := implEncodeGabidulin_any d0 p0 kk0 bx n0 n0 z0 bx1 n1 n1 z1 _ hl hh Mx Mx1 (HT.out.below h7.b)
  rw [HR.out] at S
  try dsimp only at S
  refine S.mono ?_
  clear S
  rintro e w8 ⟨vg, rfl, hb, Rg⟩
  have h8 := h7.next hb
  have x8 := h8.x.c0; have y8 := h8.x.c1; have u8 := h8.x.c2; have v8 := h8.x.c3
  have Z8 := Lib.hid hb.size
  replace Rw := Rw.next hb
  replace Mx := Mx.below hb
  replace Rx := Rx.next hb
  replace Bx := Bx.next hb
  replace q0Bx : _ := Bx.c0
  replace q1Bx : _ := Bx.c1
  replace q2Bx : _ := Bx.c2
  replace q3Bx : _ := Bx.c3
  replace Mx1 := Mx1.below hb
  replace Rx1 := Rx1.next hb
  clear hb h7 x7 y7 u7 v7
  clear Mx
  clear Mx1
  go_wp2_with fail
  refine (eq_res Rg Rw).mono ?_
  rintro e w9 ⟨rfl, hb⟩
  have h9 := h8.next hb
  have x9 := h9.x.c0; have y9 := h9.x.c1; have u9 := h9.x.c2; have v9 := h9.x.c3
  have Z9 := Lib.hid hb.size
  replace Rw := Rw.next hb
  replace Rx := Rx.next hb
  replace Bx := Bx.next hb
  replace q0Bx : _ := Bx.c0
  replace q1Bx : _ := Bx.c1
  replace q2Bx : _ := Bx.c2
  replace q3Bx : _ := Bx.c3
  replace Rx1 := Rx1.next hb
  replace Rg := Rg.next hb
  clear hb h8 x8 y8 u8 v8
  have HD := Lib.hid h9.drew
  have ORw := Lib.hid (Rw.next (Below.refl _ w9).drew)
  have ORx := Lib.hid (Rx.next (Below.refl _ w9).drew)
  have OBx := Lib.hid (Bx.next (Below.refl _ w9).drew)
  have ORx1 := Lib.hid (Rx1.next (Below.refl _ w9).drew)
  have ORg := Lib.hid (Rg.next (Below.refl _ w9).drew)
  go_wp2_with fail
  go_region_law (go_simp; go_wp2_with (first | (go_at_call 8; refine (toGab_any d0 p0 kk0 a0 n0 cap0 z0 _ (h0A.from HD.out.b) hn0).mono ?_; rintro e w10 ⟨b7, rfl, ge7, hb, M7⟩; have H7 := Lib.hid (HD.out.next hb); have PRw := Lib.hid (ORw.out.next hb); have PRx := Lib.hid (ORx.out.next hb); have PBx := Lib.hid (OBx.out.next hb); have PRx1 := Lib.hid (ORx1.out.next hb); have PRg := Lib.hid (ORg.out.next hb); have RY := Lib.hid (M7.res (cap := n0) ge7); have m0 := PBx.out.c0; have m1 := PBx.out.c1; have m2 := PBx.out.c2; have m3 := PBx.out.c3; have Z10 := Lib.hid (show w9.heap.size ≤ w10.heap.size from hb.size); clear hb ge7 M7) | (go_at_call 10; refine (eqGab_res d0 p0 kk0 PRx.out RY.out).mono ?_; rintro e w11 ⟨rfl, hb⟩; have H8 := Lib.hid (H7.out.next hb); have QRw := Lib.hid (PRw.out.next hb); have QRx := Lib.hid (PRx.out.next hb); have QBx := Lib.hid (PBx.out.next hb); have QRx1 := Lib.hid (PRx1.out.next hb); have QRg := Lib.hid (PRg.out.next hb); have Z11 := Lib.hid hb.size; clear hb)))
  all_goals
    have h11 := H8.out
    clear x9 y9 u9 v9 m0 m1 m2 m3
    have x11 := h11.x.c0; have y11 := h11.x.c1; have u11 := h11.x.c2; have v11 := h11.x.c3
    replace Rw := QRw.out
    replace Rx := QRx.out
    replace Bx := QBx.out
    replace q0Bx : _ := Bx.c0
    replace q1Bx : _ := Bx.c1
    replace q2Bx : _ := Bx.c2
    replace q3Bx : _ := Bx.c3
    replace Rx1 := QRx1.out
    replace Rg := QRg.out
    clear ORw PRw QRw ORx PRx QRx OBx PBx QBx ORx1 PRx1 QRx1 ORg PRg QRg HD H7 H8 RY
    go_wp2_with fail
    refine (toInt64S_any a1 n1 cap1 z1 _ (h1A.from h11.b) hn1).mono ?_
    rintro e w12 ⟨by1, rfl, gey1, hb, My1⟩
    have h12 := h11.next hb
    have x12 := h12.x.c0; have y12 := h12.x.c1; have u12 := h12.x.c2; have v12 := h12.x.c3
    have Z12 := Lib.hid hb.size
    replace Rw := Rw.next hb
    replace Rx := Rx.next hb
    replace Bx := Bx.next hb
    replace q0Bx : _ := Bx.c0
    replace q1Bx : _ := Bx.c1
    replace q2Bx : _ := Bx.c2
    replace q3Bx : _ := Bx.c3
    replace Rx1 := Rx1.next hb
    replace Rg := Rg.next hb
    clear hb h11 x11 y11 u11 v11
    have Ry1 := My1.res (cap := n1) gey1
    clear gey1
    clear My1
    go_wp2_with fail
    refine (eq_res Rx1 Ry1).mono ?_
    rintro e w13 ⟨rfl, hb⟩
    have h13 := h12.next hb
    have x13 := h13.x.c0; have y13 := h13.x.c1; have u13 := h13.x.c2; have v13 := h13.x.c3
    have Z13 := Lib.hid hb.size
    replace Rw := Rw.next hb
    replace Rx := Rx.next hb
    replace Bx := Bx.next hb
    replace q0Bx : _ := Bx.c0
    replace q1Bx : _ := Bx.c1
    replace q2Bx : _ := Bx.c2
    replace q3Bx : _ := Bx.c3
    replace Rx1 := Rx1.next hb
    replace Rg := Rg.next hb
    replace Ry1 := Ry1.next hb
    clear hb h12 x12 y12 u12 v12
    clear Ry1
    have l8 := Rg.small
    go_wp2_with fail
    refine (markGab_res d0 p0 kk0 Rx (1) (by omega) (by omega)).mono ?_
    rintro e w14 ⟨rfl, hC⟩
    have h14 := h13.chg hC (by have := Z1.out; have := Z2.out; have := Z3.out; have := Z4.out; have := Z5.out; have := Z6.out; have := Z7.out; have := Z8.out; have := Z9.out; have := Z10.out; have := Z11.out; have := Z12.out; have := Z13.out; have := Y6.out; omega)
    have x14 := h14.x.c0; have y14 := h14.x.c1; have u14 := h14.x.c2; have v14 := h14.x.c3
    have Z14 := Lib.hid hC.size
    replace Rw := Rw.chg hC (by have := Z1.out; have := Z2.out; have := Z3.out; have := Z4.out; have := Z5.out; have := Z6.out; have := Z7.out; have := Z8.out; have := Z9.out; have := Z10.out; have := Z11.out; have := Z12.out; have := Z13.out; have := Y6.out; omega)
    replace Bx := Bx.chg hC (by have := Z1.out; have := Z2.out; have := Z3.out; have := Z4.out; have := Z5.out; have := Z6.out; have := Z7.out; have := Z8.out; have := Z9.out; have := Z10.out; have := Z11.out; have := Z12.out; have := Z13.out; have := Y6.out; omega)
    replace q0Bx : _ := Bx.c0
    replace q1Bx : _ := Bx.c1
    replace q2Bx : _ := Bx.c2
    replace q3Bx : _ := Bx.c3
    replace Rx1 := Rx1.chg hC (by have := Z1.out; have := Z2.out; have := Z3.out; have := Z4.out; have := Z5.out; have := Z6.out; have := Z7.out; have := Z8.out; have := Z9.out; have := Z10.out; have := Z11.out; have := Z12.out; have := Z13.out; have := Y6.out; omega)
    replace Rg := Rg.chg hC (by have := Z1.out; have := Z2.out; have := Z3.out; have := Z4.out; have := Z5.out; have := Z6.out; have := Z7.out; have := Z8.out; have := Z9.out; have := Z10.out; have := Z11.out; have := Z12.out; have := Z13.out; have := Y6.out; omega)
    clear hC h13 x13 y13 u13 v13 Rx
    clear Bx q0Bx q1Bx q2Bx q3Bx
    generalize hk : 1 + z0.length = k1
    have hk1 : k1 ≤ 1048577 := by omega
    clear hk
    go_wp2_with fail
    refine (mark_res Rx1 (k1) (by omega) (by omega)).mono ?_
    rintro e w15 ⟨rfl, hC, _⟩
    have h15 := h14.chg hC (by have := Z1.out; have := Z2.out; have := Z3.out; have := Z4.out; have := Z5.out; have := Z6.out; have := Z7.out; have := Z8.out; have := Z9.out; have := Z10.out; have := Z11.out; have := Z12.out; have := Z13.out; have := Z14.out; have := Y6.out; omega)
    have x15 := h15.x.c0; have y15 := h15.x.c1; have u15 := h15.x.c2; have v15 := h15.x.c3
    have Z15 := Lib.hid hC.size
    replace Rw := Rw.chg hC (by have := Z1.out; have := Z2.out; have := Z3.out; have := Z4.out; have := Z5.out; have := Z6.out; have := Z7.out; have := Z8.out; have := Z9.out; have := Z10.out; have := Z11.out; have := Z12.out; have := Z13.out; have := Z14.out; have := Y6.out; omega)
    replace Rg := Rg.chg hC (by have := Z1.out; have := Z2.out; have := Z3.out; have := Z4.out; have := Z5.out; have := Z6.out; have := Z7.out; have := Z8.out; have := Z9.out; have := Z10.out; have := Z11.out; have := Z12.out; have := Z13.out; have := Z14.out; have := Y6.out; omega)
    clear hC h14 x14 y14 u14 v14 Rx1
    generalize k1 + z1.length = k2
    go_wp2_with fail
    refine (eq_res Rg Rw).mono ?_
    rintro e w16 ⟨rfl, hb⟩
    have h16 := h15.next hb
    have x16 := h16.x.c0; have y16 := h16.x.c1; have u16 := h16.x.c2; have v16 := h16.x.c3
    have Z16 := Lib.hid hb.size
    replace Rw := Rw.next hb
    replace Rg := Rg.next hb
    clear hb h15 x15 y15 u15 v15
    go_wp2_with fail
    refine (mark_res Rg (1) (by omega) (by omega)).mono ?_
    rintro e w17 ⟨rfl, hC, HM⟩
    have h17 := h16.chg hC (by have := Z1.out; have := Z2.out; have := Z3.out; have := Z4.out; have := Z5.out; have := Z6.out; have := Z7.out; have := Z8.out; have := Z9.out; have := Z10.out; have := Z11.out; have := Z12.out; have := Z13.out; have := Z14.out; have := Z15.out; have := Z16.out; have := Y6.out; omega)
    have x17 := h17.x.c0; have y17 := h17.x.c1; have u17 := h17.x.c2; have v17 := h17.x.c3
    have Z17 := Lib.hid hC.size
    replace Rw := Rw.chg hC (by have := Z1.out; have := Z2.out; have := Z3.out; have := Z4.out; have := Z5.out; have := Z6.out; have := Z7.out; have := Z8.out; have := Z9.out; have := Z10.out; have := Z11.out; have := Z12.out; have := Z13.out; have := Z14.out; have := Z15.out; have := Z16.out; have := Y6.out; omega)
    clear hC h16 x16 y16 u16 v16 Rg
    go_wp2_with fail
    refine (held_res (1) (r1.length) HM (by omega) (by omega)).mono ?_
    rintro e w' ⟨rfl, rfl⟩
    go_wp2_with fail
    refine (toGab_any d0 p0 kk0 a0 n0 cap0 z0 _ (h0A.from h17.b) hn0).mono ?_
    rintro e w18 ⟨bt, rfl, get, hb, Mt⟩
    have h18 := h17.next hb
    have x18 := h18.x.c0; have y18 := h18.x.c1; have u18 := h18.x.c2; have v18 := h18.x.c3
    have Z18 := Lib.hid hb.size
    replace Rw := Rw.next hb
    replace HM := HM.next hb
    clear hb h17 x17 y17 u17 v17
    have Rt := Mt.res (cap := n0) get
    clear get
    go_wp2_with fail
    refine (toInt64S_any a1 n1 cap1 z1 _ (h1A.from h18.b) hn1).mono ?_
    rintro e w19 ⟨bt1, rfl, get1, hb, Mt1⟩
    have h19 := h18.next hb
    have x19 := h19.x.c0; have y19 := h19.x.c1; have u19 := h19.x.c2; have v19 := h19.x.c3
    have Z19 := Lib.hid hb.size
    replace Rw := Rw.next hb
    replace HM := HM.next hb
    replace Mt := Mt.below hb
    replace Rt := Rt.next hb
    clear hb h18 x18 y18 u18 v18
    have Rt1 := Mt1.res (cap := n1) get1
    clear get1
    go_wp2_with fail
    have S := implEncodeGabidulin_any d0 p0 kk0 bt n0 n0 z0 bt1 n1 n1 z1 _ hl hh Mt Mt1 (HT.out.below h19.b)
    rw [HR.out] at S
    try dsimp only at S
    refine S.mono ?_
    clear S
    rintro e w20 ⟨vh, rfl, hb, Rh⟩
    have h20 := h19.next hb
    have x20 := h20.x.c0; have y20 := h20.x.c1; have u20 := h20.x.c2; have v20 := h20.x.c3
    have Z20 := Lib.hid hb.size
    replace Rw := Rw.next hb
    replace HM := HM.next hb
    replace Mt := Mt.below hb
    replace Rt := Rt.next hb
    replace Mt1 := Mt1.below hb
    replace Rt1 := Rt1.next hb
    clear hb h19 x19 y19 u19 v19
    clear Mt
    clear Rt
    clear Mt1
    clear Rt1
    go_wp2_with fail
    refine (eq_res Rh Rw).mono ?_
    rintro e w21 ⟨rfl, hb⟩
    have h21 := h20.next hb
    have x21 := h21.x.c0; have y21 := h21.x.c1; have u21 := h21.x.c2; have v21 := h21.x.c3
    have Z21 := Lib.hid hb.size
    replace Rw := Rw.next hb
    replace HM := HM.next hb
    replace Rh := Rh.next hb
    clear hb h20 x20 y20 u20 v20
    go_wp2_with fail
    refine (held_res (1) (r1.length) HM (by omega) (by omega)).mono ?_
    rintro e w' ⟨rfl, rfl⟩
    go_wp2_with fail
    go_ret
    exact ⟨rfl, h21.b⟩

set_option maxRecDepth 100000 in
theorem lifted (os : Os) (started : os.Started) (H : Type) (enc : TypeId × Value → H) :
    ReturnsInHanded {} Tryd.checked os 5 .any (fun w args => (Rows.fnExactEncodeGabidulinSpec.pre enc Tryd.prog Tryd.f5 [] false w args ∧ laidMetH Tryd.prog listed w) ∧ sizedMet enc Tryd.prog Tryd.f5 (OpenSpec.ofChange Rows.fnExactEncodeGabidulinSpec) false w args)
      (Rows.fnExactEncodeGabidulinSpec.post enc Tryd.prog Tryd.f5 false true false false) := by
  refine returnsInHanded_of_change_and (C := Tryd.checked) (X := fun w _ => laidMetH Tryd.prog listed w) (fun _ _ _ hh h => h.of_heap hh) own started (by kernel_rfl) Tryd.func5
    (ChangeSpec.witness_shaped (enc := enc) (C := Tryd.checked) (os := os) (X := fun w _ => laidMetH Tryd.prog listed w) false (World.doorLaid Tryd.prog 400 os) #[.agg #[.int .i64 0, .int .i64 0, .slice none 0 0, .int .i64 0], .slice none 0 0] 8 rfl (World.shaped_of_RefB (by kernel_rfl) (by kernel_rfl)) (by kernel_rfl) (by kernel_rfl) (by kernel_rfl) (door_met os _)) ?_
  intro W base args ds gs before hval0 hW _ _ hL _
  have hval : ∀ (j : Nat) t v, Tryd.f5.params[j]? = some t → args[j]? = some v → Value.okWide Tryd.prog W .any base t v := hval0
  have hT := tab_of_laid hL
  have hW' := hW
  obtain ⟨p, q, hA0, hV, rfl, hfz, hnd⟩ := hW
  have hA : DataW.TrodAll enc Tryd.prog W 0 (fun _ => true) true Tryd.f5.params.toList args.toList ds p := hA0
  rw [Tryd.params5] at hA hval
  obtain ⟨v0, vs0, dd0, ds0, pp0, qq0, hargs, rfl, rfl, h0, r0⟩ := trodAll_cons hA
  obtain ⟨v1, vs1, dd1, ds1, pp1, qq1, rfl, rfl, rfl, h1, r1⟩ := trodAll_cons r0
  obtain ⟨rfl, rfl, rfl⟩ := trodAll_nil r1
  obtain rfl : args = #[v0, v1] := by cases args; simp_all
  obtain ⟨rfl, rfl⟩ := trodVars_none hV
  have k0 := h0
  have lt0 : ∀ x ∈ pp0, x.block < W.heap.size := by obtain ⟨m, hm⟩ := k0; exact DataW.trod_lt m _ _ _ hm
  obtain ⟨d0, p0, kk0, a0, n0, cap0, z0, rfl, wd0, wp0, wk0, w0⟩ := gab_open (hval 0 26 v0 rfl rfl) h0
  have k1 := h1
  have lt1 : ∀ x ∈ pp1, x.block < W.heap.size := by obtain ⟨m, hm⟩ := k1; exact DataW.trod_lt m _ _ _ hm
  obtain ⟨a1, n1, cap1, rfl⟩ := okWide_slice Tryd.underlying24 (hval 1 24 v1 rfl rfl)
  obtain ⟨z1, w1⟩ : ∃ z, Arg W a1 n1 z := by
    obtain ⟨fuel, hf⟩ := h1
    obtain ⟨A, k, c, z, e, w⟩ := arg_open (v := .slice a1 n1 cap1) hf
    injection e with e1 e2 e3
    subst e1 e2 e3
    exact ⟨z, w⟩
  clear hA0 hval0
  refine (walk d0 p0 kk0 wd0 wp0 wk0 a0 n0 cap0 z0 a1 n1 cap1 z1 W hT w0 w1).mono fun e W' ⟨he, bel⟩ => ?_
  subst he
  exact ⟨_, rfl, _, _, _, [], _, [], hW', trodAll_mk1 (shut_bool Tryd.underlying4 _), (trodAll_cons_mk (Below.trod laidOut (by kernel_rfl) (of_decide_eq_true (by kernel_rfl)) k0 bel lt0) (trodAll_cons_mk (Below.trod laidOut (by kernel_rfl) (of_decide_eq_true (by kernel_rfl)) k1 bel lt1) trodAll_mk0)), rfl, bel.frame _, fun h => by cases h⟩

theorem over : Rows.fnExactEncodeGabidulinRow.holds Tryd.pinned (OpenSpec.ofChange Rows.fnExactEncodeGabidulinSpec) :=
  OpenClaim.holds_of_wide 5 Tryd.f5 rfl rfl rfl rfl rfl rfl rfl ⟨rfl, rfl, rfl, rfl, rfl⟩ rfl rfl rfl rfl rfl (by kernel_rfl) Tryd.func5 (by kernel_rfl)
    (of_decide_eq_true (by kernel_rfl)) (by unfold Func.isWrapper; first | (rw [if_pos (by decide +kernel)]; kernel_rfl) | (rw [if_neg (by decide +kernel)]; exact ⟨rfl, rfl⟩))
    (fun os started H enc _ => lifted os started H enc)

theorem proved : Rows.FnExactEncodeGabidulinCardSaid :=
  Claim7.holds_tied_plain_at .later [] [.data] true Rows.fnExactEncodeGabidulinCard.stood.harness false
    over (fun _ h => by cases h) (by kernel_rfl) (fun _ h => by cases h) fnExactEncodeGabidulin_row_tie rfl ⟨rfl, rfl⟩ (by kernel_rfl) rfl
    (fun f fn hf hfn => by
      obtain rfl : f = 5 := Option.some.inj ((show Tryd.prog.funcNamed "loop.example/g01144/laws.FnExactEncodeGabidulin" = some 5 by kernel_rfl).symm.trans hf) |>.symm
      obtain rfl : fn = Tryd.f5 := (Option.some.inj (Tryd.func5.symm.trans hfn)).symm
      exact ⟨by kernel_rfl, fun j t ht => by
        rw [Tryd.params5] at ht
        have hm : t ∈ [26, 24] := by simpa using Array.mem_of_getElem? ht
        have hall : ([26, 24].all fun u => !Tryd.prog.wantsStandIn u) = true := by kernel_rfl
        exact (show Tryd.prog.wantsStandIn t = false by simpa using List.all_eq_true.1 hall t hm)⟩)
    (by kernel_rfl)
#print axioms proved
end Go.Proofs.YtcdhdgflgdmhdaaDoor.fnExactEncodeGabidulin
