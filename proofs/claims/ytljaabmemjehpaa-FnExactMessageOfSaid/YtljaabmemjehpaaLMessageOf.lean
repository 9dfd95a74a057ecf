/- FnExactMessageOf: for every input the law returns true, and every argument reads afterwards as it read before. No condition. -/
import Derived.Test.YtljaabmemjehpaaRows
import Derived.WalkKit
import Derived.ProofKit
import Derived.OpenShut
import Derived.ChangeOld
import Derived.Below
import Derived.Lib.SmallJoins
import Derived.Test.YtljaabmemjehpaaMessageOf
import Derived.Test.YtljaabmemjehpaaSsLaw
import Derived.Test.YtljaabmemjehpaaLB
import Derived.Test.YtljaabmemjehpaaToField
import Derived.Test.YtljaabmemjehpaaThird
import Derived.Test.YtljaabmemjehpaaRow
import Derived.Test.YtljaabmemjehpaaRes
import Derived.Test.YtljaabmemjehpaaStep
import Derived.Test.YtljaabmemjehpaaCode
namespace Go.Proofs.Ytljaabmemjehpaa.fnExactMessageOf
open Go.ChangeShapes Go.WideShapes Go.ChangeAt Go.RowKit Go.Joins
set_option linter.unusedVariables false

theorem own : ownKnob Try.prog.godebug = none := by kernel_rfl
theorem laidOut : laidOutB Try.prog = true := by kernel_rfl

set_option maxRecDepth 100000 in
set_option maxHeartbeats 12800000 in
theorem walk (d0 p0 kk0 : Int) (wd0 : (Lit.int .i64 d0).wf = true) (wp0 : (Lit.int .i64 p0).wf = true) (wk0 : (Lit.int .i64 kk0).wf = true) (a0 : Option Addr) (n0 cap0 : Nat) (z0 : List (List Int)) (a1 : Option Addr) (n1 cap1 : Nat) (z1 : List Int) (w : World) (h0S : ArgS w a0 n0 z0) (h1A : Arg w a1 n1 z1) :
    Calls Try.prog 4 #[.agg (codL d0 p0 kk0 (.slice a0 n0 cap0)).toArray, .slice a1 n1 cap1] w fun e w' => e = .returned (.bool true) ∧ Below w.heap.size w w' := by
  obtain ⟨hl, hh⟩ := bounds_i64 wp0
  have big0 := h0S.big
  obtain ⟨N0, hN0⟩ : ∃ N, n0 + total z0 = N := ⟨_, rfl⟩
  have HN0 := Lib.hid hN0
  clear hN0
  have big1 := h1A.big
  have l1 := h1A.len
  by_cases hn1 : n1 ≤ 1048576
  rotate_left
  ·
    go_enter Try.func4, Try.ntmps4
    have h0 := G1.start w (codL d0 p0 kk0 (.slice a0 n0 cap0)) 26
    have xx0k0 : _ := h0.x.cell 0 _ rfl
    have xx1k0 : _ := h0.x.cell 1 _ rfl
    have xx2k0 : _ := h0.x.cell 2 _ rfl
    have xx3k0 : _ := h0.x.cell 3 _ rfl
    go_wp2_with fail
    go_ret
    exact ⟨rfl, h0.b⟩
  by_cases hm0 : N0 ≤ 1048576
  rotate_left
  ·
    go_enter Try.func4, Try.ntmps4
    have h0 := G1.start w (codL d0 p0 kk0 (.slice a0 n0 cap0)) 26
    have xx0k0 : _ := h0.x.cell 0 _ rfl
    have xx1k0 : _ := h0.x.cell 1 _ rfl
    have xx2k0 : _ := h0.x.cell 2 _ rfl
    have xx3k0 : _ := h0.x.cell 3 _ rfl
    go_wp2_with fail
    refine (szCode_any d0 p0 kk0 a0 n0 cap0 z0 1048576 (by omega) (by omega) _ (h0S.below h0.b)).mono ?_
    rw [HN0.out]
    rintro e w1 ⟨⟨hq, rfl⟩ | ⟨hq, rfl⟩, hb⟩
    · exact absurd hq (by omega)
    · have hb1 := (h0.next hb).b
      clear hb hq
      go_wp2_with fail
      go_ret
      exact ⟨rfl, hb1⟩
  have hn0 : n0 + total z0 ≤ 1048576 := by have := HN0.out; omega
  obtain ⟨r, hr⟩ : ∃ r, fMessageOf d0 p0 kk0 z0 z1 = r := ⟨_, rfl⟩
  have HR := Lib.hid hr
  clear hr
  obtain ⟨r1, r2⟩ := r
  go_enter Try.func4, Try.ntmps4
  have h0 := G1.start w (codL d0 p0 kk0 (.slice a0 n0 cap0)) 26
  have xx0k0 : _ := h0.x.cell 0 _ rfl
  have xx1k0 : _ := h0.x.cell 1 _ rfl
  have xx2k0 : _ := h0.x.cell 2 _ rfl
  have xx3k0 : _ := h0.x.cell 3 _ rfl
  go_wp2_with fail
  refine (szCode_any d0 p0 kk0 a0 n0 cap0 z0 1048576 (by omega) (by omega) _ (h0S.below h0.b)).mono ?_
  rw [HN0.out]
  rintro e w1 ⟨⟨hq, rfl⟩ | ⟨hq, rfl⟩, hb⟩
  rotate_left
  · exact absurd hq (by omega)
  clear hq
  have h1 := h0.next hb
  have xx0k1 : _ := h1.x.cell 0 _ rfl
  have xx1k1 : _ := h1.x.cell 1 _ rfl
  have xx2k1 : _ := h1.x.cell 2 _ rfl
  have xx3k1 : _ := h1.x.cell 3 _ rfl
  have Z1 := Lib.hid h1.z
  clear hb h0 xx0k0 xx1k0 xx2k0 xx3k0
  go_wp2_with fail
  refine (toCode_any d0 p0 kk0 a0 n0 cap0 z0 _ (h0S.below h1.b) hn0).mono ?_
  rintro e w2 ⟨gs0, rfl, ges0, hb, Ss0⟩
  clear ges0
  have h2 := h1.next hb
  have xx0k2 : _ := h2.x.cell 0 _ rfl
  have xx1k2 : _ := h2.x.cell 1 _ rfl
  have xx2k2 : _ := h2.x.cell 2 _ rfl
  have xx3k2 : _ := h2.x.cell 3 _ rfl
  have Z2 := Lib.hid hb.size
  clear hb h1 xx0k1 xx1k1 xx2k1 xx3k1
  go_wp2_with fail
  refine (toInt64S_any a1 n1 cap1 z1 _ (h1A.from h2.b) hn1).mono ?_
  rintro e w3 ⟨gs1, rfl, ges1, hb, Ss1⟩
  replace Ss1 := Ss1.res (cap := n1) ges1
  clear ges1
  have h3 := h2.next hb
  have xx0k3 : _ := h3.x.cell 0 _ rfl
  have xx1k3 : _ := h3.x.cell 1 _ rfl
  have xx2k3 : _ := h3.x.cell 2 _ rfl
  have xx3k3 : _ := h3.x.cell 3 _ rfl
  have Z3 := Lib.hid hb.size
  replace Ss0 := Ss0.next hb
  clear hb h2 xx0k2 xx1k2 xx2k2 xx3k2
  go_wp2_with fail
  have S := specMessageOf_any d0 p0 kk0 (.slice (some ⟨gs0, 0, none⟩) n0 n0) z0 (.slice (some ⟨gs1, 0, none⟩) n1 n1) z1 _ Ss0.rr Ss1
  rw [HR.out] at S
  try dsimp only at S
  refine S.mono ?_
  clear S
  rintro e w4 ⟨vw, rfl, hb, Rw⟩
  have h4 := h3.next hb
  have xx0k4 : _ := h4.x.cell 0 _ rfl
  have xx1k4 : _ := h4.x.cell 1 _ rfl
  have xx2k4 : _ := h4.x.cell 2 _ rfl
  have xx3k4 : _ := h4.x.cell 3 _ rfl
  have Z4 := Lib.hid hb.size
  replace Ss0 := Ss0.next hb
  replace Ss1 := Ss1.next hb
  clear hb h3 xx0k3 xx1k3 xx2k3 xx3k3
  obtain ⟨aow, mow, cow, rfl⟩ := Rw.form
  clear Ss0
  clear Ss1
  go_wp2_with fail
  refine (toCode_any d0 p0 kk0 a0 n0 cap0 z0 _ (h0S.below h4.b) hn0).mono ?_
  rintro e w5 ⟨gx0, rfl, gex0, hb, Sx0⟩
  clear gex0
  have h5 := h4.next hb
  have xx0k5 : _ := h5.x.cell 0 _ rfl
  have xx1k5 : _ := h5.x.cell 1 _ rfl
  have xx2k5 : _ := h5.x.cell 2 _ rfl
  have xx3k5 : _ := h5.x.cell 3 _ rfl
  have Z5 := Lib.hid hb.size
  replace Rw := Rw.next hb
  clear hb h4 xx0k4 xx1k4 xx2k4 xx3k4
  have hb := below_alloc1 w5 (.cells (codL d0 p0 kk0 (.slice (some ⟨gx0, 0, none⟩) n0 n0)).toArray 33)
  have nBx0 := LB.one w5 (codL d0 p0 kk0 (.slice (some ⟨gx0, 0, none⟩) n0 n0)) 33
  have h6 := h5.next hb
  have xx0k6 : _ := h6.x.cell 0 _ rfl
  have xx1k6 : _ := h6.x.cell 1 _ rfl
  have xx2k6 : _ := h6.x.cell 2 _ rfl
  have xx3k6 : _ := h6.x.cell 3 _ rfl
  have Z6 := Lib.hid hb.size
  replace Rw := Rw.next hb
  replace Sx0 := Sx0.next hb
  clear hb h5 xx0k5 xx1k5 xx2k5 xx3k5
  have Y6 := Lib.hid (show w5.heap.size + 1 ≤ (w5.alloc (.cells (codL d0 p0 kk0 (.slice (some ⟨gx0, 0, none⟩) n0 n0)).toArray 33)).heap.size by simp)
  have Bx0 := nBx0; clear nBx0
  have q0Bx0 : _ := Bx0.cell 0 _ rfl
  have q1Bx0 : _ := Bx0.cell 1 _ rfl
  have q2Bx0 : _ := Bx0.cell 2 _ rfl
  have q3Bx0 : _ := Bx0.cell 3 _ rfl
  go_wp2_with fail
  refine (toInt64S_any a1 n1 cap1 z1 _ (h1A.from h6.b) hn1).mono ?_
  rintro e w7 ⟨gx1, rfl, gex1, hb, Sx1⟩
  replace Sx1 := Sx1.res (cap := n1) gex1
  clear gex1
  have h7 := h6.next hb
  have xx0k7 : _ := h7.x.cell 0 _ rfl
  have xx1k7 : _ := h7.x.cell 1 _ rfl
  have xx2k7 : _ := h7.x.cell 2 _ rfl
  have xx3k7 : _ := h7.x.cell 3 _ rfl
  have Z7 := Lib.hid hb.size
  replace Rw := Rw.next hb
  replace Sx0 := Sx0.next hb
  replace Bx0 := Bx0.next hb
  replace q0Bx0 : _ := Bx0.cell 0 _ rfl
  replace q1Bx0 : _ := Bx0.cell 1 _ rfl
  replace q2Bx0 : _ := Bx0.cell 2 _ rfl
  replace q3Bx0 : _ := Bx0.cell 3 _ rfl
  clear hb h6 xx0k6 xx1k6 xx2k6 xx3k6
  go_wp2_with fail
  have S := implMessageOf_any d0 p0 kk0 (.slice (some ⟨gx0, 0, none⟩) n0 n0) z0 (.slice (some ⟨gx1, 0, none⟩) n1 n1) z1 _ hl hh Sx0.rr Sx1
  rw [HR.out] at S
  try dsimp only at S
  refine S.mono ?_
  clear S
  rintro e w8 ⟨vg, rfl, hb, Rg⟩
  have h8 := h7.next hb
  have xx0k8 : _ := h8.x.cell 0 _ rfl
  have xx1k8 : _ := h8.x.cell 1 _ rfl
  have xx2k8 : _ := h8.x.cell 2 _ rfl
  have xx3k8 : _ := h8.x.cell 3 _ rfl
  have Z8 := Lib.hid hb.size
  replace Rw := Rw.next hb
  replace Sx0 := Sx0.next hb
  replace Bx0 := Bx0.next hb
  replace q0Bx0 : _ := Bx0.cell 0 _ rfl
  replace q1Bx0 : _ := Bx0.cell 1 _ rfl
  replace q2Bx0 : _ := Bx0.cell 2 _ rfl
  replace q3Bx0 : _ := Bx0.cell 3 _ rfl
  replace Sx1 := Sx1.next hb
  clear hb h7 xx0k7 xx1k7 xx2k7 xx3k7
  obtain ⟨aog, mog, cog, rfl⟩ := Rg.form
  go_wp2_with fail
  refine (eq_res Rg Rw).mono ?_
  rintro e w9 ⟨rfl, hb⟩
  have h9 := h8.next hb
  have xx0k9 : _ := h9.x.cell 0 _ rfl
  have xx1k9 : _ := h9.x.cell 1 _ rfl
  have xx2k9 : _ := h9.x.cell 2 _ rfl
  have xx3k9 : _ := h9.x.cell 3 _ rfl
  have Z9 := Lib.hid hb.size
  replace Rw := Rw.next hb
  replace Sx0 := Sx0.next hb
  replace Bx0 := Bx0.next hb
  replace q0Bx0 : _ := Bx0.cell 0 _ rfl
  replace q1Bx0 : _ := Bx0.cell 1 _ rfl
  replace q2Bx0 : _ := Bx0.cell 2 _ rfl
  replace q3Bx0 : _ := Bx0.cell 3 _ rfl
  replace Sx1 := Sx1.next hb
  replace Rg := Rg.next hb
  clear hb h8 xx0k8 xx1k8 xx2k8 xx3k8
  have HD := Lib.hid h9.drew
  have ORw := Lib.hid (Rw.next (Below.refl _ w9).drew)
  have OSx0 := Lib.hid (Sx0.next (Below.refl _ w9).drew)
  have OBx0 := Lib.hid (Bx0.next (Below.refl _ w9).drew)
  have OSx1 := Lib.hid (Sx1.next (Below.refl _ w9).drew)
  have ORg := Lib.hid (Rg.next (Below.refl _ w9).drew)
  go_wp2_with fail
  go_region_law (go_simp; go_wp2_with (first | (go_at_call 16; refine (toCode_any d0 p0 kk0 a0 n0 cap0 z0 _ (h0S.below HD.out.b) hn0).mono ?_; rintro e w10 ⟨b7, rfl, ge7, hb, M7⟩; have H7 := Lib.hid (HD.out.next hb); have PRw := Lib.hid (ORw.out.next hb); have PSx0 := Lib.hid (OSx0.out.next hb); have PBx0 := Lib.hid (OBx0.out.next hb); have PSx1 := Lib.hid (OSx1.out.next hb); have PRg := Lib.hid (ORg.out.next hb); have RY := Lib.hid M7.rr; have mq0 : _ := PBx0.out.cell 0 _ rfl; have mq1 : _ := PBx0.out.cell 1 _ rfl; have mq2 : _ := PBx0.out.cell 2 _ rfl; have mq3 : _ := PBx0.out.cell 3 _ rfl; have Z10 := Lib.hid (show w9.heap.size ≤ w10.heap.size from hb.size); clear hb ge7 M7) | (go_at_call 20; refine (eqCode_rr d0 p0 kk0 PSx0.out.rr RY.out).mono ?_; rintro e w11 ⟨rfl, hb⟩; have H8 := Lib.hid (H7.out.next hb); have QRw := Lib.hid (PRw.out.next hb); have QSx0 := Lib.hid (PSx0.out.next hb); have QBx0 := Lib.hid (PBx0.out.next hb); have QSx1 := Lib.hid (PSx1.out.next hb); have QRg := Lib.hid (PRg.out.next hb); have Z11 := Lib.hid hb.size; clear hb)))
  all_goals
    have h11 := H8.out
    clear xx0k9 xx1k9 xx2k9 xx3k9 mq0 mq1 mq2 mq3
    have xx0k11 : _ := h11.x.cell 0 _ rfl
    have xx1k11 : _ := h11.x.cell 1 _ rfl
    have xx2k11 : _ := h11.x.cell 2 _ rfl
    have xx3k11 : _ := h11.x.cell 3 _ rfl
    replace Rw := QRw.out
    replace Sx0 := QSx0.out
    replace Bx0 := QBx0.out
    replace q0Bx0 : _ := Bx0.cell 0 _ rfl
    replace q1Bx0 : _ := Bx0.cell 1 _ rfl
    replace q2Bx0 : _ := Bx0.cell 2 _ rfl
    replace q3Bx0 : _ := Bx0.cell 3 _ rfl
    replace Sx1 := QSx1.out
    replace Rg := QRg.out
    clear ORw PRw QRw OSx0 PSx0 QSx0 OBx0 PBx0 QBx0 OSx1 PSx1 QSx1 ORg PRg QRg HD H7 H8 RY
    go_wp2_with fail
    refine (toInt64S_any a1 n1 cap1 z1 _ (h1A.from h11.b) hn1).mono ?_
    rintro e w12 ⟨gy1, rfl, gey1, hb, Sy1⟩
    replace Sy1 := Sy1.res (cap := n1) gey1
    clear gey1
    have h12 := h11.next hb
    have xx0k12 : _ := h12.x.cell 0 _ rfl
    have xx1k12 : _ := h12.x.cell 1 _ rfl
    have xx2k12 : _ := h12.x.cell 2 _ rfl
    have xx3k12 : _ := h12.x.cell 3 _ rfl
    have Z12 := Lib.hid hb.size
    replace Rw := Rw.next hb
    replace Sx0 := Sx0.next hb
    replace Bx0 := Bx0.next hb
    replace q0Bx0 : _ := Bx0.cell 0 _ rfl
    replace q1Bx0 : _ := Bx0.cell 1 _ rfl
    replace q2Bx0 : _ := Bx0.cell 2 _ rfl
    replace q3Bx0 : _ := Bx0.cell 3 _ rfl
    replace Sx1 := Sx1.next hb
    replace Rg := Rg.next hb
    clear hb h11 xx0k11 xx1k11 xx2k11 xx3k11
    go_wp2_with fail
    refine (eq_res Sx1 Sy1).mono ?_
    rintro e w13 ⟨rfl, hb⟩
    have h13 := h12.next hb
    have xx0k13 : _ := h13.x.cell 0 _ rfl
    have xx1k13 : _ := h13.x.cell 1 _ rfl
    have xx2k13 : _ := h13.x.cell 2 _ rfl
    have xx3k13 : _ := h13.x.cell 3 _ rfl
    have Z13 := Lib.hid hb.size
    replace Rw := Rw.next hb
    replace Sx0 := Sx0.next hb
    replace Bx0 := Bx0.next hb
    replace q0Bx0 : _ := Bx0.cell 0 _ rfl
    replace q1Bx0 : _ := Bx0.cell 1 _ rfl
    replace q2Bx0 : _ := Bx0.cell 2 _ rfl
    replace q3Bx0 : _ := Bx0.cell 3 _ rfl
    replace Sx1 := Sx1.next hb
    replace Rg := Rg.next hb
    replace Sy1 := Sy1.next hb
    clear hb h12 xx0k12 xx1k12 xx2k12 xx3k12
    clear Sy1
    have l8 := Rg.small
    go_wp2_with fail
    refine (markCode_rs d0 p0 kk0 Sx0 1 (by omega)).mono ?_
    rintro e w14 ⟨rfl, hC, -⟩
    clear Sx0
    have h14 := h13.chg hC (by have := Z1.out; have := Z2.out; have := Z3.out; have := Z4.out; have := Z5.out; have := Z6.out; have := Z7.out; have := Z8.out; have := Z9.out; have := Z10.out; have := Z11.out; have := Z12.out; have := Z13.out; have := Y6.out; omega)
    have xx0k14 : _ := h14.x.cell 0 _ rfl
    have xx1k14 : _ := h14.x.cell 1 _ rfl
    have xx2k14 : _ := h14.x.cell 2 _ rfl
    have xx3k14 : _ := h14.x.cell 3 _ rfl
    have Z14 := Lib.hid hC.size
    replace Rw := Rw.chg hC (by have := Z1.out; have := Z2.out; have := Z3.out; have := Z4.out; have := Z5.out; have := Z6.out; have := Z7.out; have := Z8.out; have := Z9.out; have := Z10.out; have := Z11.out; have := Z12.out; have := Z13.out; have := Y6.out; omega)
    replace Bx0 := Bx0.chg hC (by have := Z1.out; have := Z2.out; have := Z3.out; have := Z4.out; have := Z5.out; have := Z6.out; have := Z7.out; have := Z8.out; have := Z9.out; have := Z10.out; have := Z11.out; have := Z12.out; have := Z13.out; have := Y6.out; omega)
    replace q0Bx0 : _ := Bx0.cell 0 _ rfl
    replace q1Bx0 : _ := Bx0.cell 1 _ rfl
    replace q2Bx0 : _ := Bx0.cell 2 _ rfl
    replace q3Bx0 : _ := Bx0.cell 3 _ rfl
    replace Sx1 := Sx1.chg hC (by have := Z1.out; have := Z2.out; have := Z3.out; have := Z4.out; have := Z5.out; have := Z6.out; have := Z7.out; have := Z8.out; have := Z9.out; have := Z10.out; have := Z11.out; have := Z12.out; have := Z13.out; have := Y6.out; omega)
    replace Rg := Rg.chg hC (by have := Z1.out; have := Z2.out; have := Z3.out; have := Z4.out; have := Z5.out; have := Z6.out; have := Z7.out; have := Z8.out; have := Z9.out; have := Z10.out; have := Z11.out; have := Z12.out; have := Z13.out; have := Y6.out; omega)
    clear hC h13 xx0k13 xx1k13 xx2k13 xx3k13
    clear Bx0 q0Bx0 q1Bx0 q2Bx0 q3Bx0
    generalize hk : 1 + total z0 = k1
    have hk1 : k1 ≤ 1048577 := by omega
    clear hk
    go_wp2_with fail
    refine (mark_res Sx1 k1 (by omega) (by omega)).mono ?_
    rintro e w15 ⟨rfl, hC, -⟩
    clear Sx1
    have h15 := h14.chg hC (by have := Z1.out; have := Z2.out; have := Z3.out; have := Z4.out; have := Z5.out; have := Z6.out; have := Z7.out; have := Z8.out; have := Z9.out; have := Z10.out; have := Z11.out; have := Z12.out; have := Z13.out; have := Z14.out; have := Y6.out; omega)
    have xx0k15 : _ := h15.x.cell 0 _ rfl
    have xx1k15 : _ := h15.x.cell 1 _ rfl
    have xx2k15 : _ := h15.x.cell 2 _ rfl
    have xx3k15 : _ := h15.x.cell 3 _ rfl
    have Z15 := Lib.hid hC.size
    replace Rw := Rw.chg hC (by have := Z1.out; have := Z2.out; have := Z3.out; have := Z4.out; have := Z5.out; have := Z6.out; have := Z7.out; have := Z8.out; have := Z9.out; have := Z10.out; have := Z11.out; have := Z12.out; have := Z13.out; have := Z14.out; have := Y6.out; omega)
    replace Rg := Rg.chg hC (by have := Z1.out; have := Z2.out; have := Z3.out; have := Z4.out; have := Z5.out; have := Z6.out; have := Z7.out; have := Z8.out; have := Z9.out; have := Z10.out; have := Z11.out; have := Z12.out; have := Z13.out; have := Z14.out; have := Y6.out; omega)
    clear hC h14 xx0k14 xx1k14 xx2k14 xx3k14
    generalize hk : k1 + z1.length = k2
    have hk2 : k2 ≤ 2097153 := by omega
    clear hk
    go_wp2_with fail
    refine (eq_res Rg Rw).mono ?_
    rintro e w16 ⟨rfl, hb⟩
    have h16 := h15.next hb
    have xx0k16 : _ := h16.x.cell 0 _ rfl
    have xx1k16 : _ := h16.x.cell 1 _ rfl
    have xx2k16 : _ := h16.x.cell 2 _ rfl
    have xx3k16 : _ := h16.x.cell 3 _ rfl
    have Z16 := Lib.hid hb.size
    replace Rw := Rw.next hb
    replace Rg := Rg.next hb
    clear hb h15 xx0k15 xx1k15 xx2k15 xx3k15
    go_wp2_with fail
    refine (mark_res Rg 1 (by omega) (by omega)).mono ?_
    rintro e w17 ⟨rfl, hC, HM⟩
    clear Rg
    have h17 := h16.chg hC (by have := Z1.out; have := Z2.out; have := Z3.out; have := Z4.out; have := Z5.out; have := Z6.out; have := Z7.out; have := Z8.out; have := Z9.out; have := Z10.out; have := Z11.out; have := Z12.out; have := Z13.out; have := Z14.out; have := Z15.out; have := Z16.out; have := Y6.out; omega)
    have xx0k17 : _ := h17.x.cell 0 _ rfl
    have xx1k17 : _ := h17.x.cell 1 _ rfl
    have xx2k17 : _ := h17.x.cell 2 _ rfl
    have xx3k17 : _ := h17.x.cell 3 _ rfl
    have Z17 := Lib.hid hC.size
    replace Rw := Rw.chg hC (by have := Z1.out; have := Z2.out; have := Z3.out; have := Z4.out; have := Z5.out; have := Z6.out; have := Z7.out; have := Z8.out; have := Z9.out; have := Z10.out; have := Z11.out; have := Z12.out; have := Z13.out; have := Z14.out; have := Z15.out; have := Z16.out; have := Y6.out; omega)
    clear hC h16 xx0k16 xx1k16 xx2k16 xx3k16
    go_wp2_with fail
    refine (held_res 1 r1.length HM (by omega) (by omega)).mono ?_
    rintro e w' ⟨rfl, rfl⟩
    go_wp2_with fail
    refine (toCode_any d0 p0 kk0 a0 n0 cap0 z0 _ (h0S.below h17.b) hn0).mono ?_
    rintro e w18 ⟨gt0, rfl, get0, hb, St0⟩
    clear get0
    have h18 := h17.next hb
    have xx0k18 : _ := h18.x.cell 0 _ rfl
    have xx1k18 : _ := h18.x.cell 1 _ rfl
    have xx2k18 : _ := h18.x.cell 2 _ rfl
    have xx3k18 : _ := h18.x.cell 3 _ rfl
    have Z18 := Lib.hid hb.size
    replace Rw := Rw.next hb
    replace HM := HM.next hb
    clear hb h17 xx0k17 xx1k17 xx2k17 xx3k17
    go_wp2_with fail
    refine (toInt64S_any a1 n1 cap1 z1 _ (h1A.from h18.b) hn1).mono ?_
    rintro e w19 ⟨gt1, rfl, get1, hb, St1⟩
    replace St1 := St1.res (cap := n1) get1
    clear get1
    have h19 := h18.next hb
    have xx0k19 : _ := h19.x.cell 0 _ rfl
    have xx1k19 : _ := h19.x.cell 1 _ rfl
    have xx2k19 : _ := h19.x.cell 2 _ rfl
    have xx3k19 : _ := h19.x.cell 3 _ rfl
    have Z19 := Lib.hid hb.size
    replace Rw := Rw.next hb
    replace HM := HM.next hb
    replace St0 := St0.next hb
    clear hb h18 xx0k18 xx1k18 xx2k18 xx3k18
    go_wp2_with fail
    have S := implMessageOf_any d0 p0 kk0 (.slice (some ⟨gt0, 0, none⟩) n0 n0) z0 (.slice (some ⟨gt1, 0, none⟩) n1 n1) z1 _ hl hh St0.rr St1
    rw [HR.out] at S
    try dsimp only at S
    refine S.mono ?_
    clear S
    rintro e w20 ⟨vh, rfl, hb, Rh⟩
    have h20 := h19.next hb
    have xx0k20 : _ := h20.x.cell 0 _ rfl
    have xx1k20 : _ := h20.x.cell 1 _ rfl
    have xx2k20 : _ := h20.x.cell 2 _ rfl
    have xx3k20 : _ := h20.x.cell 3 _ rfl
    have Z20 := Lib.hid hb.size
    replace Rw := Rw.next hb
    replace HM := HM.next hb
    replace St0 := St0.next hb
    replace St1 := St1.next hb
    clear hb h19 xx0k19 xx1k19 xx2k19 xx3k19
    obtain ⟨aoh, moh, coh, rfl⟩ := Rh.form
    clear St0
    clear St1
    go_wp2_with fail
    refine (eq_res Rh Rw).mono ?_
    rintro e w21 ⟨rfl, hb⟩
    have h21 := h20.next hb
    have xx0k21 : _ := h21.x.cell 0 _ rfl
    have xx1k21 : _ := h21.x.cell 1 _ rfl
    have xx2k21 : _ := h21.x.cell 2 _ rfl
    have xx3k21 : _ := h21.x.cell 3 _ rfl
    have Z21 := Lib.hid hb.size
    replace Rw := Rw.next hb
    replace HM := HM.next hb
    replace Rh := Rh.next hb
    clear hb h20 xx0k20 xx1k20 xx2k20 xx3k20
    go_wp2_with fail
    refine (held_res 1 r1.length HM (by omega) (by omega)).mono ?_
    rintro e w' ⟨rfl, rfl⟩
    go_wp2_with fail
    go_ret
    exact ⟨rfl, h21.b⟩

set_option maxRecDepth 100000 in
theorem lifted (os : Os) (started : os.Started) (H : Type) (enc : TypeId × Value → H) :
    ReturnsInHanded {} Try.checked os 4 .any (Rows.fnExactMessageOfSpec.pre6 enc Try.prog Try.f4 Rows.fnExactMessageOfRow.domain false) (Rows.fnExactMessageOfSpec.post enc Try.prog Try.f4 false true false false) := by
  refine returnsInHanded_of_change (C := Try.checked) own started (by kernel_rfl) Try.func4
    (ChangeSpec.witness6 (enc := enc) (C := Try.checked) false ⟨#[], #[.agg #[.int .i64 0, .int .i64 0, .int .i64 0, .slice none 0 0], .slice none 0 0], []⟩ 8 (by kernel_rfl) (by kernel_rfl) (by kernel_rfl) (by kernel_rfl)) ?_
  intro W base args ds gs before hval0 hW hcnd _
  have hval : ∀ (j : Nat) t v, Try.f4.params[j]? = some t → args[j]? = some v → Value.okWide Try.prog W .any base t v := hval0
  have hW' := hW
  obtain ⟨p, q, hA0, hV, rfl, hfz, hnd⟩ := hW
  have hA : DataW.TrodAll enc Try.prog W 0 (fun _ => true) true Try.f4.params.toList args.toList ds p := hA0
  rw [Try.params4] at hA hval
  obtain ⟨v0, vs0, dd0, ds0, pp0, qq0, hargs, rfl, rfl, h0, r0⟩ := trodAll_cons hA
  obtain ⟨v1, vs1, dd1, ds1, pp1, qq1, rfl, rfl, rfl, h1, r1⟩ := trodAll_cons r0
  obtain ⟨rfl, rfl, rfl⟩ := trodAll_nil r1
  obtain rfl : args = #[v0, v1] := by cases args; simp_all
  obtain ⟨rfl, rfl⟩ := trodVars_none hV
  have k0 := h0
  have lt0 : ∀ x ∈ pp0, x.block < W.heap.size := by obtain ⟨m, hm⟩ := k0; exact DataW.trod_lt m _ _ _ hm
  obtain ⟨d0, p0, kk0, a0, n0, cap0, z0, rfl, wd0, wp0, wk0, w0⟩ := code_open (hval 0 26 v0 rfl rfl) h0
  have k1 := h1
  have lt1 : ∀ x ∈ pp1, x.block < W.heap.size := by obtain ⟨m, hm⟩ := k1; exact DataW.trod_lt m _ _ _ hm
  obtain ⟨a1, n1, cap1, rfl⟩ := okWide_slice Try.underlying27 (hval 1 27 v1 rfl rfl)
  obtain ⟨z1, w1⟩ : ∃ z, Arg W a1 n1 z := by
    obtain ⟨fuel, hf⟩ := h1
    obtain ⟨A, k, c, z, e, w⟩ := arg_open (v := .slice a1 n1 cap1) hf
    injection e with e1 e2 e3
    subst e1 e2 e3
    exact ⟨z, w⟩
  clear hA0 hval0
  refine (walk d0 p0 kk0 wd0 wp0 wk0 a0 n0 cap0 z0 a1 n1 cap1 z1 W w0 w1).mono fun e W' ⟨he, bel⟩ => ?_
  subst he
  exact ⟨_, rfl, _, _, _, [], _, [], hW', trodAll_mk1 (shut_bool Try.underlying4 _), (trodAll_cons_mk (Below.trod laidOut (by kernel_rfl) (of_decide_eq_true (by kernel_rfl)) k0 bel lt0) (trodAll_cons_mk (Below.trod laidOut (by kernel_rfl) (of_decide_eq_true (by kernel_rfl)) k1 bel lt1) trodAll_mk0)), rfl, bel.frame _, fun h => by cases h⟩

theorem over : Rows.fnExactMessageOfRow.holds Try.pinned (OpenSpec.ofChange Rows.fnExactMessageOfSpec) :=
  OpenClaim.holds_of_wide 4 Try.f4 rfl rfl rfl rfl rfl rfl rfl ⟨rfl, rfl, rfl, rfl, rfl⟩ rfl rfl rfl rfl rfl (by kernel_rfl) Try.func4 (by kernel_rfl)
    (of_decide_eq_true (by kernel_rfl)) (by unfold Func.isWrapper; first | (rw [if_pos (by decide +kernel)]; kernel_rfl) | (rw [if_neg (by decide +kernel)]; exact ⟨rfl, rfl⟩))
    (fun os started H enc _ => lifted os started H enc)

theorem proved : Rows.FnExactMessageOfSaid :=
  over
#print axioms proved
end Go.Proofs.Ytljaabmemjehpaa.fnExactMessageOf
