/- FnExactSameGabidulin: for every input the law returns true, and every argument reads afterwards as it read before. No condition. -/
import Derived.Test.YtcdhdgflgdmhdaaRows
import Derived.WalkKit
import Derived.ProofKit
import Derived.OpenShut
import Derived.ChangeOld
import Derived.Below
import Derived.Lib.SmallJoins
import Derived.Test.YtcdhdgflgdmhdaaSameGabidulin
import Derived.Test.YtcdhdgflgdmhdaaGabArg
import Derived.Test.YtcdhdgflgdmhdaaG8
import Derived.Test.YtcdhdgflgdmhdaaMtRes
import Derived.Test.YtcdhdgflgdmhdaaArg
import Derived.Test.YtcdhdgflgdmhdaaToField
import Derived.Test.YtcdhdgflgdmhdaaThird
import Derived.Test.YtcdhdgflgdmhdaaRow
import Derived.Test.YtcdhdgflgdmhdaaRes
import Derived.Test.YtcdhdgflgdmhdaaStep
namespace Go.Proofs.Ytcdhdgflgdmhdaa.fnExactSameGabidulin
open Go.ChangeShapes Go.WideShapes Go.ChangeAt Go.RowKit Go.Joins
set_option linter.unusedVariables false

theorem own : ownKnob Try.prog.godebug = none := by kernel_rfl
theorem laidOut : laidOutB Try.prog = true := by kernel_rfl

set_option maxRecDepth 100000 in
set_option maxHeartbeats 6400000 in
theorem walk (d0 p0 kk0 : Int) (wd0 : (Lit.int .i64 d0).wf = true) (wp0 : (Lit.int .i64 p0).wf = true) (wk0 : (Lit.int .i64 kk0).wf = true) (a0 : Option Addr) (n0 cap0 : Nat) (z0 : List Int) (d1 p1 kk1 : Int) (wd1 : (Lit.int .i64 d1).wf = true) (wp1 : (Lit.int .i64 p1).wf = true) (wk1 : (Lit.int .i64 kk1).wf = true) (a1 : Option Addr) (n1 cap1 : Nat) (z1 : List Int) (w : World) (h0A : Arg w a0 n0 z0) (h1A : Arg w a1 n1 z1) :
    Calls Try.prog 9 #[.agg (gabC d0 p0 (.slice a0 n0 cap0) kk0), .agg (gabC d1 p1 (.slice a1 n1 cap1) kk1)] w fun e w' => e = .returned (.bool true) ∧ Below w.heap.size w w' := by
  have big0 := h0A.big
  have l0 := h0A.len
  have big1 := h1A.big
  have l1 := h1A.len
  by_cases hn0 : n0 ≤ 1048576
  rotate_left
  ·
    go_enter Try.func9, Try.ntmps9
    have h0 := G8.start w d0 p0 (.slice a0 n0 cap0) kk0 d1 p1 (.slice a1 n1 cap1) kk1 49
    have x0 := h0.x.c0; have xx0 := h0.y.c0
    have y0 := h0.x.c1; have yy0 := h0.y.c1
    have u0 := h0.x.c2; have uu0 := h0.y.c2
    have v0 := h0.x.c3; have vv0 := h0.y.c3
    go_wp2_with fail
    refine (szGab_no d0 p0 kk0 a0 n0 cap0 (by omega) 1048576 (by omega) (by omega) (by omega) _).mono ?_
    rintro e w1 ⟨rfl, hb⟩
    have hb1 := (h0.next hb).b
    clear hb
    go_wp2_with fail
    go_ret
    exact ⟨rfl, hb1⟩
  by_cases hn1 : n0 + n1 ≤ 1048576
  rotate_left
  ·
    go_enter Try.func9, Try.ntmps9
    have h0 := G8.start w d0 p0 (.slice a0 n0 cap0) kk0 d1 p1 (.slice a1 n1 cap1) kk1 49
    have x0 := h0.x.c0; have xx0 := h0.y.c0
    have y0 := h0.x.c1; have yy0 := h0.y.c1
    have u0 := h0.x.c2; have uu0 := h0.y.c2
    have v0 := h0.x.c3; have vv0 := h0.y.c3
    go_wp2_with fail
    refine (szGab_ok d0 p0 kk0 a0 n0 cap0 1048576 (by omega) (by omega) _).mono ?_
    rintro e w1 ⟨rfl, hb⟩
    have h1 := h0.next hb
    have x1 := h1.x.c0; have xx1 := h1.y.c0
    have y1 := h1.x.c1; have yy1 := h1.y.c1
    have u1 := h1.x.c2; have uu1 := h1.y.c2
    have v1 := h1.x.c3; have vv1 := h1.y.c3
    clear hb h0 x0 xx0 y0 yy0 u0 uu0 v0 vv0
    go_wp2_with fail
    refine (szGab_no d1 p1 kk1 a1 n1 cap1 (by omega) (1048576 - (n0 : Int)) (by omega) (by omega) (by omega) _).mono ?_
    rintro e w2 ⟨rfl, hb⟩
    have hb1 := (h1.next hb).b
    clear hb
    go_wp2_with fail
    go_ret
    exact ⟨rfl, hb1⟩
  replace hn1 : n1 ≤ 1048576 ∧ (n1 : Int) ≤ 1048576 - (n0 : Int) := by omega
  obtain ⟨hn1, hn2⟩ := hn1
  obtain ⟨r, hr⟩ : ∃ r, fSameGabidulin d0 p0 z0 kk0 d1 p1 z1 kk1 = r := ⟨_, rfl⟩
  have HR := Lib.hid hr
  clear hr
  go_enter Try.func9, Try.ntmps9
  have h0 := G8.start w d0 p0 (.slice a0 n0 cap0) kk0 d1 p1 (.slice a1 n1 cap1) kk1 49
  have x0 := h0.x.c0; have xx0 := h0.y.c0
  have y0 := h0.x.c1; have yy0 := h0.y.c1
  have u0 := h0.x.c2; have uu0 := h0.y.c2
  have v0 := h0.x.c3; have vv0 := h0.y.c3
  go_wp2_with fail
  refine (szGab_ok d0 p0 kk0 a0 n0 cap0 1048576 (by omega) (by omega) _).mono ?_
  rintro e w1 ⟨rfl, hb⟩
  have h1 := h0.next hb
  have x1 := h1.x.c0; have xx1 := h1.y.c0
  have y1 := h1.x.c1; have yy1 := h1.y.c1
  have u1 := h1.x.c2; have uu1 := h1.y.c2
  have v1 := h1.x.c3; have vv1 := h1.y.c3
  clear hb h0 x0 xx0 y0 yy0 u0 uu0 v0 vv0
  go_wp2_with fail
  refine (szGab_ok d1 p1 kk1 a1 n1 cap1 (1048576 - (n0 : Int)) (by omega) (by omega) _).mono ?_
  rintro e w2 ⟨rfl, hb⟩
  have h2 := h1.next hb
  have x2 := h2.x.c0; have xx2 := h2.y.c0
  have y2 := h2.x.c1; have yy2 := h2.y.c1
  have u2 := h2.x.c2; have uu2 := h2.y.c2
  have v2 := h2.x.c3; have vv2 := h2.y.c3
  clear hb h1 x1 xx1 y1 yy1 u1 uu1 v1 vv1
  have HD := Lib.hid h2.drew
  clear x2 xx2 y2 yy2 u2 uu2 v2 vv2
  have HZ := Lib.hid h2
  have D0 := (HD.out).x.c0; have D1 := (HD.out).x.c1; have D2 := (HD.out).x.c2; have D3 := (HD.out).x.c3; have E0 := (HD.out).y.c0; have E1 := (HD.out).y.c1; have E2 := (HD.out).y.c2; have E3 := (HD.out).y.c3
  go_wp2_with fail
  go_region_law (go_simp; go_wp2_with (first | (go_at_call 36; first | (refine (toGab_any d0 p0 kk0 a0 n0 cap0 z0 _ (h0A.from HDB.out.b) hn0).mono ?_; rintro e vHDC ⟨bs0, rfl, ge0, hb, M0⟩; have HDC := Lib.hid (HDB.out.next hb); have HDC0 := HDC.out.x.c0; have HDC1 := HDC.out.x.c1; have HDC2 := HDC.out.x.c2; have HDC3 := HDC.out.x.c3; have HDC4 := HDC.out.y.c0; have HDC5 := HDC.out.y.c1; have HDC6 := HDC.out.y.c2; have HDC7 := HDC.out.y.c3; replace M1 := M1.below hb; clear hb ge0) | (refine (toGab_any d1 p1 kk1 a1 n1 cap1 z1 _ (h1A.from HDA.out.b) hn1).mono ?_; rintro e vHDC ⟨bs1, rfl, ge1, hb, M1⟩; have HDC := Lib.hid (HDA.out.next hb); have HDC0 := HDC.out.x.c0; have HDC1 := HDC.out.x.c1; have HDC2 := HDC.out.x.c2; have HDC3 := HDC.out.x.c3; have HDC4 := HDC.out.y.c0; have HDC5 := HDC.out.y.c1; have HDC6 := HDC.out.y.c2; have HDC7 := HDC.out.y.c3; replace M0 := M0.below hb; clear hb ge1) | (refine (toGab_any d0 p0 kk0 a0 n0 cap0 z0 _ (h0A.from HD.out.b) hn0).mono ?_; rintro e vHDA ⟨bs0, rfl, ge0, hb, M0⟩; have HDA := Lib.hid (HD.out.next hb); have HDA0 := HDA.out.x.c0; have HDA1 := HDA.out.x.c1; have HDA2 := HDA.out.x.c2; have HDA3 := HDA.out.x.c3; have HDA4 := HDA.out.y.c0; have HDA5 := HDA.out.y.c1; have HDA6 := HDA.out.y.c2; have HDA7 := HDA.out.y.c3;  clear hb ge0) | (refine (toGab_any d1 p1 kk1 a1 n1 cap1 z1 _ (h1A.from HD.out.b) hn1).mono ?_; rintro e vHDB ⟨bs1, rfl, ge1, hb, M1⟩; have HDB := Lib.hid (HD.out.next hb); have HDB0 := HDB.out.x.c0; have HDB1 := HDB.out.x.c1; have HDB2 := HDB.out.x.c2; have HDB3 := HDB.out.x.c3; have HDB4 := HDB.out.y.c0; have HDB5 := HDB.out.y.c1; have HDB6 := HDB.out.y.c2; have HDB7 := HDB.out.y.c3;  clear hb ge1)) | (go_at_call 35; have S := specSameGabidulin_any d0 p0 kk0 bs0 n0 n0 z0 d1 p1 kk1 bs1 n1 n1 z1 _ M0 M1; rw [HR.out] at S; refine S.mono ?_; clear S; rintro e w9 ⟨rfl, hb⟩; have H9 := Lib.hid (HDC.out.next hb); clear hb)))
  all_goals
    have h9 := H9.out
    have x9 := h9.x.c0; have xx9 := h9.y.c0
    have y9 := h9.x.c1; have yy9 := h9.y.c1
    have u9 := h9.x.c2; have uu9 := h9.y.c2
    have v9 := h9.x.c3; have vv9 := h9.y.c3
    clear M0 M1
    go_wp2_with fail
    refine (toGab_any d0 p0 kk0 a0 n0 cap0 z0 _ (h0A.from h9.b) hn0).mono ?_
    rintro e w10 ⟨bx, rfl, gex, hb, Mx⟩
    have h10 := h9.next hb
    have x10 := h10.x.c0; have xx10 := h10.y.c0
    have y10 := h10.x.c1; have yy10 := h10.y.c1
    have u10 := h10.x.c2; have uu10 := h10.y.c2
    have v10 := h10.x.c3; have vv10 := h10.y.c3
    clear hb h9 x9 xx9 y9 yy9 u9 uu9 v9 vv9
    have Rx := Mx.res (cap := n0) gex
    clear gex
    have hb := below_alloc1 w10 (.cells (gabC d0 p0 (.slice (some ⟨bx, 0, none⟩) n0 n0) kk0) 53)
    have nBx := Box4.one w10 (.int .i64 d0) (.int .i64 p0) (.slice (some ⟨bx, 0, none⟩) n0 n0) (.int .i64 kk0) 53
    have h11 := h10.next hb
    have x11 := h11.x.c0; have xx11 := h11.y.c0
    have y11 := h11.x.c1; have yy11 := h11.y.c1
    have u11 := h11.x.c2; have uu11 := h11.y.c2
    have v11 := h11.x.c3; have vv11 := h11.y.c3
    replace Mx := Mx.below hb
    replace Rx := Rx.next hb
    clear hb h10 x10 xx10 y10 yy10 u10 uu10 v10 vv10
    have Bx := nBx; clear nBx
    have q0Bx : _ := Bx.c0
    have q1Bx : _ := Bx.c1
    have q2Bx : _ := Bx.c2
    have q3Bx : _ := Bx.c3
    go_wp2_with fail
    refine (toGab_any d1 p1 kk1 a1 n1 cap1 z1 _ (h1A.from h11.b) hn1).mono ?_
    rintro e w12 ⟨bY, rfl, gey, hb, My⟩
    have h12 := h11.next hb
    have x12 := h12.x.c0; have xx12 := h12.y.c0
    have y12 := h12.x.c1; have yy12 := h12.y.c1
    have u12 := h12.x.c2; have uu12 := h12.y.c2
    have v12 := h12.x.c3; have vv12 := h12.y.c3
    replace Mx := Mx.below hb
    replace Rx := Rx.next hb
    replace Bx := Bx.next hb
    replace q0Bx : _ := Bx.c0
    replace q1Bx : _ := Bx.c1
    replace q2Bx : _ := Bx.c2
    replace q3Bx : _ := Bx.c3
    clear hb h11 x11 xx11 y11 yy11 u11 uu11 v11 vv11
    have Ry := My.res (cap := n1) gey
    clear gey
    have hb := below_alloc1 w12 (.cells (gabC d1 p1 (.slice (some ⟨bY, 0, none⟩) n1 n1) kk1) 53)
    have nBy := Box4.one w12 (.int .i64 d1) (.int .i64 p1) (.slice (some ⟨bY, 0, none⟩) n1 n1) (.int .i64 kk1) 53
    have h13 := h12.next hb
    have x13 := h13.x.c0; have xx13 := h13.y.c0
    have y13 := h13.x.c1; have yy13 := h13.y.c1
    have u13 := h13.x.c2; have uu13 := h13.y.c2
    have v13 := h13.x.c3; have vv13 := h13.y.c3
    replace Mx := Mx.below hb
    replace Rx := Rx.next hb
    replace Bx := Bx.next hb
    replace q0Bx : _ := Bx.c0
    replace q1Bx : _ := Bx.c1
    replace q2Bx : _ := Bx.c2
    replace q3Bx : _ := Bx.c3
    replace My := My.below hb
    replace Ry := Ry.next hb
    clear hb h12 x12 xx12 y12 yy12 u12 uu12 v12 vv12
    have By := nBy; clear nBy
    have q0By : _ := By.c0
    have q1By : _ := By.c1
    have q2By : _ := By.c2
    have q3By : _ := By.c3
    go_wp2_with fail
    have S := implSameGabidulin_any d0 p0 kk0 bx n0 n0 z0 d1 p1 kk1 bY n1 n1 z1 _ Mx My
    rw [HR.out] at S
    refine S.mono ?_
    clear S
    rintro e w14 ⟨rfl, hb⟩
    have h14 := h13.next hb
    have x14 := h14.x.c0; have xx14 := h14.y.c0
    have y14 := h14.x.c1; have yy14 := h14.y.c1
    have u14 := h14.x.c2; have uu14 := h14.y.c2
    have v14 := h14.x.c3; have vv14 := h14.y.c3
    replace Mx := Mx.below hb
    replace Rx := Rx.next hb
    replace Bx := Bx.next hb
    replace q0Bx : _ := Bx.c0
    replace q1Bx : _ := Bx.c1
    replace q2Bx : _ := Bx.c2
    replace q3Bx : _ := Bx.c3
    replace My := My.below hb
    replace Ry := Ry.next hb
    replace By := By.next hb
    replace q0By : _ := By.c0
    replace q1By : _ := By.c1
    replace q2By : _ := By.c2
    replace q3By : _ := By.c3
    clear hb h13 x13 xx13 y13 yy13 u13 uu13 v13 vv13
    clear Mx
    clear My
    have HDa := Lib.hid h14.drew
    have RDa := Lib.hid (Rx.next (Below.refl _ w14).drew)
    have BDa := Lib.hid (Bx.next (Below.refl _ w14).drew)
    have OaRy := Lib.hid (Ry.next (Below.refl _ w14).drew)
    have OaBy := Lib.hid (By.next (Below.refl _ w14).drew)
    go_wp2_with fail
    go_region_law (go_simp; go_wp2_with (first | (go_at_call 36; refine (toGab_any d0 p0 kk0 a0 n0 cap0 z0 _ (h0A.from HDa.out.b) hn0).mono ?_; rintro e va7 ⟨ba7, rfl, ge7, hb, M7⟩; have Ha7 := Lib.hid (HDa.out.next hb); have RXa := Lib.hid (RDa.out.next hb); have BXa := Lib.hid (BDa.out.next hb); have RYa := Lib.hid (M7.res (cap := n0) ge7); have ma0 := BXa.out.c0; have ma1 := BXa.out.c1; have ma2 := BXa.out.c2; have ma3 := BXa.out.c3; have PaRy := Lib.hid (OaRy.out.next hb); have PaBy := Lib.hid (OaBy.out.next hb); clear hb ge7 M7) | (go_at_call 38; refine (eqGab_res d0 p0 kk0 RXa.out RYa.out).mono ?_; rintro e wa8 ⟨rfl, hb⟩; have Ha8 := Lib.hid (Ha7.out.next hb); have QaRy := Lib.hid (PaRy.out.next hb); have QaBy := Lib.hid (PaBy.out.next hb); clear hb)))
    all_goals
      have h90 := Ha8.out
      have x90 := h90.x.c0; have xx90 := h90.y.c0
      have y90 := h90.x.c1; have yy90 := h90.y.c1
      have u90 := h90.x.c2; have uu90 := h90.y.c2
      have v90 := h90.x.c3; have vv90 := h90.y.c3
      have Ry9 := QaRy.out
      have By9 := QaBy.out
      clear OaRy PaRy QaRy OaBy PaBy QaBy
      clear Rx Bx q0Bx q1Bx q2Bx q3Bx Ry By q0By q1By q2By q3By
      have Ry := Ry9; have By := By9; clear Ry9 By9
      have q0By : _ := By.c0
      have q1By : _ := By.c1
      have q2By : _ := By.c2
      have q3By : _ := By.c3
      have HDb := Lib.hid h90.drew
      have RDb := Lib.hid (Ry.next (Below.refl _ wa8).drew)
      have BDb := Lib.hid (By.next (Below.refl _ wa8).drew)
      go_wp2_with fail
      go_region_law (go_simp; go_wp2_with (first | (go_at_call 36; refine (toGab_any d1 p1 kk1 a1 n1 cap1 z1 _ (h1A.from HDb.out.b) hn1).mono ?_; rintro e vb7 ⟨bb7, rfl, ge7, hb, M7⟩; have Hb7 := Lib.hid (HDb.out.next hb); have RXb := Lib.hid (RDb.out.next hb); have BXb := Lib.hid (BDb.out.next hb); have RYb := Lib.hid (M7.res (cap := n1) ge7); have mb0 := BXb.out.c0; have mb1 := BXb.out.c1; have mb2 := BXb.out.c2; have mb3 := BXb.out.c3; clear hb ge7 M7) | (go_at_call 38; refine (eqGab_res d1 p1 kk1 RXb.out RYb.out).mono ?_; rintro e wb8 ⟨rfl, hb⟩; have Hb8 := Lib.hid (Hb7.out.next hb); clear hb)))
      all_goals
        go_wp2_with fail
        go_ret
        exact ⟨rfl, Hb8.out.b⟩

set_option maxRecDepth 100000 in
theorem lifted (os : Os) (started : os.Started) (H : Type) (enc : TypeId × Value → H) :
    ReturnsInHanded {} Try.checked os 9 .any (Rows.fnExactSameGabidulinSpec.pre6 enc Try.prog Try.f9 Rows.fnExactSameGabidulinRow.domain false) (Rows.fnExactSameGabidulinSpec.post enc Try.prog Try.f9 false true false false) := by
  refine returnsInHanded_of_change (C := Try.checked) own started (by kernel_rfl) Try.func9
    (ChangeSpec.witness6 (enc := enc) (C := Try.checked) false ⟨#[], #[.agg #[.int .i64 0, .int .i64 0, .slice none 0 0, .int .i64 0], .agg #[.int .i64 0, .int .i64 0, .slice none 0 0, .int .i64 0]], []⟩ 8 (by kernel_rfl) (by kernel_rfl) (by kernel_rfl) (by kernel_rfl)) ?_
  intro W base args ds gs before hval0 hW hcnd _
  have hval : ∀ (j : Nat) t v, Try.f9.params[j]? = some t → args[j]? = some v → Value.okWide Try.prog W .any base t v := hval0
  have hW' := hW
  obtain ⟨p, q, hA0, hV, rfl, hfz, hnd⟩ := hW
  have hA : DataW.TrodAll enc Try.prog W 0 (fun _ => true) true Try.f9.params.toList args.toList ds p := hA0
  rw [Try.params9] at hA hval
  obtain ⟨v0, vs0, dd0, ds0, pp0, qq0, hargs, rfl, rfl, h0, r0⟩ := trodAll_cons hA
  obtain ⟨v1, vs1, dd1, ds1, pp1, qq1, rfl, rfl, rfl, h1, r1⟩ := trodAll_cons r0
  obtain ⟨rfl, rfl, rfl⟩ := trodAll_nil r1
  obtain rfl : args = #[v0, v1] := by cases args; simp_all
  obtain ⟨rfl, rfl⟩ := trodVars_none hV
  have k0 := h0
  have lt0 : ∀ x ∈ pp0, x.block < W.heap.size := by obtain ⟨m, hm⟩ := k0; exact DataW.trod_lt m _ _ _ hm
  obtain ⟨d0, p0, kk0, a0, n0, cap0, z0, rfl, wd0, wp0, wk0, w0⟩ := gab_open (hval 0 49 v0 rfl rfl) h0
  have k1 := h1
  have lt1 : ∀ x ∈ pp1, x.block < W.heap.size := by obtain ⟨m, hm⟩ := k1; exact DataW.trod_lt m _ _ _ hm
  obtain ⟨d1, p1, kk1, a1, n1, cap1, z1, rfl, wd1, wp1, wk1, w1⟩ := gab_open (hval 1 49 v1 rfl rfl) h1
  clear hA0 hval0
  refine (walk d0 p0 kk0 wd0 wp0 wk0 a0 n0 cap0 z0 d1 p1 kk1 wd1 wp1 wk1 a1 n1 cap1 z1 W w0 w1).mono fun e W' ⟨he, bel⟩ => ?_
  subst he
  exact ⟨_, rfl, _, _, _, [], _, [], hW', trodAll_mk1 (shut_bool Try.underlying4 _), (trodAll_cons_mk (Below.trod laidOut (by kernel_rfl) (of_decide_eq_true (by kernel_rfl)) k0 bel lt0) (trodAll_cons_mk (Below.trod laidOut (by kernel_rfl) (of_decide_eq_true (by kernel_rfl)) k1 bel lt1) trodAll_mk0)), rfl, bel.frame _, fun h => by cases h⟩

theorem over : Rows.fnExactSameGabidulinRow.holds Try.pinned (OpenSpec.ofChange Rows.fnExactSameGabidulinSpec) :=
  OpenClaim.holds_of_wide 9 Try.f9 rfl rfl rfl rfl rfl rfl rfl ⟨rfl, rfl, rfl, rfl, rfl⟩ rfl rfl rfl rfl rfl (by kernel_rfl) Try.func9 (by kernel_rfl)
    (of_decide_eq_true (by kernel_rfl)) (by unfold Func.isWrapper; first | (rw [if_pos (by decide +kernel)]; kernel_rfl) | (rw [if_neg (by decide +kernel)]; exact ⟨rfl, rfl⟩))
    (fun os started H enc _ => lifted os started H enc)

theorem proved : Rows.FnExactSameGabidulinSaid :=
  over
#print axioms proved
end Go.Proofs.Ytcdhdgflgdmhdaa.fnExactSameGabidulin
