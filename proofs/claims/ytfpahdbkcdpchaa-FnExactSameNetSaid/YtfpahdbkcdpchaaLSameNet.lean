/- FnExactSameNet: for every input the law returns true, and every argument reads afterwards as it read before. No condition. -/
import Derived.Test.YtfpahdbkcdpchaaRows
import Derived.WalkKit
import Derived.ProofKit
import Derived.OpenShut
import Derived.ChangeOld
import Derived.Below
import Derived.Lib.SmallJoins
import Derived.Test.YtfpahdbkcdpchaaSameNet
import Derived.Test.YtfpahdbkcdpchaaSsLaw
import Derived.Test.YtfpahdbkcdpchaaLB
import Derived.Test.YtfpahdbkcdpchaaToField
import Derived.Test.YtfpahdbkcdpchaaThird
import Derived.Test.YtfpahdbkcdpchaaRow
import Derived.Test.YtfpahdbkcdpchaaRes
import Derived.Test.YtfpahdbkcdpchaaStep
import Derived.Test.YtfpahdbkcdpchaaNet
namespace Go.Proofs.Ytfpahdbkcdpchaa.fnExactSameNet
open Go.ChangeShapes Go.WideShapes Go.ChangeAt Go.RowKit Go.Joins
set_option linter.unusedVariables false

theorem own : ownKnob Try.prog.godebug = none := by kernel_rfl
theorem laidOut : laidOutB Try.prog = true := by kernel_rfl

set_option maxRecDepth 100000 in
set_option maxHeartbeats 12800000 in
theorem walk (d0 p0 no0 me0 : Int) (wd0 : (Lit.int .i64 d0).wf = true) (wp0 : (Lit.int .i64 p0).wf = true) (wn0 : (Lit.int .i64 no0).wf = true) (wm0 : (Lit.int .i64 me0).wf = true) (a0 : Option Addr) (n0 cap0 : Nat) (z0 : List (List Int)) (b0 : Option Addr) (m0 cbp0 : Nat) (y0 : List (List Int)) (d1 p1 no1 me1 : Int) (wd1 : (Lit.int .i64 d1).wf = true) (wp1 : (Lit.int .i64 p1).wf = true) (wn1 : (Lit.int .i64 no1).wf = true) (wm1 : (Lit.int .i64 me1).wf = true) (a1 : Option Addr) (n1 cap1 : Nat) (z1 : List (List Int)) (b1 : Option Addr) (m1 cbp1 : Nat) (y1 : List (List Int)) (w : World) (h0S : ArgS w a0 n0 z0) (h0C : ArgS w b0 m0 y0) (h1S : ArgS w a1 n1 z1) (h1C : ArgS w b1 m1 y1) :
    Calls Try.prog 12 #[.agg (netL d0 p0 no0 me0 (.slice a0 n0 cap0) (.slice b0 m0 cbp0)).toArray, .agg (netL d1 p1 no1 me1 (.slice a1 n1 cap1) (.slice b1 m1 cbp1)).toArray] w fun e w' => e = .returned (.bool true) ∧ Below w.heap.size w w' := by
  have big0 := h0S.big
  obtain ⟨N0, hN0⟩ : ∃ N, n0 + total z0 + (m0 + total y0) = N := ⟨_, rfl⟩
  have HN0 := Lib.hid hN0
  clear hN0
  have big1 := h1S.big
  obtain ⟨N1, hN1⟩ : ∃ N, n1 + total z1 + (m1 + total y1) = N := ⟨_, rfl⟩
  have HN1 := Lib.hid hN1
  clear hN1
  by_cases hm0 : N0 ≤ 1048576
  rotate_left
  ·
    go_enter Try.func12, Try.ntmps12
    have h0 := G2.start w (netL d0 p0 no0 me0 (.slice a0 n0 cap0) (.slice b0 m0 cbp0)) (netL d1 p1 no1 me1 (.slice a1 n1 cap1) (.slice b1 m1 cbp1)) 58 58
    have xx0k0 : _ := h0.x.cell 0 _ rfl
    have xx1k0 : _ := h0.x.cell 1 _ rfl
    have xx2k0 : _ := h0.x.cell 2 _ rfl
    have xx3k0 : _ := h0.x.cell 3 _ rfl
    have xx4k0 : _ := h0.x.cell 4 _ rfl
    have xx5k0 : _ := h0.x.cell 5 _ rfl
    have xy0k0 : _ := h0.y.cell 0 _ rfl
    have xy1k0 : _ := h0.y.cell 1 _ rfl
    have xy2k0 : _ := h0.y.cell 2 _ rfl
    have xy3k0 : _ := h0.y.cell 3 _ rfl
    have xy4k0 : _ := h0.y.cell 4 _ rfl
    have xy5k0 : _ := h0.y.cell 5 _ rfl
    go_wp2_with fail
    refine (szNet_any d0 p0 no0 me0 a0 n0 cap0 z0 b0 m0 cbp0 y0 1048576 (by omega) (by omega) _ (h0S.below h0.b) (h0C.below h0.b)).mono ?_
    rw [HN0.out]
    rintro e w1 ⟨⟨hq, rfl⟩ | ⟨hq, rfl⟩, hb⟩
    · exact absurd hq (by omega)
    · have hb1 := (h0.next hb).b
      clear hb hq
      go_wp2_with fail
      go_ret
      exact ⟨rfl, hb1⟩
  by_cases hm1 : N0 + N1 ≤ 1048576
  rotate_left
  ·
    go_enter Try.func12, Try.ntmps12
    have h0 := G2.start w (netL d0 p0 no0 me0 (.slice a0 n0 cap0) (.slice b0 m0 cbp0)) (netL d1 p1 no1 me1 (.slice a1 n1 cap1) (.slice b1 m1 cbp1)) 58 58
    have xx0k0 : _ := h0.x.cell 0 _ rfl
    have xx1k0 : _ := h0.x.cell 1 _ rfl
    have xx2k0 : _ := h0.x.cell 2 _ rfl
    have xx3k0 : _ := h0.x.cell 3 _ rfl
    have xx4k0 : _ := h0.x.cell 4 _ rfl
    have xx5k0 : _ := h0.x.cell 5 _ rfl
    have xy0k0 : _ := h0.y.cell 0 _ rfl
    have xy1k0 : _ := h0.y.cell 1 _ rfl
    have xy2k0 : _ := h0.y.cell 2 _ rfl
    have xy3k0 : _ := h0.y.cell 3 _ rfl
    have xy4k0 : _ := h0.y.cell 4 _ rfl
    have xy5k0 : _ := h0.y.cell 5 _ rfl
    go_wp2_with fail
    refine (szNet_any d0 p0 no0 me0 a0 n0 cap0 z0 b0 m0 cbp0 y0 1048576 (by omega) (by omega) _ (h0S.below h0.b) (h0C.below h0.b)).mono ?_
    rw [HN0.out]
    rintro e w1 ⟨⟨hq, rfl⟩ | ⟨hq, rfl⟩, hb⟩
    rotate_left
    · exact absurd hq (by omega)
    clear hq
    have h1 := h0.next hb
    have xx0k1 : _ := h1.x.cell 0 _ rfl
    have xx1k1 : _ := h1.x.cell 1 _ rfl
    have xx2k1 : _ := h1.x.cell 2 _ rfl
    have xx3k1 : _ := h1.x.cell 3 _ rfl
    have xx4k1 : _ := h1.x.cell 4 _ rfl
    have xx5k1 : _ := h1.x.cell 5 _ rfl
    have xy0k1 : _ := h1.y.cell 0 _ rfl
    have xy1k1 : _ := h1.y.cell 1 _ rfl
    have xy2k1 : _ := h1.y.cell 2 _ rfl
    have xy3k1 : _ := h1.y.cell 3 _ rfl
    have xy4k1 : _ := h1.y.cell 4 _ rfl
    have xy5k1 : _ := h1.y.cell 5 _ rfl
    have Z1 := Lib.hid h1.z
    clear hb h0 xx0k0 xx1k0 xx2k0 xx3k0 xx4k0 xx5k0 xy0k0 xy1k0 xy2k0 xy3k0 xy4k0 xy5k0
    go_wp2_with fail
    refine (szNet_any d1 p1 no1 me1 a1 n1 cap1 z1 b1 m1 cbp1 y1 (1048576 - ((N0 : Nat) : Int)) (by omega) (by omega) _ (h1S.below h1.b) (h1C.below h1.b)).mono ?_
    rw [HN1.out]
    rintro e w2 ⟨⟨hq, rfl⟩ | ⟨hq, rfl⟩, hb⟩
    · exact absurd hq (by omega)
    · have hb1 := (h1.next hb).b
      clear hb hq
      go_wp2_with fail
      go_ret
      exact ⟨rfl, hb1⟩
  have hn0 : n0 + total z0 ≤ 1048576 := by have := HN0.out; omega
  have hn0b : m0 + total y0 ≤ 1048576 := by have := HN0.out; omega
  have hn0s : total z0 + total y0 ≤ 1048576 := by have := HN0.out; omega
  have hn1 : n1 + total z1 ≤ 1048576 := by have := HN1.out; omega
  have hn1b : m1 + total y1 ≤ 1048576 := by have := HN1.out; omega
  have hn1s : total z1 + total y1 ≤ 1048576 := by have := HN1.out; omega
  obtain ⟨r, hr⟩ : ∃ r, fSameNet d0 p0 no0 me0 z0 y0 d1 p1 no1 me1 z1 y1 = r := ⟨_, rfl⟩
  have HR := Lib.hid hr
  clear hr
  go_enter Try.func12, Try.ntmps12
  have h0 := G2.start w (netL d0 p0 no0 me0 (.slice a0 n0 cap0) (.slice b0 m0 cbp0)) (netL d1 p1 no1 me1 (.slice a1 n1 cap1) (.slice b1 m1 cbp1)) 58 58
  have xx0k0 : _ := h0.x.cell 0 _ rfl
  have xx1k0 : _ := h0.x.cell 1 _ rfl
  have xx2k0 : _ := h0.x.cell 2 _ rfl
  have xx3k0 : _ := h0.x.cell 3 _ rfl
  have xx4k0 : _ := h0.x.cell 4 _ rfl
  have xx5k0 : _ := h0.x.cell 5 _ rfl
  have xy0k0 : _ := h0.y.cell 0 _ rfl
  have xy1k0 : _ := h0.y.cell 1 _ rfl
  have xy2k0 : _ := h0.y.cell 2 _ rfl
  have xy3k0 : _ := h0.y.cell 3 _ rfl
  have xy4k0 : _ := h0.y.cell 4 _ rfl
  have xy5k0 : _ := h0.y.cell 5 _ rfl
  go_wp2_with fail
  refine (szNet_any d0 p0 no0 me0 a0 n0 cap0 z0 b0 m0 cbp0 y0 1048576 (by omega) (by omega) _ (h0S.below h0.b) (h0C.below h0.b)).mono ?_
  rw [HN0.out]
  rintro e w1 ⟨⟨hq, rfl⟩ | ⟨hq, rfl⟩, hb⟩
  rotate_left
  · exact absurd hq (by omega)
  clear hq
  have h1 := h0.next hb
  have xx0k1 : _ := h1.x.cell 0 _ rfl
  have xx1k1 : _ := h1.x.cell 1 _ rfl
  have xx2k1 : _ := h1.x.cell 2 _ rfl
  have xx3k1 : _ := h1.x.cell 3 _ rfl
  have xx4k1 : _ := h1.x.cell 4 _ rfl
  have xx5k1 : _ := h1.x.cell 5 _ rfl
  have xy0k1 : _ := h1.y.cell 0 _ rfl
  have xy1k1 : _ := h1.y.cell 1 _ rfl
  have xy2k1 : _ := h1.y.cell 2 _ rfl
  have xy3k1 : _ := h1.y.cell 3 _ rfl
  have xy4k1 : _ := h1.y.cell 4 _ rfl
  have xy5k1 : _ := h1.y.cell 5 _ rfl
  have Z1 := Lib.hid h1.z
  clear hb h0 xx0k0 xx1k0 xx2k0 xx3k0 xx4k0 xx5k0 xy0k0 xy1k0 xy2k0 xy3k0 xy4k0 xy5k0
  go_wp2_with fail
  refine (szNet_any d1 p1 no1 me1 a1 n1 cap1 z1 b1 m1 cbp1 y1 (1048576 - ((N0 : Nat) : Int)) (by omega) (by omega) _ (h1S.below h1.b) (h1C.below h1.b)).mono ?_
  rw [HN1.out]
  rintro e w2 ⟨⟨hq, rfl⟩ | ⟨hq, rfl⟩, hb⟩
  rotate_left
  · exact absurd hq (by omega)
  clear hq
  have h2 := h1.next hb
  have xx0k2 : _ := h2.x.cell 0 _ rfl
  have xx1k2 : _ := h2.x.cell 1 _ rfl
  have xx2k2 : _ := h2.x.cell 2 _ rfl
  have xx3k2 : _ := h2.x.cell 3 _ rfl
  have xx4k2 : _ := h2.x.cell 4 _ rfl
  have xx5k2 : _ := h2.x.cell 5 _ rfl
  have xy0k2 : _ := h2.y.cell 0 _ rfl
  have xy1k2 : _ := h2.y.cell 1 _ rfl
  have xy2k2 : _ := h2.y.cell 2 _ rfl
  have xy3k2 : _ := h2.y.cell 3 _ rfl
  have xy4k2 : _ := h2.y.cell 4 _ rfl
  have xy5k2 : _ := h2.y.cell 5 _ rfl
  have Z2 := Lib.hid hb.size
  clear hb h1 xx0k1 xx1k1 xx2k1 xx3k1 xx4k1 xx5k1 xy0k1 xy1k1 xy2k1 xy3k1 xy4k1 xy5k1
  have HD := Lib.hid h2.drew
  clear xx0k2 xx1k2 xx2k2 xx3k2 xx4k2 xx5k2 xy0k2 xy1k2 xy2k2 xy3k2 xy4k2 xy5k2
  have HZ := Lib.hid h2
  have Dx0 : _ := HD.out.x.cell 0 _ rfl; have Dx1 : _ := HD.out.x.cell 1 _ rfl; have Dx2 : _ := HD.out.x.cell 2 _ rfl; have Dx3 : _ := HD.out.x.cell 3 _ rfl; have Dx4 : _ := HD.out.x.cell 4 _ rfl; have Dx5 : _ := HD.out.x.cell 5 _ rfl; have Dy0 : _ := HD.out.y.cell 0 _ rfl; have Dy1 : _ := HD.out.y.cell 1 _ rfl; have Dy2 : _ := HD.out.y.cell 2 _ rfl; have Dy3 : _ := HD.out.y.cell 3 _ rfl; have Dy4 : _ := HD.out.y.cell 4 _ rfl; have Dy5 : _ := HD.out.y.cell 5 _ rfl
  go_wp2_with fail
  go_region_law (go_simp; go_wp2_with (first | (go_at_call 50; first | (refine (toNet_any d0 p0 no0 me0 a0 n0 cap0 z0 b0 m0 cbp0 y0 _ (h0S.below HDB.out.b) (h0C.below HDB.out.b) hn0 hn0b).mono ?_; rintro e vHDC ⟨gs0, gqs0, rfl, ge0, hb, Ss0⟩; have HDC := Lib.hid (HDB.out.next hb); have HDCx0 : _ := HDC.out.x.cell 0 _ rfl; have HDCx1 : _ := HDC.out.x.cell 1 _ rfl; have HDCx2 : _ := HDC.out.x.cell 2 _ rfl; have HDCx3 : _ := HDC.out.x.cell 3 _ rfl; have HDCx4 : _ := HDC.out.x.cell 4 _ rfl; have HDCx5 : _ := HDC.out.x.cell 5 _ rfl; have HDCy0 : _ := HDC.out.y.cell 0 _ rfl; have HDCy1 : _ := HDC.out.y.cell 1 _ rfl; have HDCy2 : _ := HDC.out.y.cell 2 _ rfl; have HDCy3 : _ := HDC.out.y.cell 3 _ rfl; have HDCy4 : _ := HDC.out.y.cell 4 _ rfl; have HDCy5 : _ := HDC.out.y.cell 5 _ rfl; replace Ss1 := Ss1.next hb; clear hb ge0) | (refine (toNet_any d1 p1 no1 me1 a1 n1 cap1 z1 b1 m1 cbp1 y1 _ (h1S.below HDA.out.b) (h1C.below HDA.out.b) hn1 hn1b).mono ?_; rintro e vHDC ⟨gs1, gqs1, rfl, ge1, hb, Ss1⟩; have HDC := Lib.hid (HDA.out.next hb); have HDCx0 : _ := HDC.out.x.cell 0 _ rfl; have HDCx1 : _ := HDC.out.x.cell 1 _ rfl; have HDCx2 : _ := HDC.out.x.cell 2 _ rfl; have HDCx3 : _ := HDC.out.x.cell 3 _ rfl; have HDCx4 : _ := HDC.out.x.cell 4 _ rfl; have HDCx5 : _ := HDC.out.x.cell 5 _ rfl; have HDCy0 : _ := HDC.out.y.cell 0 _ rfl; have HDCy1 : _ := HDC.out.y.cell 1 _ rfl; have HDCy2 : _ := HDC.out.y.cell 2 _ rfl; have HDCy3 : _ := HDC.out.y.cell 3 _ rfl; have HDCy4 : _ := HDC.out.y.cell 4 _ rfl; have HDCy5 : _ := HDC.out.y.cell 5 _ rfl; replace Ss0 := Ss0.next hb; clear hb ge1) | (refine (toNet_any d0 p0 no0 me0 a0 n0 cap0 z0 b0 m0 cbp0 y0 _ (h0S.below HD.out.b) (h0C.below HD.out.b) hn0 hn0b).mono ?_; rintro e vHDA ⟨gs0, gqs0, rfl, ge0, hb, Ss0⟩; have HDA := Lib.hid (HD.out.next hb); have HDAx0 : _ := HDA.out.x.cell 0 _ rfl; have HDAx1 : _ := HDA.out.x.cell 1 _ rfl; have HDAx2 : _ := HDA.out.x.cell 2 _ rfl; have HDAx3 : _ := HDA.out.x.cell 3 _ rfl; have HDAx4 : _ := HDA.out.x.cell 4 _ rfl; have HDAx5 : _ := HDA.out.x.cell 5 _ rfl; have HDAy0 : _ := HDA.out.y.cell 0 _ rfl; have HDAy1 : _ := HDA.out.y.cell 1 _ rfl; have HDAy2 : _ := HDA.out.y.cell 2 _ rfl; have HDAy3 : _ := HDA.out.y.cell 3 _ rfl; have HDAy4 : _ := HDA.out.y.cell 4 _ rfl; have HDAy5 : _ := HDA.out.y.cell 5 _ rfl;  clear hb ge0) | (refine (toNet_any d1 p1 no1 me1 a1 n1 cap1 z1 b1 m1 cbp1 y1 _ (h1S.below HD.out.b) (h1C.below HD.out.b) hn1 hn1b).mono ?_; rintro e vHDB ⟨gs1, gqs1, rfl, ge1, hb, Ss1⟩; have HDB := Lib.hid (HD.out.next hb); have HDBx0 : _ := HDB.out.x.cell 0 _ rfl; have HDBx1 : _ := HDB.out.x.cell 1 _ rfl; have HDBx2 : _ := HDB.out.x.cell 2 _ rfl; have HDBx3 : _ := HDB.out.x.cell 3 _ rfl; have HDBx4 : _ := HDB.out.x.cell 4 _ rfl; have HDBx5 : _ := HDB.out.x.cell 5 _ rfl; have HDBy0 : _ := HDB.out.y.cell 0 _ rfl; have HDBy1 : _ := HDB.out.y.cell 1 _ rfl; have HDBy2 : _ := HDB.out.y.cell 2 _ rfl; have HDBy3 : _ := HDB.out.y.cell 3 _ rfl; have HDBy4 : _ := HDB.out.y.cell 4 _ rfl; have HDBy5 : _ := HDB.out.y.cell 5 _ rfl;  clear hb ge1)) | (go_at_call 49; have S := specSameNet_any d0 p0 no0 me0 (.slice (some ⟨gs0, 0, none⟩) n0 n0) (.slice (some ⟨gqs0, 0, none⟩) m0 m0) z0 y0 d1 p1 no1 me1 (.slice (some ⟨gs1, 0, none⟩) n1 n1) (.slice (some ⟨gqs1, 0, none⟩) m1 m1) z1 y1 _ Ss0.rr Ss1.rr; rw [HR.out] at S; refine S.mono ?_; clear S; rintro e w9 ⟨rfl, hb⟩; have H9 := Lib.hid (HDC.out.next hb); clear hb)))
  all_goals
    have h9 := H9.out
    have xx0k9 : _ := h9.x.cell 0 _ rfl
    have xx1k9 : _ := h9.x.cell 1 _ rfl
    have xx2k9 : _ := h9.x.cell 2 _ rfl
    have xx3k9 : _ := h9.x.cell 3 _ rfl
    have xx4k9 : _ := h9.x.cell 4 _ rfl
    have xx5k9 : _ := h9.x.cell 5 _ rfl
    have xy0k9 : _ := h9.y.cell 0 _ rfl
    have xy1k9 : _ := h9.y.cell 1 _ rfl
    have xy2k9 : _ := h9.y.cell 2 _ rfl
    have xy3k9 : _ := h9.y.cell 3 _ rfl
    have xy4k9 : _ := h9.y.cell 4 _ rfl
    have xy5k9 : _ := h9.y.cell 5 _ rfl
    clear Ss0 Ss1
    have Z9 := Lib.hid h9.z
    go_wp2_with fail
    refine (toNet_any d0 p0 no0 me0 a0 n0 cap0 z0 b0 m0 cbp0 y0 _ (h0S.below h9.b) (h0C.below h9.b) hn0 hn0b).mono ?_
    rintro e w10 ⟨gx0, gqx0, rfl, gex0, hb, Sx0⟩
    clear gex0
    have h10 := h9.next hb
    have xx0k10 : _ := h10.x.cell 0 _ rfl
    have xx1k10 : _ := h10.x.cell 1 _ rfl
    have xx2k10 : _ := h10.x.cell 2 _ rfl
    have xx3k10 : _ := h10.x.cell 3 _ rfl
    have xx4k10 : _ := h10.x.cell 4 _ rfl
    have xx5k10 : _ := h10.x.cell 5 _ rfl
    have xy0k10 : _ := h10.y.cell 0 _ rfl
    have xy1k10 : _ := h10.y.cell 1 _ rfl
    have xy2k10 : _ := h10.y.cell 2 _ rfl
    have xy3k10 : _ := h10.y.cell 3 _ rfl
    have xy4k10 : _ := h10.y.cell 4 _ rfl
    have xy5k10 : _ := h10.y.cell 5 _ rfl
    have Z10 := Lib.hid hb.size
    clear hb h9 xx0k9 xx1k9 xx2k9 xx3k9 xx4k9 xx5k9 xy0k9 xy1k9 xy2k9 xy3k9 xy4k9 xy5k9
    have hb := below_alloc1 w10 (.cells (netL d0 p0 no0 me0 (.slice (some ⟨gx0, 0, none⟩) n0 n0) (.slice (some ⟨gqx0, 0, none⟩) m0 m0)).toArray 62)
    have nBx0 := LB.one w10 (netL d0 p0 no0 me0 (.slice (some ⟨gx0, 0, none⟩) n0 n0) (.slice (some ⟨gqx0, 0, none⟩) m0 m0)) 62
    have h11 := h10.next hb
    have xx0k11 : _ := h11.x.cell 0 _ rfl
    have xx1k11 : _ := h11.x.cell 1 _ rfl
    have xx2k11 : _ := h11.x.cell 2 _ rfl
    have xx3k11 : _ := h11.x.cell 3 _ rfl
    have xx4k11 : _ := h11.x.cell 4 _ rfl
    have xx5k11 : _ := h11.x.cell 5 _ rfl
    have xy0k11 : _ := h11.y.cell 0 _ rfl
    have xy1k11 : _ := h11.y.cell 1 _ rfl
    have xy2k11 : _ := h11.y.cell 2 _ rfl
    have xy3k11 : _ := h11.y.cell 3 _ rfl
    have xy4k11 : _ := h11.y.cell 4 _ rfl
    have xy5k11 : _ := h11.y.cell 5 _ rfl
    have Z11 := Lib.hid hb.size
    replace Sx0 := Sx0.next hb
    clear hb h10 xx0k10 xx1k10 xx2k10 xx3k10 xx4k10 xx5k10 xy0k10 xy1k10 xy2k10 xy3k10 xy4k10 xy5k10
    have Y11 := Lib.hid (show w10.heap.size + 1 ≤ (w10.alloc (.cells (netL d0 p0 no0 me0 (.slice (some ⟨gx0, 0, none⟩) n0 n0) (.slice (some ⟨gqx0, 0, none⟩) m0 m0)).toArray 62)).heap.size by simp)
    have Bx0 := nBx0; clear nBx0
    have q0Bx0 : _ := Bx0.cell 0 _ rfl
    have q1Bx0 : _ := Bx0.cell 1 _ rfl
    have q2Bx0 : _ := Bx0.cell 2 _ rfl
    have q3Bx0 : _ := Bx0.cell 3 _ rfl
    have q4Bx0 : _ := Bx0.cell 4 _ rfl
    have q5Bx0 : _ := Bx0.cell 5 _ rfl
    go_wp2_with fail
    refine (toNet_any d1 p1 no1 me1 a1 n1 cap1 z1 b1 m1 cbp1 y1 _ (h1S.below h11.b) (h1C.below h11.b) hn1 hn1b).mono ?_
    rintro e w12 ⟨gx1, gqx1, rfl, gex1, hb, Sx1⟩
    clear gex1
    have h12 := h11.next hb
    have xx0k12 : _ := h12.x.cell 0 _ rfl
    have xx1k12 : _ := h12.x.cell 1 _ rfl
    have xx2k12 : _ := h12.x.cell 2 _ rfl
    have xx3k12 : _ := h12.x.cell 3 _ rfl
    have xx4k12 : _ := h12.x.cell 4 _ rfl
    have xx5k12 : _ := h12.x.cell 5 _ rfl
    have xy0k12 : _ := h12.y.cell 0 _ rfl
    have xy1k12 : _ := h12.y.cell 1 _ rfl
    have xy2k12 : _ := h12.y.cell 2 _ rfl
    have xy3k12 : _ := h12.y.cell 3 _ rfl
    have xy4k12 : _ := h12.y.cell 4 _ rfl
    have xy5k12 : _ := h12.y.cell 5 _ rfl
    have Z12 := Lib.hid hb.size
    replace Sx0 := Sx0.next hb
    replace Bx0 := Bx0.next hb
    replace q0Bx0 : _ := Bx0.cell 0 _ rfl
    replace q1Bx0 : _ := Bx0.cell 1 _ rfl
    replace q2Bx0 : _ := Bx0.cell 2 _ rfl
    replace q3Bx0 : _ := Bx0.cell 3 _ rfl
    replace q4Bx0 : _ := Bx0.cell 4 _ rfl
    replace q5Bx0 : _ := Bx0.cell 5 _ rfl
    clear hb h11 xx0k11 xx1k11 xx2k11 xx3k11 xx4k11 xx5k11 xy0k11 xy1k11 xy2k11 xy3k11 xy4k11 xy5k11
    have hb := below_alloc1 w12 (.cells (netL d1 p1 no1 me1 (.slice (some ⟨gx1, 0, none⟩) n1 n1) (.slice (some ⟨gqx1, 0, none⟩) m1 m1)).toArray 62)
    have nBx1 := LB.one w12 (netL d1 p1 no1 me1 (.slice (some ⟨gx1, 0, none⟩) n1 n1) (.slice (some ⟨gqx1, 0, none⟩) m1 m1)) 62
    have h13 := h12.next hb
    have xx0k13 : _ := h13.x.cell 0 _ rfl
    have xx1k13 : _ := h13.x.cell 1 _ rfl
    have xx2k13 : _ := h13.x.cell 2 _ rfl
    have xx3k13 : _ := h13.x.cell 3 _ rfl
    have xx4k13 : _ := h13.x.cell 4 _ rfl
    have xx5k13 : _ := h13.x.cell 5 _ rfl
    have xy0k13 : _ := h13.y.cell 0 _ rfl
    have xy1k13 : _ := h13.y.cell 1 _ rfl
    have xy2k13 : _ := h13.y.cell 2 _ rfl
    have xy3k13 : _ := h13.y.cell 3 _ rfl
    have xy4k13 : _ := h13.y.cell 4 _ rfl
    have xy5k13 : _ := h13.y.cell 5 _ rfl
    have Z13 := Lib.hid hb.size
    replace Sx0 := Sx0.next hb
    replace Bx0 := Bx0.next hb
    replace q0Bx0 : _ := Bx0.cell 0 _ rfl
    replace q1Bx0 : _ := Bx0.cell 1 _ rfl
    replace q2Bx0 : _ := Bx0.cell 2 _ rfl
    replace q3Bx0 : _ := Bx0.cell 3 _ rfl
    replace q4Bx0 : _ := Bx0.cell 4 _ rfl
    replace q5Bx0 : _ := Bx0.cell 5 _ rfl
    replace Sx1 := Sx1.next hb
    clear hb h12 xx0k12 xx1k12 xx2k12 xx3k12 xx4k12 xx5k12 xy0k12 xy1k12 xy2k12 xy3k12 xy4k12 xy5k12
    have Y13 := Lib.hid (show w12.heap.size + 1 ≤ (w12.alloc (.cells (netL d1 p1 no1 me1 (.slice (some ⟨gx1, 0, none⟩) n1 n1) (.slice (some ⟨gqx1, 0, none⟩) m1 m1)).toArray 62)).heap.size by simp)
    have Bx1 := nBx1; clear nBx1
    have q0Bx1 : _ := Bx1.cell 0 _ rfl
    have q1Bx1 : _ := Bx1.cell 1 _ rfl
    have q2Bx1 : _ := Bx1.cell 2 _ rfl
    have q3Bx1 : _ := Bx1.cell 3 _ rfl
    have q4Bx1 : _ := Bx1.cell 4 _ rfl
    have q5Bx1 : _ := Bx1.cell 5 _ rfl
    go_wp2_with fail
    have S := implSameNet_any d0 p0 no0 me0 (.slice (some ⟨gx0, 0, none⟩) n0 n0) (.slice (some ⟨gqx0, 0, none⟩) m0 m0) z0 y0 d1 p1 no1 me1 (.slice (some ⟨gx1, 0, none⟩) n1 n1) (.slice (some ⟨gqx1, 0, none⟩) m1 m1) z1 y1 _ Sx0.rr Sx1.rr
    rw [HR.out] at S
    try dsimp only at S
    refine S.mono ?_
    clear S
    rintro e w14 ⟨rfl, hb⟩
    have h14 := h13.next hb
    have xx0k14 : _ := h14.x.cell 0 _ rfl
    have xx1k14 : _ := h14.x.cell 1 _ rfl
    have xx2k14 : _ := h14.x.cell 2 _ rfl
    have xx3k14 : _ := h14.x.cell 3 _ rfl
    have xx4k14 : _ := h14.x.cell 4 _ rfl
    have xx5k14 : _ := h14.x.cell 5 _ rfl
    have xy0k14 : _ := h14.y.cell 0 _ rfl
    have xy1k14 : _ := h14.y.cell 1 _ rfl
    have xy2k14 : _ := h14.y.cell 2 _ rfl
    have xy3k14 : _ := h14.y.cell 3 _ rfl
    have xy4k14 : _ := h14.y.cell 4 _ rfl
    have xy5k14 : _ := h14.y.cell 5 _ rfl
    have Z14 := Lib.hid hb.size
    replace Sx0 := Sx0.next hb
    replace Bx0 := Bx0.next hb
    replace q0Bx0 : _ := Bx0.cell 0 _ rfl
    replace q1Bx0 : _ := Bx0.cell 1 _ rfl
    replace q2Bx0 : _ := Bx0.cell 2 _ rfl
    replace q3Bx0 : _ := Bx0.cell 3 _ rfl
    replace q4Bx0 : _ := Bx0.cell 4 _ rfl
    replace q5Bx0 : _ := Bx0.cell 5 _ rfl
    replace Sx1 := Sx1.next hb
    replace Bx1 := Bx1.next hb
    replace q0Bx1 : _ := Bx1.cell 0 _ rfl
    replace q1Bx1 : _ := Bx1.cell 1 _ rfl
    replace q2Bx1 : _ := Bx1.cell 2 _ rfl
    replace q3Bx1 : _ := Bx1.cell 3 _ rfl
    replace q4Bx1 : _ := Bx1.cell 4 _ rfl
    replace q5Bx1 : _ := Bx1.cell 5 _ rfl
    clear hb h13 xx0k13 xx1k13 xx2k13 xx3k13 xx4k13 xx5k13 xy0k13 xy1k13 xy2k13 xy3k13 xy4k13 xy5k13
    have HD := Lib.hid h14.drew
    have OSx0 := Lib.hid (Sx0.next (Below.refl _ w14).drew)
    have OBx0 := Lib.hid (Bx0.next (Below.refl _ w14).drew)
    have OSx1 := Lib.hid (Sx1.next (Below.refl _ w14).drew)
    have OBx1 := Lib.hid (Bx1.next (Below.refl _ w14).drew)
    go_wp2_with fail
    go_region_law (go_simp; go_wp2_with (first | (go_at_call 50; refine (toNet_any d0 p0 no0 me0 a0 n0 cap0 z0 b0 m0 cbp0 y0 _ (h0S.below HD.out.b) (h0C.below HD.out.b) hn0 hn0b).mono ?_; rintro e w15 ⟨b7, bq7, rfl, ge7, hb, M7⟩; have H7 := Lib.hid (HD.out.next hb); have PSx0 := Lib.hid (OSx0.out.next hb); have PBx0 := Lib.hid (OBx0.out.next hb); have PSx1 := Lib.hid (OSx1.out.next hb); have PBx1 := Lib.hid (OBx1.out.next hb); have RY := Lib.hid M7.rr; have mq0 : _ := PBx0.out.cell 0 _ rfl; have mq1 : _ := PBx0.out.cell 1 _ rfl; have mq2 : _ := PBx0.out.cell 2 _ rfl; have mq3 : _ := PBx0.out.cell 3 _ rfl; have mq4 : _ := PBx0.out.cell 4 _ rfl; have mq5 : _ := PBx0.out.cell 5 _ rfl; have Z15 := Lib.hid (show w14.heap.size ≤ w15.heap.size from hb.size); clear hb ge7 M7) | (go_at_call 52; refine (eqNet_rr d0 p0 no0 me0 PSx0.out.rr RY.out).mono ?_; rintro e w16 ⟨rfl, hb⟩; have H8 := Lib.hid (H7.out.next hb); have QSx0 := Lib.hid (PSx0.out.next hb); have QBx0 := Lib.hid (PBx0.out.next hb); have QSx1 := Lib.hid (PSx1.out.next hb); have QBx1 := Lib.hid (PBx1.out.next hb); have Z16 := Lib.hid hb.size; clear hb)))
    all_goals
      have h16 := H8.out
      clear xx0k14 xx1k14 xx2k14 xx3k14 xx4k14 xx5k14 xy0k14 xy1k14 xy2k14 xy3k14 xy4k14 xy5k14 mq0 mq1 mq2 mq3 mq4 mq5
      have xx0k16 : _ := h16.x.cell 0 _ rfl
      have xx1k16 : _ := h16.x.cell 1 _ rfl
      have xx2k16 : _ := h16.x.cell 2 _ rfl
      have xx3k16 : _ := h16.x.cell 3 _ rfl
      have xx4k16 : _ := h16.x.cell 4 _ rfl
      have xx5k16 : _ := h16.x.cell 5 _ rfl
      have xy0k16 : _ := h16.y.cell 0 _ rfl
      have xy1k16 : _ := h16.y.cell 1 _ rfl
      have xy2k16 : _ := h16.y.cell 2 _ rfl
      have xy3k16 : _ := h16.y.cell 3 _ rfl
      have xy4k16 : _ := h16.y.cell 4 _ rfl
      have xy5k16 : _ := h16.y.cell 5 _ rfl
      replace Sx0 := QSx0.out
      replace Bx0 := QBx0.out
      replace q0Bx0 : _ := Bx0.cell 0 _ rfl
      replace q1Bx0 : _ := Bx0.cell 1 _ rfl
      replace q2Bx0 : _ := Bx0.cell 2 _ rfl
      replace q3Bx0 : _ := Bx0.cell 3 _ rfl
      replace q4Bx0 : _ := Bx0.cell 4 _ rfl
      replace q5Bx0 : _ := Bx0.cell 5 _ rfl
      replace Sx1 := QSx1.out
      replace Bx1 := QBx1.out
      replace q0Bx1 : _ := Bx1.cell 0 _ rfl
      replace q1Bx1 : _ := Bx1.cell 1 _ rfl
      replace q2Bx1 : _ := Bx1.cell 2 _ rfl
      replace q3Bx1 : _ := Bx1.cell 3 _ rfl
      replace q4Bx1 : _ := Bx1.cell 4 _ rfl
      replace q5Bx1 : _ := Bx1.cell 5 _ rfl
      clear OSx0 PSx0 QSx0 OBx0 PBx0 QBx0 OSx1 PSx1 QSx1 OBx1 PBx1 QBx1 HD H7 H8 RY
      have HD := Lib.hid h16.drew
      have OSx0 := Lib.hid (Sx0.next (Below.refl _ w16).drew)
      have OBx0 := Lib.hid (Bx0.next (Below.refl _ w16).drew)
      have OSx1 := Lib.hid (Sx1.next (Below.refl _ w16).drew)
      have OBx1 := Lib.hid (Bx1.next (Below.refl _ w16).drew)
      go_wp2_with fail
      go_region_law (go_simp; go_wp2_with (first | (go_at_call 50; refine (toNet_any d1 p1 no1 me1 a1 n1 cap1 z1 b1 m1 cbp1 y1 _ (h1S.below HD.out.b) (h1C.below HD.out.b) hn1 hn1b).mono ?_; rintro e w17 ⟨b7, bq7, rfl, ge7, hb, M7⟩; have H7 := Lib.hid (HD.out.next hb); have PSx0 := Lib.hid (OSx0.out.next hb); have PBx0 := Lib.hid (OBx0.out.next hb); have PSx1 := Lib.hid (OSx1.out.next hb); have PBx1 := Lib.hid (OBx1.out.next hb); have RY := Lib.hid M7.rr; have mq0 : _ := PBx1.out.cell 0 _ rfl; have mq1 : _ := PBx1.out.cell 1 _ rfl; have mq2 : _ := PBx1.out.cell 2 _ rfl; have mq3 : _ := PBx1.out.cell 3 _ rfl; have mq4 : _ := PBx1.out.cell 4 _ rfl; have mq5 : _ := PBx1.out.cell 5 _ rfl; have Z17 := Lib.hid (show w16.heap.size ≤ w17.heap.size from hb.size); clear hb ge7 M7) | (go_at_call 52; refine (eqNet_rr d1 p1 no1 me1 PSx1.out.rr RY.out).mono ?_; rintro e w18 ⟨rfl, hb⟩; have H8 := Lib.hid (H7.out.next hb); have QSx0 := Lib.hid (PSx0.out.next hb); have QBx0 := Lib.hid (PBx0.out.next hb); have QSx1 := Lib.hid (PSx1.out.next hb); have QBx1 := Lib.hid (PBx1.out.next hb); have Z18 := Lib.hid hb.size; clear hb)))
      all_goals
        have h18 := H8.out
        clear xx0k16 xx1k16 xx2k16 xx3k16 xx4k16 xx5k16 xy0k16 xy1k16 xy2k16 xy3k16 xy4k16 xy5k16 mq0 mq1 mq2 mq3 mq4 mq5
        have xx0k18 : _ := h18.x.cell 0 _ rfl
        have xx1k18 : _ := h18.x.cell 1 _ rfl
        have xx2k18 : _ := h18.x.cell 2 _ rfl
        have xx3k18 : _ := h18.x.cell 3 _ rfl
        have xx4k18 : _ := h18.x.cell 4 _ rfl
        have xx5k18 : _ := h18.x.cell 5 _ rfl
        have xy0k18 : _ := h18.y.cell 0 _ rfl
        have xy1k18 : _ := h18.y.cell 1 _ rfl
        have xy2k18 : _ := h18.y.cell 2 _ rfl
        have xy3k18 : _ := h18.y.cell 3 _ rfl
        have xy4k18 : _ := h18.y.cell 4 _ rfl
        have xy5k18 : _ := h18.y.cell 5 _ rfl
        replace Sx0 := QSx0.out
        replace Bx0 := QBx0.out
        replace q0Bx0 : _ := Bx0.cell 0 _ rfl
        replace q1Bx0 : _ := Bx0.cell 1 _ rfl
        replace q2Bx0 : _ := Bx0.cell 2 _ rfl
        replace q3Bx0 : _ := Bx0.cell 3 _ rfl
        replace q4Bx0 : _ := Bx0.cell 4 _ rfl
        replace q5Bx0 : _ := Bx0.cell 5 _ rfl
        replace Sx1 := QSx1.out
        replace Bx1 := QBx1.out
        replace q0Bx1 : _ := Bx1.cell 0 _ rfl
        replace q1Bx1 : _ := Bx1.cell 1 _ rfl
        replace q2Bx1 : _ := Bx1.cell 2 _ rfl
        replace q3Bx1 : _ := Bx1.cell 3 _ rfl
        replace q4Bx1 : _ := Bx1.cell 4 _ rfl
        replace q5Bx1 : _ := Bx1.cell 5 _ rfl
        clear OSx0 PSx0 QSx0 OBx0 PBx0 QBx0 OSx1 PSx1 QSx1 OBx1 PBx1 QBx1 HD H7 H8 RY
        go_wp2_with fail
        go_ret
        exact ⟨rfl, h18.b⟩

set_option maxRecDepth 100000 in
theorem lifted (os : Os) (started : os.Started) (H : Type) (enc : TypeId × Value → H) :
    ReturnsInHanded {} Try.checked os 12 .any (Rows.fnExactSameNetSpec.pre6 enc Try.prog Try.f12 Rows.fnExactSameNetRow.domain false) (Rows.fnExactSameNetSpec.post enc Try.prog Try.f12 false true false false) := by
  refine returnsInHanded_of_change (C := Try.checked) own started (by kernel_rfl) Try.func12
    (ChangeSpec.witness6 (enc := enc) (C := Try.checked) false ⟨#[], #[.agg #[.int .i64 0, .int .i64 0, .int .i64 0, .int .i64 0, .slice none 0 0, .slice none 0 0], .agg #[.int .i64 0, .int .i64 0, .int .i64 0, .int .i64 0, .slice none 0 0, .slice none 0 0]], []⟩ 8 (by kernel_rfl) (by kernel_rfl) (by kernel_rfl) (by kernel_rfl)) ?_
  intro W base args ds gs before hval0 hW hcnd _
  have hval : ∀ (j : Nat) t v, Try.f12.params[j]? = some t → args[j]? = some v → Value.okWide Try.prog W .any base t v := hval0
  have hW' := hW
  obtain ⟨p, q, hA0, hV, rfl, hfz, hnd⟩ := hW
  have hA : DataW.TrodAll enc Try.prog W 0 (fun _ => true) true Try.f12.params.toList args.toList ds p := hA0
  rw [Try.params12] at hA hval
  obtain ⟨v0, vs0, dd0, ds0, pp0, qq0, hargs, rfl, rfl, h0, r0⟩ := trodAll_cons hA
  obtain ⟨v1, vs1, dd1, ds1, pp1, qq1, rfl, rfl, rfl, h1, r1⟩ := trodAll_cons r0
  obtain ⟨rfl, rfl, rfl⟩ := trodAll_nil r1
  obtain rfl : args = #[v0, v1] := by cases args; simp_all
  obtain ⟨rfl, rfl⟩ := trodVars_none hV
  have k0 := h0
  have lt0 : ∀ x ∈ pp0, x.block < W.heap.size := by obtain ⟨m, hm⟩ := k0; exact DataW.trod_lt m _ _ _ hm
  obtain ⟨d0, p0, no0, me0, a0, n0, cap0, z0, b0, m0, cbp0, y0, rfl, wd0, wp0, wn0, wm0, w0, u0⟩ := net_open (hval 0 58 v0 rfl rfl) h0
  have k1 := h1
  have lt1 : ∀ x ∈ pp1, x.block < W.heap.size := by obtain ⟨m, hm⟩ := k1; exact DataW.trod_lt m _ _ _ hm
  obtain ⟨d1, p1, no1, me1, a1, n1, cap1, z1, b1, m1, cbp1, y1, rfl, wd1, wp1, wn1, wm1, w1, u1⟩ := net_open (hval 1 58 v1 rfl rfl) h1
  clear hA0 hval0
  refine (walk d0 p0 no0 me0 wd0 wp0 wn0 wm0 a0 n0 cap0 z0 b0 m0 cbp0 y0 d1 p1 no1 me1 wd1 wp1 wn1 wm1 a1 n1 cap1 z1 b1 m1 cbp1 y1 W w0 u0 w1 u1).mono fun e W' ⟨he, bel⟩ => ?_
  subst he
  exact ⟨_, rfl, _, _, _, [], _, [], hW', trodAll_mk1 (shut_bool Try.underlying4 _), (trodAll_cons_mk (Below.trod laidOut (by kernel_rfl) (of_decide_eq_true (by kernel_rfl)) k0 bel lt0) (trodAll_cons_mk (Below.trod laidOut (by kernel_rfl) (of_decide_eq_true (by kernel_rfl)) k1 bel lt1) trodAll_mk0)), rfl, bel.frame _, fun h => by cases h⟩

theorem over : Rows.fnExactSameNetRow.holds Try.pinned (OpenSpec.ofChange Rows.fnExactSameNetSpec) :=
  OpenClaim.holds_of_wide 12 Try.f12 rfl rfl rfl rfl rfl rfl rfl ⟨rfl, rfl, rfl, rfl, rfl⟩ rfl rfl rfl rfl rfl (by kernel_rfl) Try.func12 (by kernel_rfl)
    (of_decide_eq_true (by kernel_rfl)) (by unfold Func.isWrapper; first | (rw [if_pos (by decide +kernel)]; kernel_rfl) | (rw [if_neg (by decide +kernel)]; exact ⟨rfl, rfl⟩))
    (fun os started H enc _ => lifted os started H enc)

theorem proved : Rows.FnExactSameNetSaid :=
  over
#print axioms proved
end Go.Proofs.Ytfpahdbkcdpchaa.fnExactSameNet
