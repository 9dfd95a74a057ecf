/- FnExactMissedBy: for every input the law returns true, and every argument reads afterwards as it read before. No condition. -/
import Derived.Test.YtibennpdffgomaaDoorRows
import Derived.WalkKit
import Derived.ProofKit
import Derived.OpenShut
import Derived.ChangeOld
import Derived.Below
import Derived.Lib.SmallJoins
import Derived.Test.YtibennpdffgomaaDoorMissedBy
import Derived.Test.YtibennpdffgomaaDoorMissedI
import Derived.Test.YtibennpdffgomaaDoorLB
import Derived.Test.YtibennpdffgomaaDoorThird
import Derived.Test.YtibennpdffgomaaDoorRow
import Derived.Test.YtibennpdffgomaaDoorRes
import Derived.Test.YtibennpdffgomaaDoorMtRes
import Derived.Test.YtibennpdffgomaaDoorGather
import Derived.Test.YtibennpdffgomaaDoorLaid
import Derived.Test.YtibennpdffgomaaDoorTie
import Derived.Test.YtibennpdffgomaaDoorCards
import Derived.SevenTiedAt
namespace Go.Proofs.YtibennpdffgomaaDoor.fnExactMissedBy
open Go.ChangeShapes Go.WideShapes Go.ChangeAt Go.RowKit Go.Joins
set_option linter.unusedVariables false

theorem own : ownKnob Tryd.prog.godebug = none := by kernel_rfl
theorem laidOut : laidOutB Tryd.prog = true := by kernel_rfl

set_option maxRecDepth 100000 in
set_option maxHeartbeats 12800000 in
theorem walk (pk0 pl0 re0 rc0 : Int) (wk0 : (Lit.int .i64 pk0).wf = true) (wl0 : (Lit.int .i64 pl0).wf = true) (wr0 : (Lit.int .i64 re0).wf = true) (wc0 : (Lit.int .i64 rc0).wf = true) (a0 : Option Addr) (n0 cap0 : Nat) (z0 : List Int) (a1 : Option Addr) (n1 cap1 : Nat) (z1 : List Int) (a2 : Option Addr) (n2 cap2 : Nat) (z2 : List Int) (w : World) (hT : Tab w) (h0A : Arg w a0 n0 z0) (h1A : Arg w a1 n1 z1) (h2A : Arg w a2 n2 z2) :
    Calls Tryd.prog 5 #[.agg (gatL pk0 pl0 (.slice a0 n0 cap0) re0 rc0).toArray, .slice a1 n1 cap1, .slice a2 n2 cap2] w fun e w' => e = .returned (.bool true) ∧ Below w.heap.size w w' := by
  have big0 := h0A.big
  have l0 := h0A.len
  have big1 := h1A.big
  have l1 := h1A.len
  have big2 := h2A.big
  have l2 := h2A.len
  by_cases hn1 : n1 ≤ 1048576
  rotate_left
  ·
    go_enter Tryd.func5, Tryd.ntmps5
    have h0 := G1.start w (gatL pk0 pl0 (.slice a0 n0 cap0) re0 rc0) 56
    have xx0k0 : _ := h0.x.cell 0 _ rfl
    have xx1k0 : _ := h0.x.cell 1 _ rfl
    have xx2k0 : _ := h0.x.cell 2 _ rfl
    have xx3k0 : _ := h0.x.cell 3 _ rfl
    have xx4k0 : _ := h0.x.cell 4 _ rfl
    go_wp2_with fail
    go_ret
    exact ⟨rfl, h0.b⟩
  by_cases hn2 : n2 ≤ 1048576
  rotate_left
  ·
    go_enter Tryd.func5, Tryd.ntmps5
    have h0 := G1.start w (gatL pk0 pl0 (.slice a0 n0 cap0) re0 rc0) 56
    have xx0k0 : _ := h0.x.cell 0 _ rfl
    have xx1k0 : _ := h0.x.cell 1 _ rfl
    have xx2k0 : _ := h0.x.cell 2 _ rfl
    have xx3k0 : _ := h0.x.cell 3 _ rfl
    have xx4k0 : _ := h0.x.cell 4 _ rfl
    go_wp2_with fail
    go_ret
    exact ⟨rfl, h0.b⟩
  by_cases hm0 : n0 ≤ 1048576
  rotate_left
  ·
    go_enter Tryd.func5, Tryd.ntmps5
    have h0 := G1.start w (gatL pk0 pl0 (.slice a0 n0 cap0) re0 rc0) 56
    have xx0k0 : _ := h0.x.cell 0 _ rfl
    have xx1k0 : _ := h0.x.cell 1 _ rfl
    have xx2k0 : _ := h0.x.cell 2 _ rfl
    have xx3k0 : _ := h0.x.cell 3 _ rfl
    have xx4k0 : _ := h0.x.cell 4 _ rfl
    go_wp2_with fail
    refine (szGather_any pk0 pl0 re0 rc0 a0 n0 cap0 big0 1048576 (by omega) (by omega) _).mono ?_
    rintro e w1 ⟨⟨hq, rfl⟩ | ⟨hq, rfl⟩, hb⟩
    · exact absurd hq (by omega)
    · have hb1 := (h0.next hb).b
      clear hb hq
      go_wp2_with fail
      go_ret
      exact ⟨rfl, hb1⟩
  have hn0 : n0 ≤ 1048576 := by omega
  obtain ⟨r, hr⟩ : ∃ r, fMissedBy pk0 pl0 re0 rc0 z0 z1 z2 = r := ⟨_, rfl⟩
  have HR := Lib.hid hr
  clear hr
  obtain ⟨r1, r2⟩ := r
  go_enter Tryd.func5, Tryd.ntmps5
  have h0 := G1.start w (gatL pk0 pl0 (.slice a0 n0 cap0) re0 rc0) 56
  have xx0k0 : _ := h0.x.cell 0 _ rfl
  have xx1k0 : _ := h0.x.cell 1 _ rfl
  have xx2k0 : _ := h0.x.cell 2 _ rfl
  have xx3k0 : _ := h0.x.cell 3 _ rfl
  have xx4k0 : _ := h0.x.cell 4 _ rfl
  go_wp2_with fail
  refine (szGather_any pk0 pl0 re0 rc0 a0 n0 cap0 big0 1048576 (by omega) (by omega) _).mono ?_
  rintro e w1 ⟨⟨hq, rfl⟩ | ⟨hq, rfl⟩, hb⟩
  rotate_left
  · exact absurd hq (by omega)
  clear hq
  have h1 := h0.next hb
  have xx0k1 : _ := h1.x.cell 0 _ rfl
  have xx1k1 : _ := h1.x.cell 1 _ rfl
  have xx2k1 : _ := h1.x.cell 2 _ rfl
  have xx3k1 : _ := h1.x.cell 3 _ rfl
  have xx4k1 : _ := h1.x.cell 4 _ rfl
  have Z1 := Lib.hid h1.z
  clear hb h0 xx0k0 xx1k0 xx2k0 xx3k0 xx4k0
  go_wp2_with fail
  refine (toGather_any pk0 pl0 re0 rc0 a0 n0 cap0 z0 _ (h0A.below h1.b) hn0).mono ?_
  rintro e w2 ⟨gs0, rfl, ges0, hb, Ss0⟩
  replace Ss0 := Ss0.res (cap := n0) ges0
  clear ges0
  have h2 := h1.next hb
  have xx0k2 : _ := h2.x.cell 0 _ rfl
  have xx1k2 : _ := h2.x.cell 1 _ rfl
  have xx2k2 : _ := h2.x.cell 2 _ rfl
  have xx3k2 : _ := h2.x.cell 3 _ rfl
  have xx4k2 : _ := h2.x.cell 4 _ rfl
  have Z2 := Lib.hid hb.size
  clear hb h1 xx0k1 xx1k1 xx2k1 xx3k1 xx4k1
  go_wp2_with fail
  refine (toInt64S_any a1 n1 cap1 z1 _ (h1A.from h2.b) hn1).mono ?_
  rintro e w3 ⟨gs1, rfl, ges1, hb, Ss1⟩
  replace Ss1 := Ss1.res (cap := n1) ges1
  clear ges1
  have h3 := h2.next hb
  have xx0k3 : _ := h3.x.cell 0 _ rfl
  have xx1k3 : _ := h3.x.cell 1 _ rfl
  have xx2k3 : _ := h3.x.cell 2 _ rfl
  have xx3k3 : _ := h3.x.cell 3 _ rfl
  have xx4k3 : _ := h3.x.cell 4 _ rfl
  have Z3 := Lib.hid hb.size
  replace Ss0 := Ss0.next hb
  clear hb h2 xx0k2 xx1k2 xx2k2 xx3k2 xx4k2
  go_wp2_with fail
  refine (toInt64S_any a2 n2 cap2 z2 _ (h2A.from h3.b) hn2).mono ?_
  rintro e w4 ⟨gs2, rfl, ges2, hb, Ss2⟩
  replace Ss2 := Ss2.res (cap := n2) ges2
  clear ges2
  have h4 := h3.next hb
  have xx0k4 : _ := h4.x.cell 0 _ rfl
  have xx1k4 : _ := h4.x.cell 1 _ rfl
  have xx2k4 : _ := h4.x.cell 2 _ rfl
  have xx3k4 : _ := h4.x.cell 3 _ rfl
  have xx4k4 : _ := h4.x.cell 4 _ rfl
  have Z4 := Lib.hid hb.size
  replace Ss0 := Ss0.next hb
  replace Ss1 := Ss1.next hb
  clear hb h3 xx0k3 xx1k3 xx2k3 xx3k3 xx4k3
  go_wp2_with fail
  have S := specMissedBy_any pk0 pl0 re0 rc0 (.slice (some ⟨gs0, 0, none⟩) n0 n0) z0 (.slice (some ⟨gs1, 0, none⟩) n1 n1) z1 (.slice (some ⟨gs2, 0, none⟩) n2 n2) z2 _ (hT.below h4.b) Ss0 Ss1 Ss2
  rw [HR.out] at S
  try dsimp only at S
  refine S.mono ?_
  clear S
  rintro e w5 ⟨rfl, hb⟩
  have h5 := h4.next hb
  have xx0k5 : _ := h5.x.cell 0 _ rfl
  have xx1k5 : _ := h5.x.cell 1 _ rfl
  have xx2k5 : _ := h5.x.cell 2 _ rfl
  have xx3k5 : _ := h5.x.cell 3 _ rfl
  have xx4k5 : _ := h5.x.cell 4 _ rfl
  have Z5 := Lib.hid hb.size
  replace Ss0 := Ss0.next hb
  replace Ss1 := Ss1.next hb
  replace Ss2 := Ss2.next hb
  clear hb h4 xx0k4 xx1k4 xx2k4 xx3k4 xx4k4
  clear Ss0
  clear Ss1
  clear Ss2
  go_wp2_with fail
  refine (toGather_any pk0 pl0 re0 rc0 a0 n0 cap0 z0 _ (h0A.below h5.b) hn0).mono ?_
  rintro e w6 ⟨gx0, rfl, gex0, hb, Sx0⟩
  replace Sx0 := Sx0.res (cap := n0) gex0
  clear gex0
  have h6 := h5.next hb
  have xx0k6 : _ := h6.x.cell 0 _ rfl
  have xx1k6 : _ := h6.x.cell 1 _ rfl
  have xx2k6 : _ := h6.x.cell 2 _ rfl
  have xx3k6 : _ := h6.x.cell 3 _ rfl
  have xx4k6 : _ := h6.x.cell 4 _ rfl
  have Z6 := Lib.hid hb.size
  clear hb h5 xx0k5 xx1k5 xx2k5 xx3k5 xx4k5
  have hb := below_alloc1 w6 (.cells (gatL pk0 pl0 (.slice (some ⟨gx0, 0, none⟩) n0 n0) re0 rc0).toArray 60)
  have nBx0 := LB.one w6 (gatL pk0 pl0 (.slice (some ⟨gx0, 0, none⟩) n0 n0) re0 rc0) 60
  have h7 := h6.next hb
  have xx0k7 : _ := h7.x.cell 0 _ rfl
  have xx1k7 : _ := h7.x.cell 1 _ rfl
  have xx2k7 : _ := h7.x.cell 2 _ rfl
  have xx3k7 : _ := h7.x.cell 3 _ rfl
  have xx4k7 : _ := h7.x.cell 4 _ rfl
  have Z7 := Lib.hid hb.size
  replace Sx0 := Sx0.next hb
  clear hb h6 xx0k6 xx1k6 xx2k6 xx3k6 xx4k6
  have Y7 := Lib.hid (show w6.heap.size + 1 ≤ (w6.alloc (.cells (gatL pk0 pl0 (.slice (some ⟨gx0, 0, none⟩) n0 n0) re0 rc0).toArray 60)).heap.size by simp)
  have Bx0 := nBx0; clear nBx0
  have q0Bx0 : _ := Bx0.cell 0 _ rfl
  have q1Bx0 : _ := Bx0.cell 1 _ rfl
  have q2Bx0 : _ := Bx0.cell 2 _ rfl
  have q3Bx0 : _ := Bx0.cell 3 _ rfl
  have q4Bx0 : _ := Bx0.cell 4 _ rfl
  go_wp2_with fail
  refine (toInt64S_any a1 n1 cap1 z1 _ (h1A.from h7.b) hn1).mono ?_
  rintro e w8 ⟨gx1, rfl, gex1, hb, Sx1⟩
  replace Sx1 := Sx1.res (cap := n1) gex1
  clear gex1
  have h8 := h7.next hb
  have xx0k8 : _ := h8.x.cell 0 _ rfl
  have xx1k8 : _ := h8.x.cell 1 _ rfl
  have xx2k8 : _ := h8.x.cell 2 _ rfl
  have xx3k8 : _ := h8.x.cell 3 _ rfl
  have xx4k8 : _ := h8.x.cell 4 _ rfl
  have Z8 := Lib.hid hb.size
  replace Sx0 := Sx0.next hb
  replace Bx0 := Bx0.next hb
  replace q0Bx0 : _ := Bx0.cell 0 _ rfl
  replace q1Bx0 : _ := Bx0.cell 1 _ rfl
  replace q2Bx0 : _ := Bx0.cell 2 _ rfl
  replace q3Bx0 : _ := Bx0.cell 3 _ rfl
  replace q4Bx0 : _ := Bx0.cell 4 _ rfl
  clear hb h7 xx0k7 xx1k7 xx2k7 xx3k7 xx4k7
  go_wp2_with fail
  refine (toInt64S_any a2 n2 cap2 z2 _ (h2A.from h8.b) hn2).mono ?_
  rintro e w9 ⟨gx2, rfl, gex2, hb, Sx2⟩
  replace Sx2 := Sx2.res (cap := n2) gex2
  clear gex2
  have h9 := h8.next hb
  have xx0k9 : _ := h9.x.cell 0 _ rfl
  have xx1k9 : _ := h9.x.cell 1 _ rfl
  have xx2k9 : _ := h9.x.cell 2 _ rfl
  have xx3k9 : _ := h9.x.cell 3 _ rfl
  have xx4k9 : _ := h9.x.cell 4 _ rfl
  have Z9 := Lib.hid hb.size
  replace Sx0 := Sx0.next hb
  replace Bx0 := Bx0.next hb
  replace q0Bx0 : _ := Bx0.cell 0 _ rfl
  replace q1Bx0 : _ := Bx0.cell 1 _ rfl
  replace q2Bx0 : _ := Bx0.cell 2 _ rfl
  replace q3Bx0 : _ := Bx0.cell 3 _ rfl
  replace q4Bx0 : _ := Bx0.cell 4 _ rfl
  replace Sx1 := Sx1.next hb
  clear hb h8 xx0k8 xx1k8 xx2k8 xx3k8 xx4k8
  go_wp2_with fail
  have S := implMissedBy_any pk0 pl0 re0 rc0 (.slice (some ⟨gx0, 0, none⟩) n0 n0) z0 (.slice (some ⟨gx1, 0, none⟩) n1 n1) z1 (.slice (some ⟨gx2, 0, none⟩) n2 n2) z2 _ (hT.below h9.b) Sx0 Sx1 Sx2
  rw [HR.out] at S
  try dsimp only at S
  refine S.mono ?_
  clear S
  rintro e w10 ⟨rfl, hb⟩
  have h10 := h9.next hb
  have xx0k10 : _ := h10.x.cell 0 _ rfl
  have xx1k10 : _ := h10.x.cell 1 _ rfl
  have xx2k10 : _ := h10.x.cell 2 _ rfl
  have xx3k10 : _ := h10.x.cell 3 _ rfl
  have xx4k10 : _ := h10.x.cell 4 _ rfl
  have Z10 := Lib.hid hb.size
  replace Sx0 := Sx0.next hb
  replace Bx0 := Bx0.next hb
  replace q0Bx0 : _ := Bx0.cell 0 _ rfl
  replace q1Bx0 : _ := Bx0.cell 1 _ rfl
  replace q2Bx0 : _ := Bx0.cell 2 _ rfl
  replace q3Bx0 : _ := Bx0.cell 3 _ rfl
  replace q4Bx0 : _ := Bx0.cell 4 _ rfl
  replace Sx1 := Sx1.next hb
  replace Sx2 := Sx2.next hb
  clear hb h9 xx0k9 xx1k9 xx2k9 xx3k9 xx4k9
  have HD := Lib.hid h10.drew
  have OSx0 := Lib.hid (Sx0.next (Below.refl _ w10).drew)
  have OBx0 := Lib.hid (Bx0.next (Below.refl _ w10).drew)
  have OSx1 := Lib.hid (Sx1.next (Below.refl _ w10).drew)
  have OSx2 := Lib.hid (Sx2.next (Below.refl _ w10).drew)
  go_wp2_with fail
  go_region_law (go_simp; go_wp2_with (first | (go_at_call 28; refine (toGather_any pk0 pl0 re0 rc0 a0 n0 cap0 z0 _ (h0A.below HD.out.b) hn0).mono ?_; rintro e w11 ⟨b7, rfl, ge7, hb, M7⟩; have H7 := Lib.hid (HD.out.next hb); have PSx0 := Lib.hid (OSx0.out.next hb); have PBx0 := Lib.hid (OBx0.out.next hb); have PSx1 := Lib.hid (OSx1.out.next hb); have PSx2 := Lib.hid (OSx2.out.next hb); have RY := Lib.hid (M7.res (cap := n0) ge7); have mq0 : _ := PBx0.out.cell 0 _ rfl; have mq1 : _ := PBx0.out.cell 1 _ rfl; have mq2 : _ := PBx0.out.cell 2 _ rfl; have mq3 : _ := PBx0.out.cell 3 _ rfl; have mq4 : _ := PBx0.out.cell 4 _ rfl; have Z11 := Lib.hid (show w10.heap.size ≤ w11.heap.size from hb.size); clear hb ge7 M7) | (go_at_call 31; refine (eqGather_res pk0 pl0 re0 rc0 PSx0.out RY.out).mono ?_; rintro e w12 ⟨rfl, hb⟩; have H8 := Lib.hid (H7.out.next hb); have QSx0 := Lib.hid (PSx0.out.next hb); have QBx0 := Lib.hid (PBx0.out.next hb); have QSx1 := Lib.hid (PSx1.out.next hb); have QSx2 := Lib.hid (PSx2.out.next hb); have Z12 := Lib.hid hb.size; clear hb)))
  all_goals
    have h12 := H8.out
    clear xx0k10 xx1k10 xx2k10 xx3k10 xx4k10 mq0 mq1 mq2 mq3 mq4
    have xx0k12 : _ := h12.x.cell 0 _ rfl
    have xx1k12 : _ := h12.x.cell 1 _ rfl
    have xx2k12 : _ := h12.x.cell 2 _ rfl
    have xx3k12 : _ := h12.x.cell 3 _ rfl
    have xx4k12 : _ := h12.x.cell 4 _ rfl
    replace Sx0 := QSx0.out
    replace Bx0 := QBx0.out
    replace q0Bx0 : _ := Bx0.cell 0 _ rfl
    replace q1Bx0 : _ := Bx0.cell 1 _ rfl
    replace q2Bx0 : _ := Bx0.cell 2 _ rfl
    replace q3Bx0 : _ := Bx0.cell 3 _ rfl
    replace q4Bx0 : _ := Bx0.cell 4 _ rfl
    replace Sx1 := QSx1.out
    replace Sx2 := QSx2.out
    clear OSx0 PSx0 QSx0 OBx0 PBx0 QBx0 OSx1 PSx1 QSx1 OSx2 PSx2 QSx2 HD H7 H8 RY
    go_wp2_with fail
    refine (toInt64S_any a1 n1 cap1 z1 _ (h1A.from h12.b) hn1).mono ?_
    rintro e w13 ⟨gy1, rfl, gey1, hb, Sy1⟩
    replace Sy1 := Sy1.res (cap := n1) gey1
    clear gey1
    have h13 := h12.next hb
    have xx0k13 : _ := h13.x.cell 0 _ rfl
    have xx1k13 : _ := h13.x.cell 1 _ rfl
    have xx2k13 : _ := h13.x.cell 2 _ rfl
    have xx3k13 : _ := h13.x.cell 3 _ rfl
    have xx4k13 : _ := h13.x.cell 4 _ rfl
    have Z13 := Lib.hid hb.size
    replace Sx0 := Sx0.next hb
    replace Bx0 := Bx0.next hb
    replace q0Bx0 : _ := Bx0.cell 0 _ rfl
    replace q1Bx0 : _ := Bx0.cell 1 _ rfl
    replace q2Bx0 : _ := Bx0.cell 2 _ rfl
    replace q3Bx0 : _ := Bx0.cell 3 _ rfl
    replace q4Bx0 : _ := Bx0.cell 4 _ rfl
    replace Sx1 := Sx1.next hb
    replace Sx2 := Sx2.next hb
    clear hb h12 xx0k12 xx1k12 xx2k12 xx3k12 xx4k12
    go_wp2_with fail
    refine (eq_res Sx1 Sy1).mono ?_
    rintro e w14 ⟨rfl, hb⟩
    have h14 := h13.next hb
    have xx0k14 : _ := h14.x.cell 0 _ rfl
    have xx1k14 : _ := h14.x.cell 1 _ rfl
    have xx2k14 : _ := h14.x.cell 2 _ rfl
    have xx3k14 : _ := h14.x.cell 3 _ rfl
    have xx4k14 : _ := h14.x.cell 4 _ rfl
    have Z14 := Lib.hid hb.size
    replace Sx0 := Sx0.next hb
    replace Bx0 := Bx0.next hb
    replace q0Bx0 : _ := Bx0.cell 0 _ rfl
    replace q1Bx0 : _ := Bx0.cell 1 _ rfl
    replace q2Bx0 : _ := Bx0.cell 2 _ rfl
    replace q3Bx0 : _ := Bx0.cell 3 _ rfl
    replace q4Bx0 : _ := Bx0.cell 4 _ rfl
    replace Sx1 := Sx1.next hb
    replace Sx2 := Sx2.next hb
    replace Sy1 := Sy1.next hb
    clear hb h13 xx0k13 xx1k13 xx2k13 xx3k13 xx4k13
    clear Sy1
    go_wp2_with fail
    refine (toInt64S_any a2 n2 cap2 z2 _ (h2A.from h14.b) hn2).mono ?_
    rintro e w15 ⟨gy2, rfl, gey2, hb, Sy2⟩
    replace Sy2 := Sy2.res (cap := n2) gey2
    clear gey2
    have h15 := h14.next hb
    have xx0k15 : _ := h15.x.cell 0 _ rfl
    have xx1k15 : _ := h15.x.cell 1 _ rfl
    have xx2k15 : _ := h15.x.cell 2 _ rfl
    have xx3k15 : _ := h15.x.cell 3 _ rfl
    have xx4k15 : _ := h15.x.cell 4 _ rfl
    have Z15 := Lib.hid hb.size
    replace Sx0 := Sx0.next hb
    replace Bx0 := Bx0.next hb
    replace q0Bx0 : _ := Bx0.cell 0 _ rfl
    replace q1Bx0 : _ := Bx0.cell 1 _ rfl
    replace q2Bx0 : _ := Bx0.cell 2 _ rfl
    replace q3Bx0 : _ := Bx0.cell 3 _ rfl
    replace q4Bx0 : _ := Bx0.cell 4 _ rfl
    replace Sx1 := Sx1.next hb
    replace Sx2 := Sx2.next hb
    clear hb h14 xx0k14 xx1k14 xx2k14 xx3k14 xx4k14
    go_wp2_with fail
    refine (eq_res Sx2 Sy2).mono ?_
    rintro e w16 ⟨rfl, hb⟩
    have h16 := h15.next hb
    have xx0k16 : _ := h16.x.cell 0 _ rfl
    have xx1k16 : _ := h16.x.cell 1 _ rfl
    have xx2k16 : _ := h16.x.cell 2 _ rfl
    have xx3k16 : _ := h16.x.cell 3 _ rfl
    have xx4k16 : _ := h16.x.cell 4 _ rfl
    have Z16 := Lib.hid hb.size
    replace Sx0 := Sx0.next hb
    replace Bx0 := Bx0.next hb
    replace q0Bx0 : _ := Bx0.cell 0 _ rfl
    replace q1Bx0 : _ := Bx0.cell 1 _ rfl
    replace q2Bx0 : _ := Bx0.cell 2 _ rfl
    replace q3Bx0 : _ := Bx0.cell 3 _ rfl
    replace q4Bx0 : _ := Bx0.cell 4 _ rfl
    replace Sx1 := Sx1.next hb
    replace Sx2 := Sx2.next hb
    replace Sy2 := Sy2.next hb
    clear hb h15 xx0k15 xx1k15 xx2k15 xx3k15 xx4k15
    clear Sy2
    go_wp2_with fail
    go_ret
    exact ⟨rfl, h16.b⟩

set_option maxRecDepth 100000 in
theorem lifted (os : Os) (started : os.Started) (H : Type) (enc : TypeId × Value → H) :
    ReturnsInHanded {} Tryd.checked os 5 .any (fun w args => (Rows.fnExactMissedBySpec.pre enc Tryd.prog Tryd.f5 [] false w args ∧ laidMetH Tryd.prog listed w) ∧ sizedMet enc Tryd.prog Tryd.f5 (OpenSpec.ofChange Rows.fnExactMissedBySpec) false w args)
      (Rows.fnExactMissedBySpec.post enc Tryd.prog Tryd.f5 false true false false) := by
  refine returnsInHanded_of_change_and (C := Tryd.checked) (X := fun w _ => laidMetH Tryd.prog listed w) (fun _ _ _ hh h => h.of_heap hh) own started (by kernel_rfl) Tryd.func5
    (ChangeSpec.witness_shaped (enc := enc) (C := Tryd.checked) (os := os) (X := fun w _ => laidMetH Tryd.prog listed w) false (World.doorLaid Tryd.prog 400 os) #[.agg #[.int .i64 0, .int .i64 0, .slice none 0 0, .int .i64 0, .int .i64 0], .slice none 0 0, .slice none 0 0] 8 rfl (World.shaped_of_RefB (by kernel_rfl) (by kernel_rfl)) (by kernel_rfl) (by kernel_rfl) (by kernel_rfl) (door_met os _)) ?_
  intro W base args ds gs before hval0 hW _ _ hL _
  have hval : ∀ (j : Nat) t v, Tryd.f5.params[j]? = some t → args[j]? = some v → Value.okWide Tryd.prog W .any base t v := hval0
  have hT := tab_of_laid hL
  have hW' := hW
  obtain ⟨p, q, hA0, hV, rfl, hfz, hnd⟩ := hW
  have hA : DataW.TrodAll enc Tryd.prog W 0 (fun _ => true) true Tryd.f5.params.toList args.toList ds p := hA0
  rw [Tryd.params5] at hA hval
  obtain ⟨v0, vs0, dd0, ds0, pp0, qq0, hargs, rfl, rfl, h0, r0⟩ := trodAll_cons hA
  obtain ⟨v1, vs1, dd1, ds1, pp1, qq1, rfl, rfl, rfl, h1, r1⟩ := trodAll_cons r0
  obtain ⟨v2, vs2, dd2, ds2, pp2, qq2, rfl, rfl, rfl, h2, r2⟩ := trodAll_cons r1
  obtain ⟨rfl, rfl, rfl⟩ := trodAll_nil r2
  obtain rfl : args = #[v0, v1, v2] := by cases args; simp_all
  obtain ⟨rfl, rfl⟩ := trodVars_none hV
  have k0 := h0
  have lt0 : ∀ x ∈ pp0, x.block < W.heap.size := by obtain ⟨m, hm⟩ := k0; exact DataW.trod_lt m _ _ _ hm
  obtain ⟨pk0, pl0, re0, rc0, a0, n0, cap0, z0, rfl, wk0, wl0, wr0, wc0, w0⟩ := gather_open (hval 0 56 v0 rfl rfl) h0
  have k1 := h1
  have lt1 : ∀ x ∈ pp1, x.block < W.heap.size := by obtain ⟨m, hm⟩ := k1; exact DataW.trod_lt m _ _ _ hm
  obtain ⟨a1, n1, cap1, rfl⟩ := okWide_slice Tryd.underlying24 (hval 1 24 v1 rfl rfl)
  obtain ⟨z1, w1⟩ : ∃ z, Arg W a1 n1 z := by
    obtain ⟨fuel, hf⟩ := h1
    obtain ⟨A, k, c, z, e, w⟩ := arg_open (v := .slice a1 n1 cap1) hf
    injection e with e1 e2 e3
    subst e1 e2 e3
    exact ⟨z, w⟩
  have k2 := h2
  have lt2 : ∀ x ∈ pp2, x.block < W.heap.size := by obtain ⟨m, hm⟩ := k2; exact DataW.trod_lt m _ _ _ hm
  obtain ⟨a2, n2, cap2, rfl⟩ := okWide_slice Tryd.underlying24 (hval 2 24 v2 rfl rfl)
  obtain ⟨z2, w2⟩ : ∃ z, Arg W a2 n2 z := by
    obtain ⟨fuel, hf⟩ := h2
    obtain ⟨A, k, c, z, e, w⟩ := arg_open (v := .slice a2 n2 cap2) hf
    injection e with e1 e2 e3
    subst e1 e2 e3
    exact ⟨z, w⟩
  clear hA0 hval0
  refine (walk pk0 pl0 re0 rc0 wk0 wl0 wr0 wc0 a0 n0 cap0 z0 a1 n1 cap1 z1 a2 n2 cap2 z2 W hT w0 w1 w2).mono fun e W' ⟨he, bel⟩ => ?_
  subst he
  exact ⟨_, rfl, _, _, _, [], _, [], hW', trodAll_mk1 (shut_bool Tryd.underlying4 _), (trodAll_cons_mk (Below.trod laidOut (by kernel_rfl) (of_decide_eq_true (by kernel_rfl)) k0 bel lt0) (trodAll_cons_mk (Below.trod laidOut (by kernel_rfl) (of_decide_eq_true (by kernel_rfl)) k1 bel lt1) (trodAll_cons_mk (Below.trod laidOut (by kernel_rfl) (of_decide_eq_true (by kernel_rfl)) k2 bel lt2) trodAll_mk0))), rfl, bel.frame _, fun h => by cases h⟩

theorem over : Rows.fnExactMissedByRow.holds Tryd.pinned (OpenSpec.ofChange Rows.fnExactMissedBySpec) :=
  OpenClaim.holds_of_wide 5 Tryd.f5 rfl rfl rfl rfl rfl rfl rfl ⟨rfl, rfl, rfl, rfl, rfl⟩ rfl rfl rfl rfl rfl (by kernel_rfl) Tryd.func5 (by kernel_rfl)
    (of_decide_eq_true (by kernel_rfl)) (by unfold Func.isWrapper; first | (rw [if_pos (by decide +kernel)]; kernel_rfl) | (rw [if_neg (by decide +kernel)]; exact ⟨rfl, rfl⟩))
    (fun os started H enc _ => lifted os started H enc)

theorem proved : Rows.FnExactMissedByCardSaid :=
  Claim7.holds_tied_plain_at .later [] [.data] true Rows.fnExactMissedByCard.stood.harness false
    over (fun _ h => by cases h) (by kernel_rfl) (fun _ h => by cases h) fnExactMissedBy_row_tie rfl ⟨rfl, rfl⟩ (by kernel_rfl) rfl
    (fun f fn hf hfn => by
      obtain rfl : f = 5 := Option.some.inj ((show Tryd.prog.funcNamed "loop.example/g01144/laws.FnExactMissedBy" = some 5 by kernel_rfl).symm.trans hf) |>.symm
      obtain rfl : fn = Tryd.f5 := (Option.some.inj (Tryd.func5.symm.trans hfn)).symm
      exact ⟨by kernel_rfl, fun j t ht => by
        rw [Tryd.params5] at ht
        have hm : t ∈ [56, 24, 24] := by simpa using Array.mem_of_getElem? ht
        have hall : ([56, 24, 24].all fun u => !Tryd.prog.wantsStandIn u) = true := by kernel_rfl
        exact (show Tryd.prog.wantsStandIn t = false by simpa using List.all_eq_true.1 hall t hm)⟩)
    (by kernel_rfl)
#print axioms proved
end Go.Proofs.YtibennpdffgomaaDoor.fnExactMissedBy
