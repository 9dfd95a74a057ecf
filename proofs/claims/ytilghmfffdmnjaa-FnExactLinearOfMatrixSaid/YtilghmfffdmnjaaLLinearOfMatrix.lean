/- FnExactLinearOfMatrix: for every input the law returns true, and every argument reads afterwards as it read before. No condition. -/
import Derived.Test.YtilghmfffdmnjaaRows
import Derived.WalkKit
import Derived.ProofKit
import Derived.OpenShut
import Derived.ChangeOld
import Derived.Below
import Derived.Lib.SmallJoins
import Derived.Test.YtilghmfffdmnjaaLofI
import Derived.Test.YtilghmfffdmnjaaLB
import Derived.Test.YtilghmfffdmnjaaToField
import Derived.Test.YtilghmfffdmnjaaThird
import Derived.Test.YtilghmfffdmnjaaRow
import Derived.Test.YtilghmfffdmnjaaRes
import Derived.Test.YtilghmfffdmnjaaMtRes
import Derived.Test.YtilghmfffdmnjaaValid
import Derived.Test.YtilghmfffdmnjaaStep
namespace Go.Proofs.Ytilghmfffdmnjaa.fnExactLinearOfMatrix
open Go.ChangeShapes Go.WideShapes Go.ChangeAt Go.RowKit Go.Joins
set_option linter.unusedVariables false

theorem own : ownKnob Try.prog.godebug = none := by kernel_rfl
theorem laidOut : laidOutB Try.prog = true := by kernel_rfl
theorem cellsField : Try.prog.cellsOf 33 = 2 := by kernel_rfl
theorem cellsMat : Try.prog.cellsOf 56 = 2 := by kernel_rfl

set_option maxRecDepth 100000 in
set_option maxHeartbeats 12800000 in
theorem walk (d0 p0 : Int) (wd0 : (Lit.int .i64 d0).wf = true) (wp0 : (Lit.int .i64 p0).wf = true) (a1 : Option Addr) (n1 cap1 : Nat) (z1 : List Int) (c2 : Int) (a2 : Option Addr) (n2 cap2 : Nat) (z2 : List Int) (w : World) (h1A : Arg w a1 n1 z1) (h2 : Arg w a2 n2 z2) :
    Calls Try.prog 8 #[.agg #[.int .i64 d0, .int .i64 p0], .slice a1 n1 cap1, .agg #[.int .i64 c2, .slice a2 n2 cap2]] w fun e w' => e = .returned (.bool true) ∧ Below w.heap.size w w' := by
  obtain ⟨hl, hh⟩ := bounds_i64 wp0
  have big1 := h1A.big
  have l1 := h1A.len
  have big2 := h2.big
  have l2 := h2.len
  by_cases hn1 : n1 ≤ 1048576
  rotate_left
  ·
    go_enter Try.func8, Try.ntmps8
    have h0 := G2.start w [.int .i64 d0, .int .i64 p0] [.int .i64 c2, (.slice a2 n2 cap2)] 33 56
    have xx0k0 : _ := h0.x.cell 0 _ rfl
    have xx1k0 : _ := h0.x.cell 1 _ rfl
    have xy0k0 : _ := h0.y.cell 0 _ rfl
    have xy1k0 : _ := h0.y.cell 1 _ rfl
    go_wp2_with fail
    go_ret
    exact ⟨rfl, h0.b⟩
  by_cases hm2 : n2 ≤ 1048576
  rotate_left
  ·
    go_enter Try.func8, Try.ntmps8
    have h0 := G2.start w [.int .i64 d0, .int .i64 p0] [.int .i64 c2, (.slice a2 n2 cap2)] 33 56
    have xx0k0 : _ := h0.x.cell 0 _ rfl
    have xx1k0 : _ := h0.x.cell 1 _ rfl
    have xy0k0 : _ := h0.y.cell 0 _ rfl
    have xy1k0 : _ := h0.y.cell 1 _ rfl
    go_wp2_with fail
    refine (szMatrix_no c2 a2 n2 cap2 big2 1048576 (by omega) (by omega) (by omega) _).mono ?_
    rintro e w1 ⟨rfl, hb⟩
    have hb1 := (h0.next hb).b
    clear hb
    go_wp2_with fail
    go_ret
    exact ⟨rfl, hb1⟩
  have hn2 : n2 ≤ 1048576 := by omega
  obtain ⟨r, hr⟩ : ∃ r, fLinearOfMatrix d0 p0 z1 c2 z2 = r := ⟨_, rfl⟩
  have HR := Lib.hid hr
  clear hr
  obtain ⟨r1, r2⟩ := r
  go_enter Try.func8, Try.ntmps8
  have h0 := G2.start w [.int .i64 d0, .int .i64 p0] [.int .i64 c2, (.slice a2 n2 cap2)] 33 56
  have xx0k0 : _ := h0.x.cell 0 _ rfl
  have xx1k0 : _ := h0.x.cell 1 _ rfl
  have xy0k0 : _ := h0.y.cell 0 _ rfl
  have xy1k0 : _ := h0.y.cell 1 _ rfl
  go_wp2_with fail
  refine (szMatrix_ok c2 a2 n2 cap2 1048576 (by omega) (by omega) _).mono ?_
  rintro e w1 ⟨rfl, hb⟩
  have h1 := h0.next hb
  have xx0k1 : _ := h1.x.cell 0 _ rfl
  have xx1k1 : _ := h1.x.cell 1 _ rfl
  have xy0k1 : _ := h1.y.cell 0 _ rfl
  have xy1k1 : _ := h1.y.cell 1 _ rfl
  have Z1 := Lib.hid h1.z
  clear hb h0 xx0k0 xx1k0 xy0k0 xy1k0
  go_wp2_with fail
  have CB : ∀ w' : World, Below w1.heap.size w1 w' → w'.cell? ⟨w.heap.size, 0, none⟩ = some (.int .i64 d0) ∧ w'.cell? ⟨w.heap.size, 1, none⟩ = some (.int .i64 p0) ∧ w'.cell? ⟨(w.heap.size + 1), 0, none⟩ = some (.int .i64 c2) ∧ w'.cell? ⟨(w.heap.size + 1), 1, none⟩ = some (.slice a2 n2 cap2) ∧ Below w1.heap.size w1 w' := fun w' hB => ⟨(h1.next hB).x.cell 0 _ rfl, (h1.next hB).x.cell 1 _ rfl, (h1.next hB).y.cell 0 _ rfl, (h1.next hB).y.cell 1 _ rfl, hB⟩
  have HBK : ∀ W : World, Below w1.heap.size w1 W → Below w.heap.size w W := fun W h => h1.b.trans (h.mono h1.b.size)
  have hD : Below w1.heap.size w1 w1.drew := (Below.refl _ _).drew
  replace CB := Lib.hid CB
  replace HBK := Lib.hid HBK
  have HK1 := Lib.hid h1
  clear h1 xx0k1 xx1k1 xy0k1 xy1k1
  go_region_held3 (fun w' => w'.cell? ⟨w.heap.size, 0, none⟩ = some (.int .i64 d0) ∧ w'.cell? ⟨w.heap.size, 1, none⟩ = some (.int .i64 p0) ∧ w'.cell? ⟨(w.heap.size + 1), 0, none⟩ = some (.int .i64 c2) ∧ w'.cell? ⟨(w.heap.size + 1), 1, none⟩ = some (.slice a2 n2 cap2) ∧ Below w1.heap.size w1 w') (first | exact CB.out _ hD | exact ⟨by assumption, by assumption, by assumption, by assumption, by assumption⟩ | exact CB.out _ (by assumption)) (first | (go_at_call 18; with_reducible refine (toField_any d0 p0 _).mono ?_; rintro e va0 ⟨rfl, hr⟩; have G0 := below_onL (a := w1) hr (by assumption); obtain ⟨eG00, eG01, eG02, eG03, eG0B⟩ := CB.out _ G0; clear hr) | (go_at_call 36; with_reducible refine (toInt64S_any a1 n1 cap1 z1 _ (h1A.from (HBK.out _ (by assumption))) hn1).mono ?_; rintro e va1 ⟨gs1, rfl, ge, hr, Ms1⟩; have G1 := below_onL (a := w1) hr (by assumption); obtain ⟨eG10, eG11, eG12, eG13, eG1B⟩ := CB.out _ G1; clear hr ge) | (go_at_call 37; with_reducible refine (toMatrix_any c2 a2 n2 cap2 z2 _ (h2.from (HBK.out _ (by assumption))) (by omega)).mono ?_; rintro e va2 ⟨gs2, rfl, ge, hr, Ms2⟩; have G2 := below_onL (a := w1) hr (by assumption); obtain ⟨eG20, eG21, eG22, eG23, eG2B⟩ := CB.out _ G2; replace Ms1 := Ms1.next hr; clear hr ge) | (go_at_call 35; have S := specLinearOfMatrix_any d0 p0 gs1 n1 n1 z1 c2 gs2 n2 n2 z2 _ Ms1 Ms2; rw [HR.out] at S; (try dsimp only at S); refine S.mono ?_; clear S; rintro e w2 ⟨vw, rfl, hr, Rw⟩; have GZ := below_onL (a := w1) hr (by assumption); obtain ⟨eGZ0, eGZ1, eGZ2, eGZ3, eGZB⟩ := CB.out _ GZ; replace Ms1 := Ms1.next hr; replace Ms2 := Ms2.next hr; replace Rw : Res w2 (w1.heap.size) (w2.heap.size) vw r1 := Rw.wide G2.size (Nat.le_refl _) (Nat.le_refl _); obtain ⟨aow, mow, cow, rfl⟩ := Rw.form; clear hr))
  have h1 := HK1.out
  have hb := GZ
  have xx0k1 : _ := h1.x.cell 0 _ rfl
  have xx1k1 : _ := h1.x.cell 1 _ rfl
  have xy0k1 : _ := h1.y.cell 0 _ rfl
  have xy1k1 : _ := h1.y.cell 1 _ rfl
  clear eGZ0 eGZ1 eGZ2 eGZ3 eG20 eG21 eG22 eG23 eG10 eG11 eG12 eG13 eG00 eG01 eG02 eG03 eG0B eG1B eG2B eGZB CB HBK hD HK1 G0 G1 G2 GZ Ms1 Ms2
  have h2 := h1.next hb
  have xx0k2 : _ := h2.x.cell 0 _ rfl
  have xx1k2 : _ := h2.x.cell 1 _ rfl
  have xy0k2 : _ := h2.y.cell 0 _ rfl
  have xy1k2 : _ := h2.y.cell 1 _ rfl
  have Z2 := Lib.hid hb.size
  clear hb h1 xx0k1 xx1k1 xy0k1 xy1k1
  go_wp2_with fail
  refine (toInt64S_any a1 n1 cap1 z1 _ (h1A.from h2.b) hn1).mono ?_
  rintro e w3 ⟨gx1, rfl, gex1, hb, Sx1⟩
  have Mx1 := Sx1
  replace Sx1 := Sx1.res (cap := n1) gex1
  clear gex1
  have h3 := h2.next hb
  have xx0k3 : _ := h3.x.cell 0 _ rfl
  have xx1k3 : _ := h3.x.cell 1 _ rfl
  have xy0k3 : _ := h3.y.cell 0 _ rfl
  have xy1k3 : _ := h3.y.cell 1 _ rfl
  have Z3 := Lib.hid hb.size
  replace Rw := Rw.next hb
  clear hb h2 xx0k2 xx1k2 xy0k2 xy1k2
  go_wp2_with fail
  refine (toMatrix_any c2 a2 n2 cap2 z2 _ (h2.from h3.b) (by omega)).mono ?_
  rintro e w4 ⟨gx2, rfl, gex2, hb, Sx2⟩
  have Mx2 := Sx2
  replace Sx2 := Sx2.res (cap := n2) gex2
  clear gex2
  have h4 := h3.next hb
  have xx0k4 : _ := h4.x.cell 0 _ rfl
  have xx1k4 : _ := h4.x.cell 1 _ rfl
  have xy0k4 : _ := h4.y.cell 0 _ rfl
  have xy1k4 : _ := h4.y.cell 1 _ rfl
  have Z4 := Lib.hid hb.size
  replace Rw := Rw.next hb
  replace Sx1 := Sx1.next hb
  replace Mx1 := Mx1.next hb
  clear hb h3 xx0k3 xx1k3 xy0k3 xy1k3
  have hb := below_alloc1 w4 (.cells [.int .i64 c2, (.slice (some ⟨gx2, 0, none⟩) n2 n2)].toArray 60)
  have nBx2 := LB.one w4 [.int .i64 c2, (.slice (some ⟨gx2, 0, none⟩) n2 n2)] 60
  have h5 := h4.next hb
  have xx0k5 : _ := h5.x.cell 0 _ rfl
  have xx1k5 : _ := h5.x.cell 1 _ rfl
  have xy0k5 : _ := h5.y.cell 0 _ rfl
  have xy1k5 : _ := h5.y.cell 1 _ rfl
  have Z5 := Lib.hid hb.size
  replace Rw := Rw.next hb
  replace Sx1 := Sx1.next hb
  replace Mx1 := Mx1.next hb
  replace Sx2 := Sx2.next hb
  replace Mx2 := Mx2.next hb
  clear hb h4 xx0k4 xx1k4 xy0k4 xy1k4
  have Y5 := Lib.hid (show w4.heap.size + 1 ≤ (w4.alloc (.cells [.int .i64 c2, (.slice (some ⟨gx2, 0, none⟩) n2 n2)].toArray 60)).heap.size by simp)
  have Bx2 := nBx2; clear nBx2
  have q0Bx2 : _ := Bx2.cell 0 _ rfl
  have q1Bx2 : _ := Bx2.cell 1 _ rfl
  go_wp2_with fail
  have CB : ∀ w' : World, Below (w4.alloc (.cells [.int .i64 c2, (.slice (some ⟨gx2, 0, none⟩) n2 n2)].toArray 60)).heap.size (w4.alloc (.cells [.int .i64 c2, (.slice (some ⟨gx2, 0, none⟩) n2 n2)].toArray 60)) w' → w'.cell? ⟨w.heap.size, 0, none⟩ = some (.int .i64 d0) ∧ w'.cell? ⟨w.heap.size, 1, none⟩ = some (.int .i64 p0) ∧ w'.cell? ⟨(w.heap.size + 1), 0, none⟩ = some (.int .i64 c2) ∧ w'.cell? ⟨(w.heap.size + 1), 1, none⟩ = some (.slice a2 n2 cap2) ∧ w'.cell? ⟨w4.heap.size, 0, none⟩ = some (.int .i64 c2) ∧ w'.cell? ⟨w4.heap.size, 1, none⟩ = some ((.slice (some ⟨gx2, 0, none⟩) n2 n2)) ∧ Below (w4.alloc (.cells [.int .i64 c2, (.slice (some ⟨gx2, 0, none⟩) n2 n2)].toArray 60)).heap.size (w4.alloc (.cells [.int .i64 c2, (.slice (some ⟨gx2, 0, none⟩) n2 n2)].toArray 60)) w' := fun w' hB => ⟨(h5.next hB).x.cell 0 _ rfl, (h5.next hB).x.cell 1 _ rfl, (h5.next hB).y.cell 0 _ rfl, (h5.next hB).y.cell 1 _ rfl, (Bx2.next hB).cell 0 _ rfl, (Bx2.next hB).cell 1 _ rfl, hB⟩
  have HBK : ∀ W : World, Below (w4.alloc (.cells [.int .i64 c2, (.slice (some ⟨gx2, 0, none⟩) n2 n2)].toArray 60)).heap.size (w4.alloc (.cells [.int .i64 c2, (.slice (some ⟨gx2, 0, none⟩) n2 n2)].toArray 60)) W → Below w.heap.size w W := fun W h => h5.b.trans (h.mono h5.b.size)
  have hD : Below (w4.alloc (.cells [.int .i64 c2, (.slice (some ⟨gx2, 0, none⟩) n2 n2)].toArray 60)).heap.size (w4.alloc (.cells [.int .i64 c2, (.slice (some ⟨gx2, 0, none⟩) n2 n2)].toArray 60)) (w4.alloc (.cells [.int .i64 c2, (.slice (some ⟨gx2, 0, none⟩) n2 n2)].toArray 60)).drew := (Below.refl _ _).drew
  replace CB := Lib.hid CB
  replace HBK := Lib.hid HBK
  have HK5 := Lib.hid h5
  clear h5 xx0k5 xx1k5 xy0k5 xy1k5 q0Bx2 q1Bx2
  replace Rw := Lib.hid Rw
  replace Sx1 := Lib.hid Sx1
  replace Mx1 := Lib.hid Mx1
  replace Sx2 := Lib.hid Sx2
  replace Mx2 := Lib.hid Mx2
  replace Bx2 := Lib.hid Bx2
  go_region_held3 (fun w' => w'.cell? ⟨w.heap.size, 0, none⟩ = some (.int .i64 d0) ∧ w'.cell? ⟨w.heap.size, 1, none⟩ = some (.int .i64 p0) ∧ w'.cell? ⟨(w.heap.size + 1), 0, none⟩ = some (.int .i64 c2) ∧ w'.cell? ⟨(w.heap.size + 1), 1, none⟩ = some (.slice a2 n2 cap2) ∧ w'.cell? ⟨w4.heap.size, 0, none⟩ = some (.int .i64 c2) ∧ w'.cell? ⟨w4.heap.size, 1, none⟩ = some ((.slice (some ⟨gx2, 0, none⟩) n2 n2)) ∧ Below (w4.alloc (.cells [.int .i64 c2, (.slice (some ⟨gx2, 0, none⟩) n2 n2)].toArray 60)).heap.size (w4.alloc (.cells [.int .i64 c2, (.slice (some ⟨gx2, 0, none⟩) n2 n2)].toArray 60)) w') (first | exact CB.out _ hD | exact ⟨by assumption, by assumption, by assumption, by assumption, by assumption, by assumption, by assumption⟩ | exact CB.out _ (by assumption)) (first | (go_at_call 18; with_reducible refine (toField_any d0 p0 _).mono ?_; rintro e va0 ⟨rfl, hr⟩; have G0 := below_onL (a := (w4.alloc (.cells [.int .i64 c2, (.slice (some ⟨gx2, 0, none⟩) n2 n2)].toArray 60))) hr (by assumption); obtain ⟨eG00, eG01, eG02, eG03, eG04, eG05, eG0B⟩ := CB.out _ G0; clear hr) | (go_at_call 38; have S := implLinearOfMatrix_any d0 p0 gx1 n1 n1 z1 c2 gx2 n2 n2 z2 _ hl hh (Mx1.out.next G0) (Mx2.out.next G0); rw [HR.out] at S; (try dsimp only at S); refine S.mono ?_; clear S; rintro e w6 ⟨vg, rfl, hr, Rg⟩; have GZ := below_onL (a := (w4.alloc (.cells [.int .i64 c2, (.slice (some ⟨gx2, 0, none⟩) n2 n2)].toArray 60))) hr (by assumption); obtain ⟨eGZ0, eGZ1, eGZ2, eGZ3, eGZ4, eGZ5, eGZB⟩ := CB.out _ GZ; replace Rg : Res w6 ((w4.alloc (.cells [.int .i64 c2, (.slice (some ⟨gx2, 0, none⟩) n2 n2)].toArray 60)).heap.size) (w6.heap.size) vg r1 := Rg.wide G0.size (Nat.le_refl _) (Nat.le_refl _); obtain ⟨aog, mog, cog, rfl⟩ := Rg.form; clear hr))
  have h5 := HK5.out
  have hb := GZ
  replace Rw := Rw.out
  replace Sx1 := Sx1.out
  replace Mx1 := Mx1.out
  replace Sx2 := Sx2.out
  replace Mx2 := Mx2.out
  replace Bx2 := Bx2.out
  have q0Bx2 : _ := Bx2.cell 0 _ rfl
  have q1Bx2 : _ := Bx2.cell 1 _ rfl
  have xx0k5 : _ := h5.x.cell 0 _ rfl
  have xx1k5 : _ := h5.x.cell 1 _ rfl
  have xy0k5 : _ := h5.y.cell 0 _ rfl
  have xy1k5 : _ := h5.y.cell 1 _ rfl
  clear eGZ0 eGZ1 eGZ2 eGZ3 eGZ4 eGZ5 eG00 eG01 eG02 eG03 eG04 eG05 eG0B eGZB CB HBK hD HK5 G0 GZ 
  clear Mx1
  clear Mx2
  have h6 := h5.next hb
  have xx0k6 : _ := h6.x.cell 0 _ rfl
  have xx1k6 : _ := h6.x.cell 1 _ rfl
  have xy0k6 : _ := h6.y.cell 0 _ rfl
  have xy1k6 : _ := h6.y.cell 1 _ rfl
  have Z6 := Lib.hid hb.size
  replace Rw := Rw.next hb
  replace Sx1 := Sx1.next hb
  replace Sx2 := Sx2.next hb
  replace Bx2 := Bx2.next hb
  replace q0Bx2 : _ := Bx2.cell 0 _ rfl
  replace q1Bx2 : _ := Bx2.cell 1 _ rfl
  clear hb h5 xx0k5 xx1k5 xy0k5 xy1k5
  go_wp2_with fail
  refine (eq_res Rg Rw).mono ?_
  rintro e w7 ⟨rfl, hb⟩
  have h7 := h6.next hb
  have xx0k7 : _ := h7.x.cell 0 _ rfl
  have xx1k7 : _ := h7.x.cell 1 _ rfl
  have xy0k7 : _ := h7.y.cell 0 _ rfl
  have xy1k7 : _ := h7.y.cell 1 _ rfl
  have Z7 := Lib.hid hb.size
  replace Rw := Rw.next hb
  replace Sx1 := Sx1.next hb
  replace Sx2 := Sx2.next hb
  replace Bx2 := Bx2.next hb
  replace q0Bx2 : _ := Bx2.cell 0 _ rfl
  replace q1Bx2 : _ := Bx2.cell 1 _ rfl
  replace Rg := Rg.next hb
  clear hb h6 xx0k6 xx1k6 xy0k6 xy1k6
  go_wp2_with fail
  refine (toInt64S_any a1 n1 cap1 z1 _ (h1A.from h7.b) hn1).mono ?_
  rintro e w8 ⟨gy1, rfl, gey1, hb, Sy1⟩
  replace Sy1 := Sy1.res (cap := n1) gey1
  clear gey1
  have h8 := h7.next hb
  have xx0k8 : _ := h8.x.cell 0 _ rfl
  have xx1k8 : _ := h8.x.cell 1 _ rfl
  have xy0k8 : _ := h8.y.cell 0 _ rfl
  have xy1k8 : _ := h8.y.cell 1 _ rfl
  have Z8 := Lib.hid hb.size
  replace Rw := Rw.next hb
  replace Sx1 := Sx1.next hb
  replace Sx2 := Sx2.next hb
  replace Bx2 := Bx2.next hb
  replace q0Bx2 : _ := Bx2.cell 0 _ rfl
  replace q1Bx2 : _ := Bx2.cell 1 _ rfl
  replace Rg := Rg.next hb
  clear hb h7 xx0k7 xx1k7 xy0k7 xy1k7
  go_wp2_with fail
  refine (eq_res Sx1 Sy1).mono ?_
  rintro e w9 ⟨rfl, hb⟩
  have h9 := h8.next hb
  have xx0k9 : _ := h9.x.cell 0 _ rfl
  have xx1k9 : _ := h9.x.cell 1 _ rfl
  have xy0k9 : _ := h9.y.cell 0 _ rfl
  have xy1k9 : _ := h9.y.cell 1 _ rfl
  have Z9 := Lib.hid hb.size
  replace Rw := Rw.next hb
  replace Sx1 := Sx1.next hb
  replace Sx2 := Sx2.next hb
  replace Bx2 := Bx2.next hb
  replace q0Bx2 : _ := Bx2.cell 0 _ rfl
  replace q1Bx2 : _ := Bx2.cell 1 _ rfl
  replace Rg := Rg.next hb
  replace Sy1 := Sy1.next hb
  clear hb h8 xx0k8 xx1k8 xy0k8 xy1k8
  clear Sy1
  have HD := Lib.hid h9.drew
  have ORw := Lib.hid (Rw.next (Below.refl _ w9).drew)
  have OSx1 := Lib.hid (Sx1.next (Below.refl _ w9).drew)
  have OSx2 := Lib.hid (Sx2.next (Below.refl _ w9).drew)
  have OBx2 := Lib.hid (Bx2.next (Below.refl _ w9).drew)
  have ORg := Lib.hid (Rg.next (Below.refl _ w9).drew)
  go_wp2_with fail
  go_region_law (go_simp; go_wp2_with (first | (go_at_call 37; refine (toMatrix_any c2 a2 n2 cap2 z2 _ (h2.from HD.out.b) (by omega)).mono ?_; rintro e w10 ⟨b7, rfl, ge7, hb, M7⟩; have H7 := Lib.hid (HD.out.next hb); have PRw := Lib.hid (ORw.out.next hb); have PSx1 := Lib.hid (OSx1.out.next hb); have PSx2 := Lib.hid (OSx2.out.next hb); have PBx2 := Lib.hid (OBx2.out.next hb); have PRg := Lib.hid (ORg.out.next hb); have RY := Lib.hid (M7.res (cap := n2) ge7); have mq0 : _ := PBx2.out.cell 0 _ rfl; have mq1 : _ := PBx2.out.cell 1 _ rfl; have Z10 := Lib.hid (show w9.heap.size ≤ w10.heap.size from hb.size); clear hb ge7 M7) | (go_at_call 40; refine (eqMatrix_res c2 PSx2.out RY.out).mono ?_; rintro e w11 ⟨rfl, hb⟩; have H8 := Lib.hid (H7.out.next hb); have QRw := Lib.hid (PRw.out.next hb); have QSx1 := Lib.hid (PSx1.out.next hb); have QSx2 := Lib.hid (PSx2.out.next hb); have QBx2 := Lib.hid (PBx2.out.next hb); have QRg := Lib.hid (PRg.out.next hb); have Z11 := Lib.hid hb.size; clear hb)))
  all_goals
    have h11 := H8.out
    clear xx0k9 xx1k9 xy0k9 xy1k9 mq0 mq1
    have xx0k11 : _ := h11.x.cell 0 _ rfl
    have xx1k11 : _ := h11.x.cell 1 _ rfl
    have xy0k11 : _ := h11.y.cell 0 _ rfl
    have xy1k11 : _ := h11.y.cell 1 _ rfl
    replace Rw := QRw.out
    replace Sx1 := QSx1.out
    replace Sx2 := QSx2.out
    replace Bx2 := QBx2.out
    replace q0Bx2 : _ := Bx2.cell 0 _ rfl
    replace q1Bx2 : _ := Bx2.cell 1 _ rfl
    replace Rg := QRg.out
    clear ORw PRw QRw OSx1 PSx1 QSx1 OSx2 PSx2 QSx2 OBx2 PBx2 QBx2 ORg PRg QRg HD H7 H8 RY
    have l8 := Rg.small
    go_wp2_with fail
    refine (mark_res Sx1 1 (by omega) (by omega)).mono ?_
    rintro e w12 ⟨rfl, hC, -⟩
    clear Sx1
    have h12 := h11.chg hC (by have := Z1.out; have := Z2.out; have := Z3.out; have := Z4.out; have := Z5.out; have := Z6.out; have := Z7.out; have := Z8.out; have := Z9.out; have := Z10.out; have := Z11.out; have := Y5.out; omega)
    have xx0k12 : _ := h12.x.cell 0 _ rfl
    have xx1k12 : _ := h12.x.cell 1 _ rfl
    have xy0k12 : _ := h12.y.cell 0 _ rfl
    have xy1k12 : _ := h12.y.cell 1 _ rfl
    have Z12 := Lib.hid hC.size
    replace Rw := Rw.chg hC (by have := Z1.out; have := Z2.out; have := Z3.out; have := Z4.out; have := Z5.out; have := Z6.out; have := Z7.out; have := Z8.out; have := Z9.out; have := Z10.out; have := Z11.out; have := Y5.out; omega)
    replace Sx2 := Sx2.chg hC (by have := Z1.out; have := Z2.out; have := Z3.out; have := Z4.out; have := Z5.out; have := Z6.out; have := Z7.out; have := Z8.out; have := Z9.out; have := Z10.out; have := Z11.out; have := Y5.out; omega)
    replace Bx2 := Bx2.chg hC (by have := Z1.out; have := Z2.out; have := Z3.out; have := Z4.out; have := Z5.out; have := Z6.out; have := Z7.out; have := Z8.out; have := Z9.out; have := Z10.out; have := Z11.out; have := Y5.out; omega)
    replace q0Bx2 : _ := Bx2.cell 0 _ rfl
    replace q1Bx2 : _ := Bx2.cell 1 _ rfl
    replace Rg := Rg.chg hC (by have := Z1.out; have := Z2.out; have := Z3.out; have := Z4.out; have := Z5.out; have := Z6.out; have := Z7.out; have := Z8.out; have := Z9.out; have := Z10.out; have := Z11.out; have := Y5.out; omega)
    clear hC h11 xx0k11 xx1k11 xy0k11 xy1k11
    generalize hk : 1 + z1.length = k1
    have hk1 : k1 ≤ 1048577 := by omega
    clear hk
    go_wp2_with fail
    refine (markMatrix_res c2 Sx2 k1 (by omega) (by omega)).mono ?_
    rintro e w13 ⟨rfl, hC, -⟩
    clear Sx2
    have h13 := h12.chg hC (by have := Z1.out; have := Z2.out; have := Z3.out; have := Z4.out; have := Z5.out; have := Z6.out; have := Z7.out; have := Z8.out; have := Z9.out; have := Z10.out; have := Z11.out; have := Z12.out; have := Y5.out; omega)
    have xx0k13 : _ := h13.x.cell 0 _ rfl
    have xx1k13 : _ := h13.x.cell 1 _ rfl
    have xy0k13 : _ := h13.y.cell 0 _ rfl
    have xy1k13 : _ := h13.y.cell 1 _ rfl
    have Z13 := Lib.hid hC.size
    replace Rw := Rw.chg hC (by have := Z1.out; have := Z2.out; have := Z3.out; have := Z4.out; have := Z5.out; have := Z6.out; have := Z7.out; have := Z8.out; have := Z9.out; have := Z10.out; have := Z11.out; have := Z12.out; have := Y5.out; omega)
    replace Bx2 := Bx2.chg hC (by have := Z1.out; have := Z2.out; have := Z3.out; have := Z4.out; have := Z5.out; have := Z6.out; have := Z7.out; have := Z8.out; have := Z9.out; have := Z10.out; have := Z11.out; have := Z12.out; have := Y5.out; omega)
    replace q0Bx2 : _ := Bx2.cell 0 _ rfl
    replace q1Bx2 : _ := Bx2.cell 1 _ rfl
    replace Rg := Rg.chg hC (by have := Z1.out; have := Z2.out; have := Z3.out; have := Z4.out; have := Z5.out; have := Z6.out; have := Z7.out; have := Z8.out; have := Z9.out; have := Z10.out; have := Z11.out; have := Z12.out; have := Y5.out; omega)
    clear hC h12 xx0k12 xx1k12 xy0k12 xy1k12
    clear Bx2 q0Bx2 q1Bx2
    generalize hk : k1 + z2.length = k2
    have hk2 : k2 ≤ 2097153 := by omega
    clear hk
    go_wp2_with fail
    refine (eq_res Rg Rw).mono ?_
    rintro e w14 ⟨rfl, hb⟩
    have h14 := h13.next hb
    have xx0k14 : _ := h14.x.cell 0 _ rfl
    have xx1k14 : _ := h14.x.cell 1 _ rfl
    have xy0k14 : _ := h14.y.cell 0 _ rfl
    have xy1k14 : _ := h14.y.cell 1 _ rfl
    have Z14 := Lib.hid hb.size
    replace Rw := Rw.next hb
    replace Rg := Rg.next hb
    clear hb h13 xx0k13 xx1k13 xy0k13 xy1k13
    go_wp2_with fail
    refine (mark_res Rg 1 (by omega) (by omega)).mono ?_
    rintro e w15 ⟨rfl, hC, HM⟩
    clear Rg
    have h15 := h14.chg hC (by have := Z1.out; have := Z2.out; have := Z3.out; have := Z4.out; have := Z5.out; have := Z6.out; have := Z7.out; have := Z8.out; have := Z9.out; have := Z10.out; have := Z11.out; have := Z12.out; have := Z13.out; have := Z14.out; have := Y5.out; omega)
    have xx0k15 : _ := h15.x.cell 0 _ rfl
    have xx1k15 : _ := h15.x.cell 1 _ rfl
    have xy0k15 : _ := h15.y.cell 0 _ rfl
    have xy1k15 : _ := h15.y.cell 1 _ rfl
    have Z15 := Lib.hid hC.size
    replace Rw := Rw.chg hC (by have := Z1.out; have := Z2.out; have := Z3.out; have := Z4.out; have := Z5.out; have := Z6.out; have := Z7.out; have := Z8.out; have := Z9.out; have := Z10.out; have := Z11.out; have := Z12.out; have := Z13.out; have := Z14.out; have := Y5.out; omega)
    clear hC h14 xx0k14 xx1k14 xy0k14 xy1k14
    go_wp2_with fail
    refine (held_res 1 r1.length HM (by omega) (by omega)).mono ?_
    rintro e w' ⟨rfl, rfl⟩
    go_wp2_with fail
    have CB : ∀ w' : World, Below w15.heap.size w15 w' → w'.cell? ⟨w.heap.size, 0, none⟩ = some (.int .i64 d0) ∧ w'.cell? ⟨w.heap.size, 1, none⟩ = some (.int .i64 p0) ∧ w'.cell? ⟨(w.heap.size + 1), 0, none⟩ = some (.int .i64 c2) ∧ w'.cell? ⟨(w.heap.size + 1), 1, none⟩ = some (.slice a2 n2 cap2) ∧ Below w15.heap.size w15 w' := fun w' hB => ⟨(h15.next hB).x.cell 0 _ rfl, (h15.next hB).x.cell 1 _ rfl, (h15.next hB).y.cell 0 _ rfl, (h15.next hB).y.cell 1 _ rfl, hB⟩
    have HBK : ∀ W : World, Below w15.heap.size w15 W → Below w.heap.size w W := fun W h => h15.b.trans (h.mono h15.b.size)
    have hD : Below w15.heap.size w15 w15.drew := (Below.refl _ _).drew
    replace CB := Lib.hid CB
    replace HBK := Lib.hid HBK
    have HK15 := Lib.hid h15
    clear h15 xx0k15 xx1k15 xy0k15 xy1k15
    replace Rw := Lib.hid Rw
    replace HM := Lib.hid HM
    go_region_held3 (fun w' => w'.cell? ⟨w.heap.size, 0, none⟩ = some (.int .i64 d0) ∧ w'.cell? ⟨w.heap.size, 1, none⟩ = some (.int .i64 p0) ∧ w'.cell? ⟨(w.heap.size + 1), 0, none⟩ = some (.int .i64 c2) ∧ w'.cell? ⟨(w.heap.size + 1), 1, none⟩ = some (.slice a2 n2 cap2) ∧ Below w15.heap.size w15 w') (first | exact CB.out _ hD | exact ⟨by assumption, by assumption, by assumption, by assumption, by assumption⟩ | exact CB.out _ (by assumption)) (first | (go_at_call 18; with_reducible refine (toField_any d0 p0 _).mono ?_; rintro e va0 ⟨rfl, hr⟩; have G0 := below_onL (a := w15) hr (by assumption); obtain ⟨eG00, eG01, eG02, eG03, eG0B⟩ := CB.out _ G0; clear hr) | (go_at_call 36; with_reducible refine (toInt64S_any a1 n1 cap1 z1 _ (h1A.from (HBK.out _ (by assumption))) hn1).mono ?_; rintro e va1 ⟨gt1, rfl, ge, hr, Mt1⟩; have G1 := below_onL (a := w15) hr (by assumption); obtain ⟨eG10, eG11, eG12, eG13, eG1B⟩ := CB.out _ G1; clear hr ge) | (go_at_call 37; with_reducible refine (toMatrix_any c2 a2 n2 cap2 z2 _ (h2.from (HBK.out _ (by assumption))) (by omega)).mono ?_; rintro e va2 ⟨gt2, rfl, ge, hr, Mt2⟩; have G2 := below_onL (a := w15) hr (by assumption); obtain ⟨eG20, eG21, eG22, eG23, eG2B⟩ := CB.out _ G2; replace Mt1 := Mt1.next hr; clear hr ge) | (go_at_call 38; have S := implLinearOfMatrix_any d0 p0 gt1 n1 n1 z1 c2 gt2 n2 n2 z2 _ hl hh Mt1 Mt2; rw [HR.out] at S; (try dsimp only at S); refine S.mono ?_; clear S; rintro e w16 ⟨vh, rfl, hr, Rh⟩; have GZ := below_onL (a := w15) hr (by assumption); obtain ⟨eGZ0, eGZ1, eGZ2, eGZ3, eGZB⟩ := CB.out _ GZ; replace Mt1 := Mt1.next hr; replace Mt2 := Mt2.next hr; replace Rh : Res w16 (w15.heap.size) (w16.heap.size) vh r1 := Rh.wide G2.size (Nat.le_refl _) (Nat.le_refl _); obtain ⟨aoh, moh, coh, rfl⟩ := Rh.form; clear hr))
    have h15 := HK15.out
    have hb := GZ
    replace Rw := Rw.out
    replace HM := HM.out
    have xx0k15 : _ := h15.x.cell 0 _ rfl
    have xx1k15 : _ := h15.x.cell 1 _ rfl
    have xy0k15 : _ := h15.y.cell 0 _ rfl
    have xy1k15 : _ := h15.y.cell 1 _ rfl
    clear eGZ0 eGZ1 eGZ2 eGZ3 eG20 eG21 eG22 eG23 eG10 eG11 eG12 eG13 eG00 eG01 eG02 eG03 eG0B eG1B eG2B eGZB CB HBK hD HK15 G0 G1 G2 GZ Mt1 Mt2
    have h16 := h15.next hb
    have xx0k16 : _ := h16.x.cell 0 _ rfl
    have xx1k16 : _ := h16.x.cell 1 _ rfl
    have xy0k16 : _ := h16.y.cell 0 _ rfl
    have xy1k16 : _ := h16.y.cell 1 _ rfl
    have Z16 := Lib.hid hb.size
    replace Rw := Rw.next hb
    replace HM := HM.next hb
    clear hb h15 xx0k15 xx1k15 xy0k15 xy1k15
    go_wp2_with fail
    refine (eq_res Rh Rw).mono ?_
    rintro e w17 ⟨rfl, hb⟩
    have h17 := h16.next hb
    have xx0k17 : _ := h17.x.cell 0 _ rfl
    have xx1k17 : _ := h17.x.cell 1 _ rfl
    have xy0k17 : _ := h17.y.cell 0 _ rfl
    have xy1k17 : _ := h17.y.cell 1 _ rfl
    have Z17 := Lib.hid hb.size
    replace Rw := Rw.next hb
    replace HM := HM.next hb
    replace Rh := Rh.next hb
    clear hb h16 xx0k16 xx1k16 xy0k16 xy1k16
    go_wp2_with fail
    refine (held_res 1 r1.length HM (by omega) (by omega)).mono ?_
    rintro e w' ⟨rfl, rfl⟩
    go_wp2_with fail
    go_ret
    exact ⟨rfl, h17.b⟩

set_option maxRecDepth 100000 in
theorem lifted (os : Os) (started : os.Started) (H : Type) (enc : TypeId × Value → H) :
    ReturnsInHanded {} Try.checked os 8 .any (Rows.fnExactLinearOfMatrixSpec.pre6 enc Try.prog Try.f8 Rows.fnExactLinearOfMatrixRow.domain false) (Rows.fnExactLinearOfMatrixSpec.post enc Try.prog Try.f8 false true false false) := by
  refine returnsInHanded_of_change (C := Try.checked) own started (by kernel_rfl) Try.func8
    (ChangeSpec.witness6 (enc := enc) (C := Try.checked) false ⟨#[], #[.agg #[.int .i64 0, .int .i64 0], .slice none 0 0, .agg #[.int .i64 0, .slice none 0 0]], []⟩ 8 (by kernel_rfl) (by kernel_rfl) (by kernel_rfl) (by kernel_rfl)) ?_
  intro W base args ds gs before hval0 hW hcnd _
  have hval : ∀ (j : Nat) t v, Try.f8.params[j]? = some t → args[j]? = some v → Value.okWide Try.prog W .any base t v := hval0
  have hW' := hW
  obtain ⟨p, q, hA0, hV, rfl, hfz, hnd⟩ := hW
  have hA : DataW.TrodAll enc Try.prog W 0 (fun _ => true) true Try.f8.params.toList args.toList ds p := hA0
  rw [Try.params8] at hA hval
  obtain ⟨v0, vs0, dd0, ds0, pp0, qq0, hargs, rfl, rfl, h0, r0⟩ := trodAll_cons hA
  obtain ⟨v1, vs1, dd1, ds1, pp1, qq1, rfl, rfl, rfl, h1, r1⟩ := trodAll_cons r0
  obtain ⟨v2, vs2, dd2, ds2, pp2, qq2, rfl, rfl, rfl, h2, r2⟩ := trodAll_cons r1
  obtain ⟨rfl, rfl, rfl⟩ := trodAll_nil r2
  obtain rfl : args = #[v0, v1, v2] := by cases args; simp_all
  obtain ⟨rfl, rfl⟩ := trodVars_none hV
  have k0 := h0
  have lt0 : ∀ x ∈ pp0, x.block < W.heap.size := by obtain ⟨m, hm⟩ := k0; exact DataW.trod_lt m _ _ _ hm
  obtain ⟨c0, e0, y0, z0, m0, rfl, rfl, rfl, hy0, hz0⟩ := open_agg2 Try.underlying33 (by kernel_rfl) cellsField (hval 0 33 v0 rfl rfl) h0
  obtain ⟨d0, ed0, rfl, wd0⟩ := DataW.trod_int Try.underlying2 hy0
  obtain ⟨p0, ep0, rfl, wp0⟩ := DataW.trod_int Try.underlying2 hz0
  simp at ed0 ep0; subst ed0 ep0
  have k1 := h1
  have lt1 : ∀ x ∈ pp1, x.block < W.heap.size := by obtain ⟨m, hm⟩ := k1; exact DataW.trod_lt m _ _ _ hm
  obtain ⟨a1, n1, cap1, rfl⟩ := okWide_slice Try.underlying46 (hval 1 46 v1 rfl rfl)
  obtain ⟨z1, w1⟩ : ∃ z, Arg W a1 n1 z := by
    obtain ⟨fuel, hf⟩ := h1
    obtain ⟨A, k, c, z, e, w⟩ := arg_open (v := .slice a1 n1 cap1) hf
    injection e with e1 e2 e3
    subst e1 e2 e3
    exact ⟨z, w⟩
  have k2 := h2
  have lt2 : ∀ x ∈ pp2, x.block < W.heap.size := by obtain ⟨m, hm⟩ := k2; exact DataW.trod_lt m _ _ _ hm
  obtain ⟨u2, e2, y2, q2, m2, rfl, rfl, rfl, hy2, hz2⟩ := open_agg2 Try.underlying56 (by kernel_rfl) cellsMat (hval 2 56 v2 rfl rfl) h2
  obtain ⟨c2, ec2, rfl, wc2⟩ := DataW.trod_int Try.underlying2 hy2
  simp at ec2; subst ec2
  obtain ⟨a2, n2, cap2, z2, rfl, w2⟩ := arg_open hz2
  clear hA0 hval0
  refine (walk d0 p0 wd0 wp0 a1 n1 cap1 z1 c2 a2 n2 cap2 z2 W w1 w2).mono fun e W' ⟨he, bel⟩ => ?_
  subst he
  exact ⟨_, rfl, _, _, _, [], _, [], hW', trodAll_mk1 (shut_bool Try.underlying4 _), (trodAll_cons_mk (Below.trod laidOut (by kernel_rfl) (of_decide_eq_true (by kernel_rfl)) k0 bel lt0) (trodAll_cons_mk (Below.trod laidOut (by kernel_rfl) (of_decide_eq_true (by kernel_rfl)) k1 bel lt1) (trodAll_cons_mk (Below.trod laidOut (by kernel_rfl) (of_decide_eq_true (by kernel_rfl)) k2 bel lt2) trodAll_mk0))), rfl, bel.frame _, fun h => by cases h⟩

theorem over : Rows.fnExactLinearOfMatrixRow.holds Try.pinned (OpenSpec.ofChange Rows.fnExactLinearOfMatrixSpec) :=
  OpenClaim.holds_of_wide 8 Try.f8 rfl rfl rfl rfl rfl rfl rfl ⟨rfl, rfl, rfl, rfl, rfl⟩ rfl rfl rfl rfl rfl (by kernel_rfl) Try.func8 (by kernel_rfl)
    (of_decide_eq_true (by kernel_rfl)) (by unfold Func.isWrapper; first | (rw [if_pos (by decide +kernel)]; kernel_rfl) | (rw [if_neg (by decide +kernel)]; exact ⟨rfl, rfl⟩))
    (fun os started H enc _ => lifted os started H enc)

theorem proved : Rows.FnExactLinearOfMatrixSaid :=
  over
#print axioms proved
end Go.Proofs.Ytilghmfffdmnjaa.fnExactLinearOfMatrix
