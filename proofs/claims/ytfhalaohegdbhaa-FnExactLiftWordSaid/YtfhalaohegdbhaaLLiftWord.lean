/- FnExactLiftWord: for every input the law returns true, and every argument reads afterwards as it read before. No condition. -/
import Derived.Test.YtfhalaohegdbhaaRows
import Derived.WalkKit
import Derived.ProofKit
import Derived.OpenShut
import Derived.ChangeOld
import Derived.Below
import Derived.Lib.SmallJoins
import Derived.Test.YtfhalaohegdbhaaLiftWord
import Derived.Test.YtfhalaohegdbhaaMtRes
import Derived.Test.YtfhalaohegdbhaaArg
import Derived.Test.YtfhalaohegdbhaaToField
import Derived.Test.YtfhalaohegdbhaaThird
import Derived.Test.YtfhalaohegdbhaaRow
import Derived.Test.YtfhalaohegdbhaaRes
namespace Go.Proofs.Ytfhalaohegdbhaa.fnExactLiftWord
open Go.ChangeShapes Go.WideShapes Go.ChangeAt Go.RowKit Go.Joins
set_option linter.unusedVariables false

theorem own : ownKnob Try.prog.godebug = none := by kernel_rfl
theorem laidOut : laidOutB Try.prog = true := by kernel_rfl
theorem cellsField : Try.prog.cellsOf 34 = 2 := by kernel_rfl

theorem fat_chg {w W W' : World} {d p : Int} {B T : Nat} (h : FAt w d p W) (hb : Chg B T W W') (hq : w.heap.size < B) : FAt w d p W' := by
  have hg : W'.heap[w.heap.size]? = W.heap[w.heap.size]? := hb.block _ (by have := h.z; omega) (.inl hq)
  exact ⟨Chg.below h.b (by have := h.z; omega) hb (by omega), Nat.le_trans h.z hb.size, (World.cell?_of_block (w := W) (a := ⟨w.heap.size, 0, none⟩) hg).trans h.c0, (World.cell?_of_block (w := W) (a := ⟨w.heap.size, 1, none⟩) hg).trans h.c1⟩
set_option maxHeartbeats 6400000 in
theorem walk (d0 p0 : Int) (wd0 : (Lit.int .i64 d0).wf = true) (wp0 : (Lit.int .i64 p0).wf = true) (a1 : Option Addr) (n1 cap1 : Nat) (z1 : List Int) (w : World) (h1A : Arg w a1 n1 z1) :
    Calls Try.prog 5 #[.agg #[.int .i64 d0, .int .i64 p0], .slice a1 n1 cap1] w fun e w' => e = .returned (.bool true) ∧ Below w.heap.size w w' := by
  obtain ⟨hl, hh⟩ := bounds_i64 wp0
  have big1 := h1A.big
  by_cases hn1 : n1 ≤ 1048576
  rotate_left
  ·
    go_enter Try.func5, Try.ntmps5
    go_wp2_with fail
    go_ret
    exact ⟨rfl, below_alloc1 w _⟩
  obtain ⟨r, hr⟩ : ∃ r, fLiftWord d0 p0 z1 = r := ⟨_, rfl⟩
  have HR := Lib.hid hr
  clear hr
  obtain ⟨r1, r3, r2⟩ := r
  have l1 := h1A.len
  go_enter Try.func5, Try.ntmps5
  have h0 := FAt.start w d0 p0 34
  have y0 := h0.c0; have x0 := h0.c1
  go_wp2_with fail
  refine (toField_any _ _ _).mono ?_
  rintro e w1 ⟨rfl, hb⟩
  have h1 := h0.next hb; have y1 := h1.c0; have x1 := h1.c1
  have Z1 := Lib.hid h1.z
  clear hb h0 y0 x0
  go_wp2_with fail
  refine (toInt64S_any a1 n1 cap1 z1 _ (h1A.from h1.b) hn1).mono ?_
  rintro e w2 ⟨bs1, rfl, ges1, hb, Ms1⟩
  have h2 := h1.next hb; have y2 := h2.c0; have x2 := h2.c1
  have Z2 := Lib.hid hb.size
  clear hb h1 y1 x1
  have Rs1 := Ms1.res (cap := n1) ges1
  clear ges1
  go_wp2_with fail
  have S := specLiftWord_any d0 p0 bs1 n1 n1 z1 _ Ms1
  rw [HR.out] at S
  try dsimp only at S
  refine S.mono ?_
  clear S
  rintro e w3 ⟨vw, rfl, hb, Rw⟩
  have h3 := h2.next hb; have y3 := h3.c0; have x3 := h3.c1
  have Z3 := Lib.hid hb.size
  replace Ms1 := Ms1.below hb
  replace Rs1 := Rs1.next hb
  clear hb h2 y2 x2
  obtain ⟨aow, mow, cow, rfl⟩ := Rw.form
  have hb := below_alloc1 w3 (.cells #[.int .i64 r1, (.slice aow mow cow)] 26)
  have nBw := Box.one w3 (.int .i64 r1) (.slice aow mow cow) 26
  have h4 := h3.next hb; have y4 := h4.c0; have x4 := h4.c1
  have Z4 := Lib.hid hb.size
  replace Ms1 := Ms1.below hb
  replace Rs1 := Rs1.next hb
  replace Rw := Rw.next hb
  clear hb h3 y3 x3
  have Y4 := Lib.hid (show w3.heap.size + 1 ≤ (w3.alloc (.cells #[.int .i64 r1, (.slice aow mow cow)] 26)).heap.size by simp)
  have Bw := nBw; clear nBw
  have pBw : _ := Bw.c0
  have qBw : _ := Bw.c1
  clear Ms1
  clear Rs1
  go_wp2_with fail
  refine (toInt64S_any a1 n1 cap1 z1 _ (h1A.from h4.b) hn1).mono ?_
  rintro e w5 ⟨bx1, rfl, gex1, hb, Mx1⟩
  have h5 := h4.next hb; have y5 := h5.c0; have x5 := h5.c1
  have Z5 := Lib.hid hb.size
  replace Rw := Rw.next hb
  replace Bw := Bw.next hb
  replace pBw : _ := Bw.c0
  replace qBw : _ := Bw.c1
  clear hb h4 y4 x4
  have Rx1 := Mx1.res (cap := n1) gex1
  clear gex1
  go_wp2_with fail
  refine (toField_any _ _ _).mono ?_
  rintro e w6 ⟨rfl, hb⟩
  have h6 := h5.next hb; have y6 := h6.c0; have x6 := h6.c1
  have Z6 := Lib.hid hb.size
  replace Rw := Rw.next hb
  replace Bw := Bw.next hb
  replace pBw : _ := Bw.c0
  replace qBw : _ := Bw.c1
  replace Mx1 := Mx1.below hb
  replace Rx1 := Rx1.next hb
  clear hb h5 y5 x5
  go_wp2_with fail
  have S := implLiftWord_any d0 p0 bx1 n1 n1 z1 _ hl hh Mx1
  rw [HR.out] at S
  try dsimp only at S
  refine S.mono ?_
  clear S
  rintro e w7 ⟨vg, rfl, hb, Rg⟩
  have h7 := h6.next hb; have y7 := h7.c0; have x7 := h7.c1
  have Z7 := Lib.hid hb.size
  replace Rw := Rw.next hb
  replace Bw := Bw.next hb
  replace pBw : _ := Bw.c0
  replace qBw : _ := Bw.c1
  replace Mx1 := Mx1.below hb
  replace Rx1 := Rx1.next hb
  clear hb h6 y6 x6
  obtain ⟨aog, mog, cog, rfl⟩ := Rg.form
  have hb := below_alloc1 w7 (.cells #[.int .i64 r1, (.slice aog mog cog)] 26)
  have nBg := Box.one w7 (.int .i64 r1) (.slice aog mog cog) 26
  have h8 := h7.next hb; have y8 := h8.c0; have x8 := h8.c1
  have Z8 := Lib.hid hb.size
  replace Rw := Rw.next hb
  replace Bw := Bw.next hb
  replace pBw : _ := Bw.c0
  replace qBw : _ := Bw.c1
  replace Mx1 := Mx1.below hb
  replace Rx1 := Rx1.next hb
  replace Rg := Rg.next hb
  clear hb h7 y7 x7
  have Y8 := Lib.hid (show w7.heap.size + 1 ≤ (w7.alloc (.cells #[.int .i64 r1, (.slice aog mog cog)] 26)).heap.size by simp)
  have Bg := nBg; clear nBg
  have pBg : _ := Bg.c0
  have qBg : _ := Bg.c1
  clear Mx1
  go_wp2_with fail
  refine (eqMatrix_res r1 Rg Rw).mono ?_
  rintro e w9 ⟨rfl, hb⟩
  have h9 := h8.next hb; have y9 := h9.c0; have x9 := h9.c1
  have Z9 := Lib.hid hb.size
  replace Rw := Rw.next hb
  replace Bw := Bw.next hb
  replace pBw : _ := Bw.c0
  replace qBw : _ := Bw.c1
  replace Rx1 := Rx1.next hb
  replace Rg := Rg.next hb
  replace Bg := Bg.next hb
  replace pBg : _ := Bg.c0
  replace qBg : _ := Bg.c1
  clear hb h8 y8 x8
  go_wp2_with fail
  refine (toInt64S_any a1 n1 cap1 z1 _ (h1A.from h9.b) hn1).mono ?_
  rintro e w10 ⟨by1, rfl, gey1, hb, My1⟩
  have h10 := h9.next hb; have y10 := h10.c0; have x10 := h10.c1
  have Z10 := Lib.hid hb.size
  replace Rw := Rw.next hb
  replace Bw := Bw.next hb
  replace pBw : _ := Bw.c0
  replace qBw : _ := Bw.c1
  replace Rx1 := Rx1.next hb
  replace Rg := Rg.next hb
  replace Bg := Bg.next hb
  replace pBg : _ := Bg.c0
  replace qBg : _ := Bg.c1
  clear hb h9 y9 x9
  have Ry1 := My1.res (cap := n1) gey1
  clear gey1
  clear My1
  go_wp2_with fail
  refine (eq_res Rx1 Ry1).mono ?_
  rintro e w11 ⟨rfl, hb⟩
  have h11 := h10.next hb; have y11 := h11.c0; have x11 := h11.c1
  have Z11 := Lib.hid hb.size
  replace Rw := Rw.next hb
  replace Bw := Bw.next hb
  replace pBw : _ := Bw.c0
  replace qBw : _ := Bw.c1
  replace Rx1 := Rx1.next hb
  replace Rg := Rg.next hb
  replace Bg := Bg.next hb
  replace pBg : _ := Bg.c0
  replace qBg : _ := Bg.c1
  replace Ry1 := Ry1.next hb
  clear hb h10 y10 x10
  clear Ry1
  have l8 := Rg.small
  go_wp2_with fail
  refine (mark_res Rx1 (1) (by omega) (by omega)).mono ?_
  rintro e w12 ⟨rfl, hC, HM⟩
  have h12 := fat_chg h11 hC (by have := Z1.out; have := Z1.out; have := Z2.out; have := Z3.out; have := Z4.out; have := Z5.out; have := Z6.out; have := Z7.out; have := Z8.out; have := Z9.out; have := Z10.out; have := Z11.out; have := Y4.out; have := Y8.out; omega); have y12 := h12.c0; have x12 := h12.c1
  have Z12 := Lib.hid hC.size
  replace Rw := Rw.chg hC (by have := Z1.out; have := Z2.out; have := Z3.out; have := Z4.out; have := Z5.out; have := Z6.out; have := Z7.out; have := Z8.out; have := Z9.out; have := Z10.out; have := Z11.out; have := Y4.out; have := Y8.out; omega)
  replace Bw := Bw.chg hC (by have := Z1.out; have := Z2.out; have := Z3.out; have := Z4.out; have := Z5.out; have := Z6.out; have := Z7.out; have := Z8.out; have := Z9.out; have := Z10.out; have := Z11.out; have := Y4.out; have := Y8.out; omega)
  replace pBw : _ := Bw.c0
  replace qBw : _ := Bw.c1
  replace Rg := Rg.chg hC (by have := Z1.out; have := Z2.out; have := Z3.out; have := Z4.out; have := Z5.out; have := Z6.out; have := Z7.out; have := Z8.out; have := Z9.out; have := Z10.out; have := Z11.out; have := Y4.out; have := Y8.out; omega)
  replace Bg := Bg.chg hC (by have := Z1.out; have := Z2.out; have := Z3.out; have := Z4.out; have := Z5.out; have := Z6.out; have := Z7.out; have := Z8.out; have := Z9.out; have := Z10.out; have := Z11.out; have := Y4.out; have := Y8.out; omega)
  replace pBg : _ := Bg.c0
  replace qBg : _ := Bg.c1
  clear hC h11 y11 x11 Rx1
  clear HM
  go_wp2_with fail
  refine (eqMatrix_res r1 Rg Rw).mono ?_
  rintro e w13 ⟨rfl, hb⟩
  have h13 := h12.next hb; have y13 := h13.c0; have x13 := h13.c1
  have Z13 := Lib.hid hb.size
  replace Rw := Rw.next hb
  replace Bw := Bw.next hb
  replace pBw : _ := Bw.c0
  replace qBw : _ := Bw.c1
  replace Rg := Rg.next hb
  replace Bg := Bg.next hb
  replace pBg : _ := Bg.c0
  replace qBg : _ := Bg.c1
  clear hb h12 y12 x12
  go_wp2_with fail
  refine (markMatrix_res r1 Rg (1) (by omega) (by omega)).mono ?_
  rintro e w14 ⟨rfl, hC, HM⟩
  have h14 := fat_chg h13 hC (by have := Z1.out; have := Z1.out; have := Z2.out; have := Z3.out; have := Z4.out; have := Z5.out; have := Z6.out; have := Z7.out; have := Z8.out; have := Z9.out; have := Z10.out; have := Z11.out; have := Z12.out; have := Z13.out; have := Y4.out; have := Y8.out; omega); have y14 := h14.c0; have x14 := h14.c1
  have Z14 := Lib.hid hC.size
  replace Rw := Rw.chg hC (by have := Z1.out; have := Z2.out; have := Z3.out; have := Z4.out; have := Z5.out; have := Z6.out; have := Z7.out; have := Z8.out; have := Z9.out; have := Z10.out; have := Z11.out; have := Z12.out; have := Z13.out; have := Y4.out; have := Y8.out; omega)
  replace Bw := Bw.chg hC (by have := Z1.out; have := Z2.out; have := Z3.out; have := Z4.out; have := Z5.out; have := Z6.out; have := Z7.out; have := Z8.out; have := Z9.out; have := Z10.out; have := Z11.out; have := Z12.out; have := Z13.out; have := Y4.out; have := Y8.out; omega)
  replace pBw : _ := Bw.c0
  replace qBw : _ := Bw.c1
  replace Bg := Bg.chg hC (by have := Z1.out; have := Z2.out; have := Z3.out; have := Z4.out; have := Z5.out; have := Z6.out; have := Z7.out; have := Z8.out; have := Z9.out; have := Z10.out; have := Z11.out; have := Z12.out; have := Z13.out; have := Y4.out; have := Y8.out; omega)
  replace pBg : _ := Bg.c0
  replace qBg : _ := Bg.c1
  clear hC h13 y13 x13 Rg
  go_wp2_with fail
  refine (heldMatrix_res r1 (1) (r3.length) HM (by omega) (by omega)).mono ?_
  rintro e w15 ⟨rfl, hb⟩
  have h15 := h14.next hb; have y15 := h15.c0; have x15 := h15.c1
  have Z15 := Lib.hid hb.size
  replace Rw := Rw.next hb
  replace Bw := Bw.next hb
  replace pBw : _ := Bw.c0
  replace qBw : _ := Bw.c1
  replace Bg := Bg.next hb
  replace pBg : _ := Bg.c0
  replace qBg : _ := Bg.c1
  replace HM := HM.next hb
  clear hb h14 y14 x14
  go_wp2_with fail
  refine (toField_any _ _ _).mono ?_
  rintro e w16 ⟨rfl, hb⟩
  have h16 := h15.next hb; have y16 := h16.c0; have x16 := h16.c1
  have Z16 := Lib.hid hb.size
  replace Rw := Rw.next hb
  replace Bw := Bw.next hb
  replace pBw : _ := Bw.c0
  replace qBw : _ := Bw.c1
  replace Bg := Bg.next hb
  replace pBg : _ := Bg.c0
  replace qBg : _ := Bg.c1
  replace HM := HM.next hb
  clear hb h15 y15 x15
  go_wp2_with fail
  refine (toInt64S_any a1 n1 cap1 z1 _ (h1A.from h16.b) hn1).mono ?_
  rintro e w17 ⟨bt1, rfl, get1, hb, Mt1⟩
  have h17 := h16.next hb; have y17 := h17.c0; have x17 := h17.c1
  have Z17 := Lib.hid hb.size
  replace Rw := Rw.next hb
  replace Bw := Bw.next hb
  replace pBw : _ := Bw.c0
  replace qBw : _ := Bw.c1
  replace Bg := Bg.next hb
  replace pBg : _ := Bg.c0
  replace qBg : _ := Bg.c1
  replace HM := HM.next hb
  clear hb h16 y16 x16
  have Rt1 := Mt1.res (cap := n1) get1
  clear get1
  go_wp2_with fail
  have S := implLiftWord_any d0 p0 bt1 n1 n1 z1 _ hl hh Mt1
  rw [HR.out] at S
  try dsimp only at S
  refine S.mono ?_
  clear S
  rintro e w18 ⟨vh, rfl, hb, Rh⟩
  have h18 := h17.next hb; have y18 := h18.c0; have x18 := h18.c1
  have Z18 := Lib.hid hb.size
  replace Rw := Rw.next hb
  replace Bw := Bw.next hb
  replace pBw : _ := Bw.c0
  replace qBw : _ := Bw.c1
  replace Bg := Bg.next hb
  replace pBg : _ := Bg.c0
  replace qBg : _ := Bg.c1
  replace HM := HM.next hb
  replace Mt1 := Mt1.below hb
  replace Rt1 := Rt1.next hb
  clear hb h17 y17 x17
  obtain ⟨aoh, moh, coh, rfl⟩ := Rh.form
  have hb := below_alloc1 w18 (.cells #[.int .i64 r1, (.slice aoh moh coh)] 26)
  have nBh := Box.one w18 (.int .i64 r1) (.slice aoh moh coh) 26
  have h19 := h18.next hb; have y19 := h19.c0; have x19 := h19.c1
  have Z19 := Lib.hid hb.size
  replace Rw := Rw.next hb
  replace Bw := Bw.next hb
  replace pBw : _ := Bw.c0
  replace qBw : _ := Bw.c1
  replace Bg := Bg.next hb
  replace pBg : _ := Bg.c0
  replace qBg : _ := Bg.c1
  replace HM := HM.next hb
  replace Mt1 := Mt1.below hb
  replace Rt1 := Rt1.next hb
  replace Rh := Rh.next hb
  clear hb h18 y18 x18
  have Y19 := Lib.hid (show w18.heap.size + 1 ≤ (w18.alloc (.cells #[.int .i64 r1, (.slice aoh moh coh)] 26)).heap.size by simp)
  have Bh := nBh; clear nBh
  have pBh : _ := Bh.c0
  have qBh : _ := Bh.c1
  clear Mt1
  clear Rt1
  go_wp2_with fail
  refine (eqMatrix_res r1 Rh Rw).mono ?_
  rintro e w20 ⟨rfl, hb⟩
  have h20 := h19.next hb; have y20 := h20.c0; have x20 := h20.c1
  have Z20 := Lib.hid hb.size
  replace Rw := Rw.next hb
  replace Bw := Bw.next hb
  replace pBw : _ := Bw.c0
  replace qBw : _ := Bw.c1
  replace Bg := Bg.next hb
  replace pBg : _ := Bg.c0
  replace qBg : _ := Bg.c1
  replace HM := HM.next hb
  replace Rh := Rh.next hb
  replace Bh := Bh.next hb
  replace pBh : _ := Bh.c0
  replace qBh : _ := Bh.c1
  clear hb h19 y19 x19
  go_wp2_with fail
  refine (heldMatrix_res r1 (1) (r3.length) HM (by omega) (by omega)).mono ?_
  rintro e w21 ⟨rfl, hb⟩
  have h21 := h20.next hb; have y21 := h21.c0; have x21 := h21.c1
  have Z21 := Lib.hid hb.size
  replace Rw := Rw.next hb
  replace Bw := Bw.next hb
  replace pBw : _ := Bw.c0
  replace qBw : _ := Bw.c1
  replace Bg := Bg.next hb
  replace pBg : _ := Bg.c0
  replace qBg : _ := Bg.c1
  replace HM := HM.next hb
  replace Rh := Rh.next hb
  replace Bh := Bh.next hb
  replace pBh : _ := Bh.c0
  replace qBh : _ := Bh.c1
  clear hb h20 y20 x20
  go_wp2_with fail
  go_ret
  exact ⟨rfl, h21.b⟩

set_option maxRecDepth 100000 in
theorem lifted (os : Os) (started : os.Started) (H : Type) (enc : TypeId × Value → H) :
    ReturnsInHanded {} Try.checked os 5 .any (Rows.fnExactLiftWordSpec.pre6 enc Try.prog Try.f5 Rows.fnExactLiftWordRow.domain false) (Rows.fnExactLiftWordSpec.post enc Try.prog Try.f5 false true false false) := by
  refine returnsInHanded_of_change (C := Try.checked) own started (by kernel_rfl) Try.func5
    (ChangeSpec.witness6 (enc := enc) (C := Try.checked) false ⟨#[], #[.agg #[.int .i64 0, .int .i64 0], .slice none 0 0], []⟩ 8 (by kernel_rfl) (by kernel_rfl) (by kernel_rfl) (by kernel_rfl)) ?_
  intro W base args ds gs before hval0 hW hcnd _
  have hval : ∀ (j : Nat) t v, Try.f5.params[j]? = some t → args[j]? = some v → Value.okWide Try.prog W .any base t v := hval0
  have hW' := hW
  obtain ⟨p, q, hA0, hV, rfl, hfz, hnd⟩ := hW
  have hA : DataW.TrodAll enc Try.prog W 0 (fun _ => true) true Try.f5.params.toList args.toList ds p := hA0
  rw [Try.params5] at hA hval
  obtain ⟨v0, vs0, dd0, ds0, pp0, qq0, hargs, rfl, rfl, h0, r0⟩ := trodAll_cons hA
  obtain ⟨v1, vs1, dd1, ds1, pp1, qq1, rfl, rfl, rfl, h1, r1⟩ := trodAll_cons r0
  obtain ⟨rfl, rfl, rfl⟩ := trodAll_nil r1
  obtain rfl : args = #[v0, v1] := by cases args; simp_all
  obtain ⟨rfl, rfl⟩ := trodVars_none hV
  have k0 := h0
  have lt0 : ∀ x ∈ pp0, x.block < W.heap.size := by obtain ⟨m, hm⟩ := k0; exact DataW.trod_lt m _ _ _ hm
  obtain ⟨c0, e0, y0, z0, m0, rfl, rfl, rfl, hy0, hz0⟩ := open_agg2 Try.underlying34 (by kernel_rfl) cellsField (hval 0 34 v0 rfl rfl) h0
  obtain ⟨d0, ed0, rfl, wd0⟩ := DataW.trod_int Try.underlying2 hy0
  obtain ⟨p0, ep0, rfl, wp0⟩ := DataW.trod_int Try.underlying2 hz0
  simp at ed0 ep0; subst ed0 ep0
  have k1 := h1
  have lt1 : ∀ x ∈ pp1, x.block < W.heap.size := by obtain ⟨m, hm⟩ := k1; exact DataW.trod_lt m _ _ _ hm
  obtain ⟨a1, n1, cap1, rfl⟩ := okWide_slice Try.underlying22 (hval 1 22 v1 rfl rfl)
  obtain ⟨z1, w1⟩ : ∃ z, Arg W a1 n1 z := by
    obtain ⟨fuel, hf⟩ := h1
    obtain ⟨A, k, c, z, e, w⟩ := arg_open (v := .slice a1 n1 cap1) hf
    injection e with e1 e2 e3
    subst e1 e2 e3
    exact ⟨z, w⟩
  clear hA0 hval0
  refine (walk d0 p0 wd0 wp0 a1 n1 cap1 z1 W w1).mono fun e W' ⟨he, bel⟩ => ?_
  subst he
  exact ⟨_, rfl, _, _, _, [], _, [], hW', trodAll_mk1 (shut_bool Try.underlying4 _), (trodAll_cons_mk (Below.trod laidOut (by kernel_rfl) (of_decide_eq_true (by kernel_rfl)) k0 bel lt0) (trodAll_cons_mk (Below.trod laidOut (by kernel_rfl) (of_decide_eq_true (by kernel_rfl)) k1 bel lt1) trodAll_mk0)), rfl, bel.frame _, fun h => by cases h⟩

theorem over : Rows.fnExactLiftWordRow.holds Try.pinned (OpenSpec.ofChange Rows.fnExactLiftWordSpec) :=
  OpenClaim.holds_of_wide 5 Try.f5 rfl rfl rfl rfl rfl rfl rfl ⟨rfl, rfl, rfl, rfl, rfl⟩ rfl rfl rfl rfl rfl (by kernel_rfl) Try.func5 (by kernel_rfl)
    (of_decide_eq_true (by kernel_rfl)) (by unfold Func.isWrapper; first | (rw [if_pos (by decide +kernel)]; kernel_rfl) | (rw [if_neg (by decide +kernel)]; exact ⟨rfl, rfl⟩))
    (fun os started H enc _ => lifted os started H enc)

theorem proved : Rows.FnExactLiftWordSaid :=
  over
#print axioms proved
end Go.Proofs.Ytfhalaohegdbhaa.fnExactLiftWord
