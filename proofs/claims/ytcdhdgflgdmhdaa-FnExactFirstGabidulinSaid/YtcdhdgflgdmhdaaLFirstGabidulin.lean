/- FnExactFirstGabidulin: for every input the law returns true, and every argument reads afterwards as it read before. No condition. -/
import Derived.Test.YtcdhdgflgdmhdaaRows
import Derived.WalkKit
import Derived.ProofKit
import Derived.OpenShut
import Derived.ChangeOld
import Derived.Below
import Derived.Lib.SmallJoins
import Derived.Test.YtcdhdgflgdmhdaaFirstGabidulin
import Derived.Test.YtcdhdgflgdmhdaaGabN
import Derived.Test.YtcdhdgflgdmhdaaGab
import Derived.Test.YtcdhdgflgdmhdaaMtRes
import Derived.Test.YtcdhdgflgdmhdaaToField
import Derived.Test.YtcdhdgflgdmhdaaThird
import Derived.Test.YtcdhdgflgdmhdaaRow
import Derived.Test.YtcdhdgflgdmhdaaRes
namespace Go.Proofs.Ytcdhdgflgdmhdaa.fnExactFirstGabidulin
open Go.ChangeShapes Go.WideShapes Go.ChangeAt Go.RowKit Go.Joins
set_option linter.unusedVariables false

theorem own : ownKnob Try.prog.godebug = none := by kernel_rfl
theorem laidOut : laidOutB Try.prog = true := by kernel_rfl
theorem cellsField : Try.prog.cellsOf 26 = 2 := by kernel_rfl

theorem fat_chg {w W W' : World} {d p : Int} {B T : Nat} (h : FAt w d p W) (hb : Chg B T W W') (hq : w.heap.size < B) : FAt w d p W' := by
  have hg : W'.heap[w.heap.size]? = W.heap[w.heap.size]? := hb.block _ (by have := h.z; omega) (.inl hq)
  exact ⟨Chg.below h.b (by have := h.z; omega) hb (by omega), Nat.le_trans h.z hb.size, (World.cell?_of_block (w := W) (a := ⟨w.heap.size, 0, none⟩) hg).trans h.c0, (World.cell?_of_block (w := W) (a := ⟨w.heap.size, 1, none⟩) hg).trans h.c1⟩
set_option maxRecDepth 100000 in
set_option maxHeartbeats 6400000 in
theorem walk (d0 p0 : Int) (wd0 : (Lit.int .i64 d0).wf = true) (wp0 : (Lit.int .i64 p0).wf = true) (a1 : Int) (w1 : (Lit.int .i64 a1).wf = true) (a2 : Int) (w2 : (Lit.int .i64 a2).wf = true) (w : World) :
    Calls Try.prog 10 #[.agg #[.int .i64 d0, .int .i64 p0], .int .i64 a1, .int .i64 a2] w fun e w' => e = .returned (.bool true) ∧ Below w.heap.size w w' := by
  obtain ⟨hl, hh⟩ := bounds_i64 wp0
  obtain ⟨r, hr⟩ : ∃ r, fFirstGabidulin d0 p0 a1 a2 = r := ⟨_, rfl⟩
  have HR := Lib.hid hr
  clear hr
  obtain ⟨r1, r2, r3, r4, r5⟩ := r
  go_enter Try.func10, Try.ntmps10
  have h0 := FAt.start w d0 p0 26
  have y0 := h0.c0; have x0 := h0.c1
  go_wp2_with fail
  refine (toField_any _ _ _).mono ?_
  rintro e w1 ⟨rfl, hb⟩
  have h1 := h0.next hb
  have y1 := h1.c0; have x1 := h1.c1
  have Z1 := Lib.hid h1.z
  clear hb h0 x0 y0
  go_wp2_with fail
  have S := specFirstGabidulin_any d0 p0 a1 a2 w1
  rw [HR.out] at S
  dsimp only at S
  refine S.mono ?_
  clear S
  rintro e w2 ⟨vw, rfl, hb, Rw⟩
  have h2 := h1.next hb
  have y2 := h2.c0; have x2 := h2.c1
  have Z2 := Lib.hid hb.size
  clear hb h1 x1 y1
  obtain ⟨aow, mow, cow, rfl⟩ := Rw.form
  have hb := below_alloc1 w2 (.cells #[.int .i64 r1, .int .i64 r2, (.slice aow mow cow), .int .i64 r4] 53)
  have nBw := Box4.one w2 (.int .i64 r1) (.int .i64 r2) (.slice aow mow cow) (.int .i64 r4) 53
  have h3 := h2.next hb
  have y3 := h3.c0; have x3 := h3.c1
  have Z3 := Lib.hid hb.size
  replace Rw := Rw.next hb
  clear hb h2 x2 y2
  have Y3 := Lib.hid (show w2.heap.size + 1 ≤ (w2.alloc (.cells #[.int .i64 r1, .int .i64 r2, (.slice aow mow cow), .int .i64 r4] 53)).heap.size by simp)
  have Bw := nBw; clear nBw
  have q0Bw : _ := Bw.c0
  have q1Bw : _ := Bw.c1
  have q2Bw : _ := Bw.c2
  have q3Bw : _ := Bw.c3
  go_wp2_with fail
  refine (toField_any _ _ _).mono ?_
  rintro e w4 ⟨rfl, hb⟩
  have h4 := h3.next hb
  have y4 := h4.c0; have x4 := h4.c1
  have Z4 := Lib.hid hb.size
  replace Rw := Rw.next hb
  replace Bw := Bw.next hb
  replace q0Bw : _ := Bw.c0
  replace q1Bw : _ := Bw.c1
  replace q2Bw : _ := Bw.c2
  replace q3Bw : _ := Bw.c3
  clear hb h3 x3 y3
  go_wp2_with fail
  have S := implFirstGabidulin_any d0 p0 a1 a2 hl hh w4
  rw [HR.out] at S
  dsimp only at S
  refine S.mono ?_
  clear S
  rintro e w5 ⟨vg, rfl, hb, Rg⟩
  have h5 := h4.next hb
  have y5 := h5.c0; have x5 := h5.c1
  have Z5 := Lib.hid hb.size
  replace Rw := Rw.next hb
  replace Bw := Bw.next hb
  replace q0Bw : _ := Bw.c0
  replace q1Bw : _ := Bw.c1
  replace q2Bw : _ := Bw.c2
  replace q3Bw : _ := Bw.c3
  clear hb h4 x4 y4
  obtain ⟨aog, mog, cog, rfl⟩ := Rg.form
  have hb := below_alloc1 w5 (.cells #[.int .i64 r1, .int .i64 r2, (.slice aog mog cog), .int .i64 r4] 53)
  have nBg := Box4.one w5 (.int .i64 r1) (.int .i64 r2) (.slice aog mog cog) (.int .i64 r4) 53
  have h6 := h5.next hb
  have y6 := h6.c0; have x6 := h6.c1
  have Z6 := Lib.hid hb.size
  replace Rw := Rw.next hb
  replace Bw := Bw.next hb
  replace q0Bw : _ := Bw.c0
  replace q1Bw : _ := Bw.c1
  replace q2Bw : _ := Bw.c2
  replace q3Bw : _ := Bw.c3
  replace Rg := Rg.next hb
  clear hb h5 x5 y5
  have Y6 := Lib.hid (show w5.heap.size + 1 ≤ (w5.alloc (.cells #[.int .i64 r1, .int .i64 r2, (.slice aog mog cog), .int .i64 r4] 53)).heap.size by simp)
  have Bg := nBg; clear nBg
  have q0Bg : _ := Bg.c0
  have q1Bg : _ := Bg.c1
  have q2Bg : _ := Bg.c2
  have q3Bg : _ := Bg.c3
  go_wp2_with fail
  refine (eqGab_res r1 r2 r4 Rg Rw).mono ?_
  rintro e w7 ⟨rfl, hb⟩
  have h7 := h6.next hb
  have y7 := h7.c0; have x7 := h7.c1
  have Z7 := Lib.hid hb.size
  replace Rw := Rw.next hb
  replace Bw := Bw.next hb
  replace q0Bw : _ := Bw.c0
  replace q1Bw : _ := Bw.c1
  replace q2Bw : _ := Bw.c2
  replace q3Bw : _ := Bw.c3
  replace Rg := Rg.next hb
  replace Bg := Bg.next hb
  replace q0Bg : _ := Bg.c0
  replace q1Bg : _ := Bg.c1
  replace q2Bg : _ := Bg.c2
  replace q3Bg : _ := Bg.c3
  clear hb h6 x6 y6
  have l8 := Rg.small
  go_wp2_with fail
  refine (markGab_out r1 r2 r4 Rg 1 (by omega) (by omega)).mono ?_
  rintro e w8 ⟨rfl, hC, HM⟩
  have h8 := fat_chg h7 hC (by have := Z1.out; have := Z2.out; have := Z3.out; have := Z4.out; have := Z5.out; have := Z6.out; have := Z7.out; have := Y3.out; have := Y6.out; omega)
  have y8 := h8.c0; have x8 := h8.c1
  have Z8 := Lib.hid hC.size
  replace Rw := Rw.chg hC (by have := Z1.out; have := Z2.out; have := Z3.out; have := Z4.out; have := Z5.out; have := Z6.out; have := Z7.out; have := Y3.out; have := Y6.out; omega)
  replace Bw := Bw.chg hC (by have := Z1.out; have := Z2.out; have := Z3.out; have := Z4.out; have := Z5.out; have := Z6.out; have := Z7.out; have := Y3.out; have := Y6.out; omega)
  replace q0Bw : _ := Bw.c0
  replace q1Bw : _ := Bw.c1
  replace q2Bw : _ := Bw.c2
  replace q3Bw : _ := Bw.c3
  replace Bg := Bg.chg hC (by have := Z1.out; have := Z2.out; have := Z3.out; have := Z4.out; have := Z5.out; have := Z6.out; have := Z7.out; have := Y3.out; have := Y6.out; omega)
  replace q0Bg : _ := Bg.c0
  replace q1Bg : _ := Bg.c1
  replace q2Bg : _ := Bg.c2
  replace q3Bg : _ := Bg.c3
  clear hC h7 x7 y7 Rg
  go_wp2_with fail
  refine (heldGab_res r1 r2 r4 1 r3.length HM (by omega) (by omega)).mono ?_
  rintro e w9 ⟨rfl, hb⟩
  have h9 := h8.next hb
  have y9 := h9.c0; have x9 := h9.c1
  have Z9 := Lib.hid hb.size
  replace Rw := Rw.next hb
  replace Bw := Bw.next hb
  replace q0Bw : _ := Bw.c0
  replace q1Bw : _ := Bw.c1
  replace q2Bw : _ := Bw.c2
  replace q3Bw : _ := Bw.c3
  replace Bg := Bg.next hb
  replace q0Bg : _ := Bg.c0
  replace q1Bg : _ := Bg.c1
  replace q2Bg : _ := Bg.c2
  replace q3Bg : _ := Bg.c3
  replace HM := HM.next hb
  clear hb h8 x8 y8
  go_wp2_with fail
  refine (toField_any _ _ _).mono ?_
  rintro e w10 ⟨rfl, hb⟩
  have h10 := h9.next hb
  have y10 := h10.c0; have x10 := h10.c1
  have Z10 := Lib.hid hb.size
  replace Rw := Rw.next hb
  replace Bw := Bw.next hb
  replace q0Bw : _ := Bw.c0
  replace q1Bw : _ := Bw.c1
  replace q2Bw : _ := Bw.c2
  replace q3Bw : _ := Bw.c3
  replace Bg := Bg.next hb
  replace q0Bg : _ := Bg.c0
  replace q1Bg : _ := Bg.c1
  replace q2Bg : _ := Bg.c2
  replace q3Bg : _ := Bg.c3
  replace HM := HM.next hb
  clear hb h9 x9 y9
  go_wp2_with fail
  have S := implFirstGabidulin_any d0 p0 a1 a2 hl hh w10
  rw [HR.out] at S
  dsimp only at S
  refine S.mono ?_
  clear S
  rintro e w11 ⟨vh, rfl, hb, Rh⟩
  have h11 := h10.next hb
  have y11 := h11.c0; have x11 := h11.c1
  have Z11 := Lib.hid hb.size
  replace Rw := Rw.next hb
  replace Bw := Bw.next hb
  replace q0Bw : _ := Bw.c0
  replace q1Bw : _ := Bw.c1
  replace q2Bw : _ := Bw.c2
  replace q3Bw : _ := Bw.c3
  replace Bg := Bg.next hb
  replace q0Bg : _ := Bg.c0
  replace q1Bg : _ := Bg.c1
  replace q2Bg : _ := Bg.c2
  replace q3Bg : _ := Bg.c3
  replace HM := HM.next hb
  clear hb h10 x10 y10
  obtain ⟨aoh, moh, coh, rfl⟩ := Rh.form
  have hb := below_alloc1 w11 (.cells #[.int .i64 r1, .int .i64 r2, (.slice aoh moh coh), .int .i64 r4] 53)
  have nBh := Box4.one w11 (.int .i64 r1) (.int .i64 r2) (.slice aoh moh coh) (.int .i64 r4) 53
  have h12 := h11.next hb
  have y12 := h12.c0; have x12 := h12.c1
  have Z12 := Lib.hid hb.size
  replace Rw := Rw.next hb
  replace Bw := Bw.next hb
  replace q0Bw : _ := Bw.c0
  replace q1Bw : _ := Bw.c1
  replace q2Bw : _ := Bw.c2
  replace q3Bw : _ := Bw.c3
  replace Bg := Bg.next hb
  replace q0Bg : _ := Bg.c0
  replace q1Bg : _ := Bg.c1
  replace q2Bg : _ := Bg.c2
  replace q3Bg : _ := Bg.c3
  replace HM := HM.next hb
  replace Rh := Rh.next hb
  clear hb h11 x11 y11
  have Y12 := Lib.hid (show w11.heap.size + 1 ≤ (w11.alloc (.cells #[.int .i64 r1, .int .i64 r2, (.slice aoh moh coh), .int .i64 r4] 53)).heap.size by simp)
  have Bh := nBh; clear nBh
  have q0Bh : _ := Bh.c0
  have q1Bh : _ := Bh.c1
  have q2Bh : _ := Bh.c2
  have q3Bh : _ := Bh.c3
  go_wp2_with fail
  refine (eqGab_res r1 r2 r4 Rh Rw).mono ?_
  rintro e w13 ⟨rfl, hb⟩
  have h13 := h12.next hb
  have y13 := h13.c0; have x13 := h13.c1
  have Z13 := Lib.hid hb.size
  replace Rw := Rw.next hb
  replace Bw := Bw.next hb
  replace q0Bw : _ := Bw.c0
  replace q1Bw : _ := Bw.c1
  replace q2Bw : _ := Bw.c2
  replace q3Bw : _ := Bw.c3
  replace Bg := Bg.next hb
  replace q0Bg : _ := Bg.c0
  replace q1Bg : _ := Bg.c1
  replace q2Bg : _ := Bg.c2
  replace q3Bg : _ := Bg.c3
  replace HM := HM.next hb
  replace Rh := Rh.next hb
  replace Bh := Bh.next hb
  replace q0Bh : _ := Bh.c0
  replace q1Bh : _ := Bh.c1
  replace q2Bh : _ := Bh.c2
  replace q3Bh : _ := Bh.c3
  clear hb h12 x12 y12
  go_wp2_with fail
  refine (heldGab_res r1 r2 r4 1 r3.length HM (by omega) (by omega)).mono ?_
  rintro e w14 ⟨rfl, hb⟩
  have h14 := h13.next hb
  have y14 := h14.c0; have x14 := h14.c1
  have Z14 := Lib.hid hb.size
  replace Rw := Rw.next hb
  replace Bw := Bw.next hb
  replace q0Bw : _ := Bw.c0
  replace q1Bw : _ := Bw.c1
  replace q2Bw : _ := Bw.c2
  replace q3Bw : _ := Bw.c3
  replace Bg := Bg.next hb
  replace q0Bg : _ := Bg.c0
  replace q1Bg : _ := Bg.c1
  replace q2Bg : _ := Bg.c2
  replace q3Bg : _ := Bg.c3
  replace HM := HM.next hb
  replace Rh := Rh.next hb
  replace Bh := Bh.next hb
  replace q0Bh : _ := Bh.c0
  replace q1Bh : _ := Bh.c1
  replace q2Bh : _ := Bh.c2
  replace q3Bh : _ := Bh.c3
  clear hb h13 x13 y13
  go_wp2_with fail
  go_ret
  exact ⟨rfl, h14.b⟩

set_option maxRecDepth 100000 in
theorem lifted (os : Os) (started : os.Started) (H : Type) (enc : TypeId × Value → H) :
    ReturnsInHanded {} Try.checked os 10 .any (Rows.fnExactFirstGabidulinSpec.pre6 enc Try.prog Try.f10 Rows.fnExactFirstGabidulinRow.domain false) (Rows.fnExactFirstGabidulinSpec.post enc Try.prog Try.f10 false true false false) := by
  refine returnsInHanded_of_change (C := Try.checked) own started (by kernel_rfl) Try.func10
    (ChangeSpec.witness6 (enc := enc) (C := Try.checked) false ⟨#[], #[.agg #[.int .i64 0, .int .i64 0], .int .i64 0, .int .i64 0], []⟩ 8 (by kernel_rfl) (by kernel_rfl) (by kernel_rfl) (by kernel_rfl)) ?_
  intro W base args ds gs before hval0 hW hcnd _
  have hval : ∀ (j : Nat) t v, Try.f10.params[j]? = some t → args[j]? = some v → Value.okWide Try.prog W .any base t v := hval0
  have hW' := hW
  obtain ⟨p, q, hA0, hV, rfl, hfz, hnd⟩ := hW
  have hA : DataW.TrodAll enc Try.prog W 0 (fun _ => true) true Try.f10.params.toList args.toList ds p := hA0
  rw [Try.params10] at hA hval
  obtain ⟨v0, vs0, dd0, ds0, pp0, qq0, hargs, rfl, rfl, h0, r0⟩ := trodAll_cons hA
  obtain ⟨v1, vs1, dd1, ds1, pp1, qq1, rfl, rfl, rfl, h1, r1⟩ := trodAll_cons r0
  obtain ⟨v2, vs2, dd2, ds2, pp2, qq2, rfl, rfl, rfl, h2, r2⟩ := trodAll_cons r1
  obtain ⟨rfl, rfl, rfl⟩ := trodAll_nil r2
  obtain rfl : args = #[v0, v1, v2] := by cases args; simp_all
  obtain ⟨rfl, rfl⟩ := trodVars_none hV
  obtain ⟨c0, e0, y0, z0, m0, rfl, rfl, rfl, hy0, hz0⟩ := open_agg2 Try.underlying26 (by kernel_rfl) cellsField (hval 0 26 v0 rfl rfl) h0
  obtain ⟨d0, ed0, rfl, wd0⟩ := DataW.trod_int Try.underlying2 hy0
  obtain ⟨p0, ep0, rfl, wp0⟩ := DataW.trod_int Try.underlying2 hz0
  simp at ed0 ep0; subst ed0 ep0
  obtain ⟨a1, rfl, rfl, rfl, w1⟩ := open_int Try.underlying2 (hval 1 2 v1 rfl rfl) h1
  obtain ⟨a2, rfl, rfl, rfl, w2⟩ := open_int Try.underlying2 (hval 2 2 v2 rfl rfl) h2
  clear hA0 hval0
  simp only [List.append_nil] at hW'
  refine (walk d0 p0 wd0 wp0 a1 w1 a2 w2 W).mono fun e W' ⟨he, bel⟩ => ?_
  subst he
  exact ⟨_, rfl, _, _, _, [], [], [], hW', trodAll_mk1 (shut_bool Try.underlying4 _), (trodAll_cons_mk (shut_agg2 (y0 := (.lit (.int .i64 d0), [])) (y1 := (.lit (.int .i64 p0), [])) Try.underlying26 (by kernel_rfl) cellsField ⟨1, by simp [DataW.trod, Try.underlying2, wd0]⟩ ⟨1, by simp [DataW.trod, Try.underlying2, wp0]⟩) (trodAll_cons_mk (shut_int Try.underlying2 w1) (trodAll_cons_mk (shut_int Try.underlying2 w2) trodAll_mk0))), rfl, bel.frame _, fun h => by cases h⟩

theorem over : Rows.fnExactFirstGabidulinRow.holds Try.pinned (OpenSpec.ofChange Rows.fnExactFirstGabidulinSpec) :=
  OpenClaim.holds_of_wide 10 Try.f10 rfl rfl rfl rfl rfl rfl rfl ⟨rfl, rfl, rfl, rfl, rfl⟩ rfl rfl rfl rfl rfl (by kernel_rfl) Try.func10 (by kernel_rfl)
    (of_decide_eq_true (by kernel_rfl)) (by unfold Func.isWrapper; first | (rw [if_pos (by decide +kernel)]; kernel_rfl) | (rw [if_neg (by decide +kernel)]; exact ⟨rfl, rfl⟩))
    (fun os started H enc _ => lifted os started H enc)

theorem proved : Rows.FnExactFirstGabidulinSaid :=
  over
#print axioms proved
end Go.Proofs.Ytcdhdgflgdmhdaa.fnExactFirstGabidulin
