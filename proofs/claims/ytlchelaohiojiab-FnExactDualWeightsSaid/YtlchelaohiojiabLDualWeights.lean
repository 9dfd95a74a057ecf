/- FnExactDualWeights: for every input the law returns true, and every argument reads afterwards as it read before. No condition. -/
import Derived.Test.YtlchelaohiojiabRows
import Derived.WalkKit
import Derived.ProofKit
import Derived.OpenShut
import Derived.ChangeOld
import Derived.Below
import Derived.Lib.SmallJoins
import Derived.Test.YtlchelaohiojiabDualWeights
import Derived.Test.YtlchelaohiojiabMtRes
import Derived.Test.YtlchelaohiojiabArg
import Derived.Test.YtlchelaohiojiabThird
import Derived.Test.YtlchelaohiojiabRow
import Derived.Test.YtlchelaohiojiabRes
namespace Go.Proofs.Ytlchelaohiojiab.fnExactDualWeights
open Go.ChangeShapes Go.WideShapes Go.ChangeAt Go.RowKit Go.Joins
set_option linter.unusedVariables false

theorem own : ownKnob Try.prog.godebug = none := by kernel_rfl
theorem laidOut : laidOutB Try.prog = true := by kernel_rfl

structure NAt (w W : World) : Prop where
  b : Below w.heap.size w W
theorem NAt.start (w : World) : NAt w w := ⟨Below.refl _ w⟩
theorem NAt.next {w W V : World} (h : NAt w W) (hb : Below W.heap.size W V) : NAt w V := ⟨h.b.trans (hb.mono h.b.size)⟩
theorem nat_chg {w W V : World} {B T : Nat} (h : NAt w W) (hb : Chg B T W V) (hq : w.heap.size ≤ B) : NAt w V := ⟨Chg.below h.b h.b.size hb hq⟩
set_option maxHeartbeats 6400000 in
theorem walk (a0 : Int) (w0 : (Lit.int .i64 a0).wf = true) (a1 : Int) (w1 : (Lit.int .i64 a1).wf = true) (a2 : Option Addr) (n2 cap2 : Nat) (z2 : List Int) (w : World) (h2A : Arg w a2 n2 z2) :
    Calls Try.prog 3 #[.int .i64 a0, .int .i64 a1, .slice a2 n2 cap2] w fun e w' => e = .returned (.bool true) ∧ Below w.heap.size w w' := by
  have big2 := h2A.big
  by_cases hn2 : n2 ≤ 1048576
  rotate_left
  ·
    go_enter Try.func3, Try.ntmps3
    go_wp2_with fail
    go_ret
    exact ⟨rfl, Below.refl _ _⟩
  obtain ⟨r, hr⟩ : ∃ r, fDualWeights a0 a1 z2 = r := ⟨_, rfl⟩
  have HR := Lib.hid hr
  clear hr
  obtain ⟨r1, r2⟩ := r
  have l2 := h2A.len
  go_enter Try.func3, Try.ntmps3
  have h0 := NAt.start w
  go_wp2_with fail
  refine (toInt64S_any a2 n2 cap2 z2 _ (h2A.from h0.b) hn2).mono ?_
  rintro e w1 ⟨bs2, rfl, ges2, hb, Ms2⟩
  have h1 := h0.next hb
  have Z1 := Lib.hid hb.size
  clear hb h0
  have Rs2 := Ms2.res (cap := n2) ges2
  clear ges2
  go_wp2_with fail
  have S := specDualWeights_any a0 a1 bs2 n2 n2 z2 _ Ms2
  rw [HR.out] at S
  try dsimp only at S
  refine S.mono ?_
  clear S
  rintro e w2 ⟨vw, rfl, hb, Rw⟩
  have h2 := h1.next hb
  have Z2 := Lib.hid hb.size
  replace Ms2 := Ms2.below hb
  replace Rs2 := Rs2.next hb
  clear hb h1
  clear Ms2
  clear Rs2
  go_wp2_with fail
  refine (toInt64S_any a2 n2 cap2 z2 _ (h2A.from h2.b) hn2).mono ?_
  rintro e w3 ⟨bx2, rfl, gex2, hb, Mx2⟩
  have h3 := h2.next hb
  have Z3 := Lib.hid hb.size
  replace Rw := Rw.next hb
  clear hb h2
  have Rx2 := Mx2.res (cap := n2) gex2
  clear gex2
  go_wp2_with fail
  have S := implDualWeights_any a0 a1 bx2 n2 n2 z2 _ Mx2
  rw [HR.out] at S
  try dsimp only at S
  refine S.mono ?_
  clear S
  rintro e w4 ⟨vg, rfl, hb, Rg⟩
  have h4 := h3.next hb
  have Z4 := Lib.hid hb.size
  replace Rw := Rw.next hb
  replace Mx2 := Mx2.below hb
  replace Rx2 := Rx2.next hb
  clear hb h3
  clear Mx2
  go_wp2_with fail
  refine (eq_res Rg Rw).mono ?_
  rintro e w5 ⟨rfl, hb⟩
  have h5 := h4.next hb
  have Z5 := Lib.hid hb.size
  replace Rw := Rw.next hb
  replace Rx2 := Rx2.next hb
  replace Rg := Rg.next hb
  clear hb h4
  go_wp2_with fail
  refine (toInt64S_any a2 n2 cap2 z2 _ (h2A.from h5.b) hn2).mono ?_
  rintro e w6 ⟨by2, rfl, gey2, hb, My2⟩
  have h6 := h5.next hb
  have Z6 := Lib.hid hb.size
  replace Rw := Rw.next hb
  replace Rx2 := Rx2.next hb
  replace Rg := Rg.next hb
  clear hb h5
  have Ry2 := My2.res (cap := n2) gey2
  clear gey2
  clear My2
  go_wp2_with fail
  refine (eq_res Rx2 Ry2).mono ?_
  rintro e w7 ⟨rfl, hb⟩
  have h7 := h6.next hb
  have Z7 := Lib.hid hb.size
  replace Rw := Rw.next hb
  replace Rx2 := Rx2.next hb
  replace Rg := Rg.next hb
  replace Ry2 := Ry2.next hb
  clear hb h6
  clear Ry2
  have l8 := Rg.small
  go_wp2_with fail
  refine (mark_res Rx2 (1) (by omega) (by omega)).mono ?_
  rintro e w8 ⟨rfl, hC, HM⟩
  have h8 := nat_chg h7 hC (by have := Z1.out; have := Z2.out; have := Z3.out; have := Z4.out; have := Z5.out; have := Z6.out; have := Z7.out; omega)
  have Z8 := Lib.hid hC.size
  replace Rw := Rw.chg hC (by have := Z1.out; have := Z2.out; have := Z3.out; have := Z4.out; have := Z5.out; have := Z6.out; have := Z7.out; omega)
  replace Rg := Rg.chg hC (by have := Z1.out; have := Z2.out; have := Z3.out; have := Z4.out; have := Z5.out; have := Z6.out; have := Z7.out; omega)
  clear hC h7 Rx2
  clear HM
  go_wp2_with fail
  refine (eq_res Rg Rw).mono ?_
  rintro e w9 ⟨rfl, hb⟩
  have h9 := h8.next hb
  have Z9 := Lib.hid hb.size
  replace Rw := Rw.next hb
  replace Rg := Rg.next hb
  clear hb h8
  go_wp2_with fail
  refine (mark_res Rg (1) (by omega) (by omega)).mono ?_
  rintro e w10 ⟨rfl, hC, HM⟩
  have h10 := nat_chg h9 hC (by have := Z1.out; have := Z2.out; have := Z3.out; have := Z4.out; have := Z5.out; have := Z6.out; have := Z7.out; have := Z8.out; have := Z9.out; omega)
  have Z10 := Lib.hid hC.size
  replace Rw := Rw.chg hC (by have := Z1.out; have := Z2.out; have := Z3.out; have := Z4.out; have := Z5.out; have := Z6.out; have := Z7.out; have := Z8.out; have := Z9.out; omega)
  clear hC h9 Rg
  go_wp2_with fail
  refine (held_res (1) (r1.length) HM (by omega) (by omega)).mono ?_
  rintro e w' ⟨rfl, rfl⟩
  go_wp2_with fail
  refine (toInt64S_any a2 n2 cap2 z2 _ (h2A.from h10.b) hn2).mono ?_
  rintro e w11 ⟨bt2, rfl, get2, hb, Mt2⟩
  have h11 := h10.next hb
  have Z11 := Lib.hid hb.size
  replace Rw := Rw.next hb
  replace HM := HM.next hb
  clear hb h10
  have Rt2 := Mt2.res (cap := n2) get2
  clear get2
  go_wp2_with fail
  have S := implDualWeights_any a0 a1 bt2 n2 n2 z2 _ Mt2
  rw [HR.out] at S
  try dsimp only at S
  refine S.mono ?_
  clear S
  rintro e w12 ⟨vh, rfl, hb, Rh⟩
  have h12 := h11.next hb
  have Z12 := Lib.hid hb.size
  replace Rw := Rw.next hb
  replace HM := HM.next hb
  replace Mt2 := Mt2.below hb
  replace Rt2 := Rt2.next hb
  clear hb h11
  clear Mt2
  clear Rt2
  go_wp2_with fail
  refine (eq_res Rh Rw).mono ?_
  rintro e w13 ⟨rfl, hb⟩
  have h13 := h12.next hb
  have Z13 := Lib.hid hb.size
  replace Rw := Rw.next hb
  replace HM := HM.next hb
  replace Rh := Rh.next hb
  clear hb h12
  go_wp2_with fail
  refine (held_res (1) (r1.length) HM (by omega) (by omega)).mono ?_
  rintro e w' ⟨rfl, rfl⟩
  go_wp2_with fail
  go_ret
  exact ⟨rfl, h13.b⟩

set_option maxRecDepth 100000 in
theorem lifted (os : Os) (started : os.Started) (H : Type) (enc : TypeId × Value → H) :
    ReturnsInHanded {} Try.checked os 3 .any (Rows.fnExactDualWeightsSpec.pre6 enc Try.prog Try.f3 Rows.fnExactDualWeightsRow.domain false) (Rows.fnExactDualWeightsSpec.post enc Try.prog Try.f3 false true false false) := by
  refine returnsInHanded_of_change (C := Try.checked) own started (by kernel_rfl) Try.func3
    (ChangeSpec.witness6 (enc := enc) (C := Try.checked) false ⟨#[], #[.int .i64 0, .int .i64 0, .slice none 0 0], []⟩ 8 (by kernel_rfl) (by kernel_rfl) (by kernel_rfl) (by kernel_rfl)) ?_
  intro W base args ds gs before hval0 hW hcnd _
  have hval : ∀ (j : Nat) t v, Try.f3.params[j]? = some t → args[j]? = some v → Value.okWide Try.prog W .any base t v := hval0
  have hW' := hW
  obtain ⟨p, q, hA0, hV, rfl, hfz, hnd⟩ := hW
  have hA : DataW.TrodAll enc Try.prog W 0 (fun _ => true) true Try.f3.params.toList args.toList ds p := hA0
  rw [Try.params3] at hA hval
  obtain ⟨v0, vs0, dd0, ds0, pp0, qq0, hargs, rfl, rfl, h0, r0⟩ := trodAll_cons hA
  obtain ⟨v1, vs1, dd1, ds1, pp1, qq1, rfl, rfl, rfl, h1, r1⟩ := trodAll_cons r0
  obtain ⟨v2, vs2, dd2, ds2, pp2, qq2, rfl, rfl, rfl, h2, r2⟩ := trodAll_cons r1
  obtain ⟨rfl, rfl, rfl⟩ := trodAll_nil r2
  obtain rfl : args = #[v0, v1, v2] := by cases args; simp_all
  obtain ⟨rfl, rfl⟩ := trodVars_none hV
  have k0 := h0
  have lt0 : ∀ x ∈ pp0, x.block < W.heap.size := by obtain ⟨m, hm⟩ := k0; exact DataW.trod_lt m _ _ _ hm
  obtain ⟨a0, rfl, rfl, rfl, w0⟩ := open_int Try.underlying2 (hval 0 2 v0 rfl rfl) h0
  have k1 := h1
  have lt1 : ∀ x ∈ pp1, x.block < W.heap.size := by obtain ⟨m, hm⟩ := k1; exact DataW.trod_lt m _ _ _ hm
  obtain ⟨a1, rfl, rfl, rfl, w1⟩ := open_int Try.underlying2 (hval 1 2 v1 rfl rfl) h1
  have k2 := h2
  have lt2 : ∀ x ∈ pp2, x.block < W.heap.size := by obtain ⟨m, hm⟩ := k2; exact DataW.trod_lt m _ _ _ hm
  obtain ⟨a2, n2, cap2, rfl⟩ := okWide_slice Try.underlying22 (hval 2 22 v2 rfl rfl)
  obtain ⟨z2, w2⟩ : ∃ z, Arg W a2 n2 z := by
    obtain ⟨fuel, hf⟩ := h2
    obtain ⟨A, k, c, z, e, w⟩ := arg_open (v := .slice a2 n2 cap2) hf
    injection e with e1 e2 e3
    subst e1 e2 e3
    exact ⟨z, w⟩
  clear hA0 hval0
  refine (walk a0 w0 a1 w1 a2 n2 cap2 z2 W w2).mono fun e W' ⟨he, bel⟩ => ?_
  subst he
  exact ⟨_, rfl, _, _, _, [], _, [], hW', trodAll_mk1 (shut_bool Try.underlying4 _), (trodAll_cons_mk (Below.trod laidOut (by kernel_rfl) (of_decide_eq_true (by kernel_rfl)) k0 bel lt0) (trodAll_cons_mk (Below.trod laidOut (by kernel_rfl) (of_decide_eq_true (by kernel_rfl)) k1 bel lt1) (trodAll_cons_mk (Below.trod laidOut (by kernel_rfl) (of_decide_eq_true (by kernel_rfl)) k2 bel lt2) trodAll_mk0))), rfl, bel.frame _, fun h => by cases h⟩

theorem over : Rows.fnExactDualWeightsRow.holds Try.pinned (OpenSpec.ofChange Rows.fnExactDualWeightsSpec) :=
  OpenClaim.holds_of_wide 3 Try.f3 rfl rfl rfl rfl rfl rfl rfl ⟨rfl, rfl, rfl, rfl, rfl⟩ rfl rfl rfl rfl rfl (by kernel_rfl) Try.func3 (by kernel_rfl)
    (of_decide_eq_true (by kernel_rfl)) (by unfold Func.isWrapper; first | (rw [if_pos (by decide +kernel)]; kernel_rfl) | (rw [if_neg (by decide +kernel)]; exact ⟨rfl, rfl⟩))
    (fun os started H enc _ => lifted os started H enc)

theorem proved : Rows.FnExactDualWeightsSaid :=
  over
#print axioms proved
end Go.Proofs.Ytlchelaohiojiab.fnExactDualWeights
