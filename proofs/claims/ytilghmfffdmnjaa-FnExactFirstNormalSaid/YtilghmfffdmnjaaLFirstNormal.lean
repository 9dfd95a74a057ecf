/- FnExactFirstNormal: for every input the law returns true, and every argument reads afterwards as it read before. No condition. -/
import Derived.Test.YtilghmfffdmnjaaRows
import Derived.WalkKit
import Derived.ProofKit
import Derived.OpenShut
import Derived.ChangeOld
import Derived.Below
import Derived.Lib.SmallJoins
import Derived.Test.YtilghmfffdmnjaaFirstNormal
import Derived.Test.YtilghmfffdmnjaaToField
namespace Go.Proofs.Ytilghmfffdmnjaa.fnExactFirstNormal
open Go.ChangeShapes Go.WideShapes Go.ChangeAt Go.RowKit Go.Joins
set_option linter.unusedVariables false

theorem own : ownKnob Try.prog.godebug = none := by kernel_rfl
theorem laidOut : laidOutB Try.prog = true := by kernel_rfl
theorem cellsField : Try.prog.cellsOf 33 = 2 := by kernel_rfl

set_option maxHeartbeats 800000 in
theorem walk_A (d p : Int) (hf : fldI d p = false) (hl : -9223372036854775808 ≤ p) (hh : p ≤ 9223372036854775807) (w : World) :
    Calls Try.prog 5 #[.agg #[.int .i64 d, .int .i64 p]] w fun e w' => e = .returned (.bool true) ∧ Below w.heap.size w w' := by
  have HF := Lib.hid hf
  clear hf
  go_enter Try.func5, Try.ntmps5
  have h0 := FAt.start w d p 33
  go_wp2_with fail
  refine (toField_any _ _ _).mono ?_
  rintro e w1 ⟨rfl, hb⟩
  have h1 := h0.next hb
  have z1 := h1.z; have c1 := h1.c0; have d1 := h1.c1
  clear hb
  go_wp2_with fail
  refine (specFirstNormal_A _ _ HF.out _).mono ?_
  rintro e w2 ⟨rfl, hb⟩
  have h2 := h1.next hb
  have z2 := h2.z; have c2 := h2.c0; have d2 := h2.c1
  clear hb
  go_wp2_with fail
  refine (toField_any _ _ _).mono ?_
  rintro e w3 ⟨rfl, hb⟩
  have h3 := h2.next hb
  have z3 := h3.z; have c3 := h3.c0; have d3 := h3.c1
  clear hb
  go_wp2_with fail
  refine (implFirstNormal_A _ _ HF.out hl hh _).mono ?_
  rintro e w4 ⟨rfl, hb⟩
  have h4 := h3.next hb
  have z4 := h4.z; have c4 := h4.c0; have d4 := h4.c1
  clear hb
  go_wp2
  go_ret
  exact ⟨rfl, h4.b⟩

set_option maxHeartbeats 800000 in
theorem walk_C (m P n : Nat) (hF : Fld m P n) (g : Nat) (hg0 : 0 < g) (hgn : g < n) (h : nrm P m g = true ∧ ∀ j, j < g → nrm P m j = false) (w : World) :
    Calls Try.prog 5 #[.agg #[.int .i64 m, .int .i64 P]] w fun e w' => e = .returned (.bool true) ∧ Below w.heap.size w w' := by
  have HH := Lib.hid h
  clear h
  go_enter Try.func5, Try.ntmps5
  have h0 := FAt.start w m P 33
  go_wp2_with fail
  refine (toField_any _ _ _).mono ?_
  rintro e w1 ⟨rfl, hx⟩
  have h1 := h0.next hx
  have z1 := h1.z; have c1 := h1.c0; have d1 := h1.c1
  clear hx
  go_wp2_with fail
  refine (specFirstNormal_C _ _ _ hF g hg0 hgn HH.out.1 HH.out.2 _).mono ?_
  rintro e w2 ⟨rfl, hx⟩
  have h2 := h1.next hx
  have z2 := h2.z; have c2 := h2.c0; have d2 := h2.c1
  clear hx
  go_wp2_with fail
  refine (toField_any _ _ _).mono ?_
  rintro e w3 ⟨rfl, hx⟩
  have h3 := h2.next hx
  have z3 := h3.z; have c3 := h3.c0; have d3 := h3.c1
  clear hx
  go_wp2_with fail
  refine (implFirstNormal_C _ _ _ hF g hg0 hgn HH.out.1 HH.out.2 _).mono ?_
  rintro e w4 ⟨rfl, hx⟩
  have h4 := h3.next hx
  have z4 := h4.z; have c4 := h4.c0; have d4 := h4.c1
  clear hx
  go_wp2
  go_ret
  exact ⟨rfl, h4.b⟩

theorem walk (d0 p0 : Int) (wd0 : (Lit.int .i64 d0).wf = true) (wp0 : (Lit.int .i64 p0).wf = true) (w : World) :
    Calls Try.prog 5 #[.agg #[.int .i64 d0, .int .i64 p0]] w fun e w' => e = .returned (.bool true) ∧ Below w.heap.size w w' := by
  obtain ⟨hl, hh⟩ := bounds_i64 wp0
  cases hf : fldI d0 p0 with
  | false => exact walk_A d0 p0 hf hl hh w
  | true =>
    obtain ⟨m, P, rfl, rfl, hF⟩ := fldI_nat hf
    have hF := Fld.of hF
    obtain ⟨g, g0, gn, hg, hmin⟩ := nrm_min hF
    exact walk_C m P _ hF g g0 gn ⟨hg, hmin⟩ w

set_option maxRecDepth 100000 in
theorem lifted (os : Os) (started : os.Started) (H : Type) (enc : TypeId × Value → H) :
    ReturnsInHanded {} Try.checked os 5 .any (Rows.fnExactFirstNormalSpec.pre6 enc Try.prog Try.f5 Rows.fnExactFirstNormalRow.domain false) (Rows.fnExactFirstNormalSpec.post enc Try.prog Try.f5 false true false false) := by
  refine returnsInHanded_of_change (C := Try.checked) own started (by kernel_rfl) Try.func5
    (ChangeSpec.witness6 (enc := enc) (C := Try.checked) false ⟨#[], #[.agg #[.int .i64 0, .int .i64 0]], []⟩ 8 (by kernel_rfl) (by kernel_rfl) (by kernel_rfl) (by kernel_rfl)) ?_
  intro W base args ds gs before hval0 hW hcnd _
  have hval : ∀ (j : Nat) t v, Try.f5.params[j]? = some t → args[j]? = some v → Value.okWide Try.prog W .any base t v := hval0
  have hW' := hW
  obtain ⟨p, q, hA0, hV, rfl, hfz, hnd⟩ := hW
  have hA : DataW.TrodAll enc Try.prog W 0 (fun _ => true) true Try.f5.params.toList args.toList ds p := hA0
  rw [Try.params5] at hA hval
  obtain ⟨v0, vs0, dd0, ds0, pp0, qq0, hargs, rfl, rfl, h0, r0⟩ := trodAll_cons hA
  obtain ⟨rfl, rfl, rfl⟩ := trodAll_nil r0
  obtain rfl : args = #[v0] := by cases args; simp_all
  obtain ⟨rfl, rfl⟩ := trodVars_none hV
  obtain ⟨c0, e0, y0, z0, m0, rfl, rfl, rfl, hy0, hz0⟩ := open_agg2 Try.underlying33 (by kernel_rfl) cellsField (hval 0 33 v0 rfl rfl) h0
  obtain ⟨d0, ed0, rfl, wd0⟩ := DataW.trod_int Try.underlying2 hy0
  obtain ⟨p0, ep0, rfl, wp0⟩ := DataW.trod_int Try.underlying2 hz0
  simp at ed0 ep0; subst ed0 ep0
  clear hA0 hval0
  simp only [List.append_nil] at hW'
  refine (walk d0 p0 wd0 wp0 W).mono fun e W' ⟨he, bel⟩ => ?_
  subst he
  exact ⟨_, rfl, _, _, _, [], [], [], hW', trodAll_mk1 (shut_bool Try.underlying4 _), (trodAll_cons_mk (shut_agg2 (y0 := (.lit (.int .i64 d0), [])) (y1 := (.lit (.int .i64 p0), [])) Try.underlying33 (by kernel_rfl) cellsField ⟨1, by simp [DataW.trod, Try.underlying2, wd0]⟩ ⟨1, by simp [DataW.trod, Try.underlying2, wp0]⟩) trodAll_mk0), rfl, bel.frame _, fun h => by cases h⟩

theorem over : Rows.fnExactFirstNormalRow.holds Try.pinned (OpenSpec.ofChange Rows.fnExactFirstNormalSpec) :=
  OpenClaim.holds_of_wide 5 Try.f5 rfl rfl rfl rfl rfl rfl rfl ⟨rfl, rfl, rfl, rfl, rfl⟩ rfl rfl rfl rfl rfl (by kernel_rfl) Try.func5 (by kernel_rfl)
    (of_decide_eq_true (by kernel_rfl)) (by unfold Func.isWrapper; first | (rw [if_pos (by decide +kernel)]; kernel_rfl) | (rw [if_neg (by decide +kernel)]; exact ⟨rfl, rfl⟩))
    (fun os started H enc _ => lifted os started H enc)

theorem proved : Rows.FnExactFirstNormalSaid :=
  over
#print axioms proved
end Go.Proofs.Ytilghmfffdmnjaa.fnExactFirstNormal
