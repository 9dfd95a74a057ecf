/- FnExactFieldsOf: for every input the law returns true, and every argument reads afterwards as it read before. No condition. -/
import Derived.Test.YtlchelaohiojiaaRows
import Derived.WalkKit
import Derived.ProofKit
import Derived.OpenShut
import Derived.ChangeOld
import Derived.Below
import Derived.Lib.SmallJoins
import Derived.Test.YtlchelaohiojiaaFieldsOf
namespace Go.Proofs.Ytlchelaohiojiaa.fnExactFieldsOf
open Go.ChangeShapes Go.WideShapes Go.ChangeAt Go.RowKit Go.Joins
set_option linter.unusedVariables false

theorem own : ownKnob Try.prog.godebug = none := by kernel_rfl
theorem laidOut : laidOutB Try.prog = true := by kernel_rfl

set_option maxHeartbeats 6400000 in
theorem walk (a0 : Int) (w0 : (Lit.int .i64 a0).wf = true) (w : World) :
    Calls Try.prog 7 #[.int .i64 a0] w fun e w' => e = .returned (.bool true) ∧ Below w.heap.size w w' := by
  have S := specFieldsOf_any a0
  have I := implFieldsOf_any a0
  have hl := fFieldsOf_len a0
  generalize hX : (fun j => ((nth (fFieldsOf a0).1 j : Nat) : Int)) = Y at S I
  generalize (fFieldsOf a0).1.length = n at S I hl
  generalize (fFieldsOf a0).2 = c at S I
  clear hX
  have HS := Lib.hid S
  have HI := Lib.hid I
  clear S I
  go_enter Try.func7, Try.ntmps7
  go_wp2_with fail
  refine (HS.out _).mono ?_
  rintro e w1 ⟨v0, rfl, hb, hF0⟩
  have HB1 := Lib.hid hb
  have F0 := Lib.hid hF0
  obtain ⟨A0, c0, rfl, _⟩ := hF0.is
  clear hb hF0 HS
  go_wp2_with fail
  refine (HI.out _).mono ?_
  rintro e w2 ⟨vg, rfl, hb, hF1⟩
  obtain ⟨A1, c1, rfl, _⟩ := hF1.is
  have HB2 := Lib.hid hb
  have HE := Lib.hid (eqFields_fr hl hF1 (F0.out.next hb))
  have F1 := Lib.hid hF1
  clear hb hF1
  go_wp2_with fail
  refine HE.out.mono ?_
  rintro e w3 ⟨rfl, hb⟩
  have HB3 := Lib.hid (HB2.out.trans (hb.mono HB2.out.size))
  have HM := Lib.hid (markFields_fr 1 (by omega) hl (F1.out.next hb))
  clear hb HE F1
  go_wp2_with fail
  refine HM.out.mono ?_
  rintro e w4 ⟨rfl, ⟨g, hg⟩, hF2⟩
  have hb4 : Below w1.heap.size w1 w4 := by
    rcases hg with ⟨_, rfl⟩ | ⟨hg, ho⟩
    · exact HB3.out
    · exact ho.below HB3.out hg
  have HB4 := Lib.hid hb4
  have F2 := Lib.hid hF2
  have HH := Lib.hid (heldFields_fr 1 (by omega) hl hF2)
  generalize hm : 1 + n * 2 = m at HH ⊢
  have hm1 : m ≤ 1000 := by omega
  have HMM := Lib.hid hm
  clear hg hF2 hb4 HM hm
  go_wp2_with fail
  refine HH.out.mono ?_
  rintro e w' ⟨rfl, rfl⟩
  go_wp2_with fail
  refine (HI.out _).mono ?_
  rintro e w5 ⟨vh, rfl, hb, hF3⟩
  obtain ⟨A3, c3, rfl, _⟩ := hF3.is
  have HB5 := Lib.hid hb
  have HE := Lib.hid (eqFields_fr hl hF3 (F0.out.next (HB4.out.trans (hb.mono HB4.out.size))))
  clear hb hF3
  go_wp2_with fail
  refine HE.out.mono ?_
  rintro e w6 ⟨rfl, hb⟩
  have HB6 := Lib.hid (HB5.out.trans (hb.mono HB5.out.size))
  clear hb HE
  have HH2 := Lib.hid (heldFields_fr 1 (by omega) hl (F2.out.next HB6.out))
  have HB7 := Lib.hid (HB1.out.trans ((HB4.out.trans (HB6.out.mono HB4.out.size)).mono HB1.out.size))
  have HH3 : Hid (Calls Try.prog 46 #[.slice A1 n c1, .int .i64 1] w6 fun e w' => e = .returned (.int .i64 (m : Nat)) ∧ w6 = w') := Lib.hid (by have := HH2.out; rw [HMM.out] at this; exact this)
  go_wp2_with fail
  refine HH3.out.mono ?_
  rintro e w' ⟨rfl, rfl⟩
  go_wp2_with fail
  go_ret
  exact ⟨rfl, HB7.out⟩

set_option maxRecDepth 100000 in
theorem lifted (os : Os) (started : os.Started) (H : Type) (enc : TypeId × Value → H) :
    ReturnsInHanded {} Try.checked os 7 .any (Rows.fnExactFieldsOfSpec.pre6 enc Try.prog Try.f7 Rows.fnExactFieldsOfRow.domain false) (Rows.fnExactFieldsOfSpec.post enc Try.prog Try.f7 false true false false) := by
  refine returnsInHanded_of_change (C := Try.checked) own started (by kernel_rfl) Try.func7
    (ChangeSpec.witness6 (enc := enc) (C := Try.checked) false ⟨#[], #[.int .i64 0], []⟩ 8 (by kernel_rfl) (by kernel_rfl) (by kernel_rfl) (by kernel_rfl)) ?_
  intro W base args ds gs before hval0 hW hcnd _
  have hval : ∀ (j : Nat) t v, Try.f7.params[j]? = some t → args[j]? = some v → Value.okWide Try.prog W .any base t v := hval0
  have hW' := hW
  obtain ⟨p, q, hA0, hV, rfl, hfz, hnd⟩ := hW
  have hA : DataW.TrodAll enc Try.prog W 0 (fun _ => true) true Try.f7.params.toList args.toList ds p := hA0
  rw [Try.params7] at hA hval
  obtain ⟨v0, vs0, dd0, ds0, pp0, qq0, hargs, rfl, rfl, h0, r0⟩ := trodAll_cons hA
  obtain ⟨rfl, rfl, rfl⟩ := trodAll_nil r0
  obtain rfl : args = #[v0] := by cases args; simp_all
  obtain ⟨rfl, rfl⟩ := trodVars_none hV
  obtain ⟨a0, rfl, rfl, rfl, w0⟩ := open_int Try.underlying2 (hval 0 2 v0 rfl rfl) h0
  clear hA0 hval0
  simp only [List.append_nil] at hW'
  refine (walk a0 w0 W).mono fun e W' ⟨he, bel⟩ => ?_
  subst he
  exact ⟨_, rfl, _, _, _, [], [], [], hW', trodAll_mk1 (shut_bool Try.underlying4 _), (trodAll_cons_mk (shut_int Try.underlying2 w0) trodAll_mk0), rfl, bel.frame _, fun h => by cases h⟩

theorem over : Rows.fnExactFieldsOfRow.holds Try.pinned (OpenSpec.ofChange Rows.fnExactFieldsOfSpec) :=
  OpenClaim.holds_of_wide 7 Try.f7 rfl rfl rfl rfl rfl rfl rfl ⟨rfl, rfl, rfl, rfl, rfl⟩ rfl rfl rfl rfl rfl (by kernel_rfl) Try.func7 (by kernel_rfl)
    (of_decide_eq_true (by kernel_rfl)) (by unfold Func.isWrapper; first | (rw [if_pos (by decide +kernel)]; kernel_rfl) | (rw [if_neg (by decide +kernel)]; exact ⟨rfl, rfl⟩))
    (fun os started H enc _ => lifted os started H enc)

theorem proved : Rows.FnExactFieldsOfSaid :=
  over
#print axioms proved
end Go.Proofs.Ytlchelaohiojiaa.fnExactFieldsOf
