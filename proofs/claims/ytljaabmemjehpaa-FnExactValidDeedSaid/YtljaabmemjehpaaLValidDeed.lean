/- FnExactValidDeed: for every input the law returns true, and every argument reads afterwards as it read before. No condition. -/
import Derived.Test.YtljaabmemjehpaaRows
import Derived.WalkKit
import Derived.ProofKit
import Derived.OpenShut
import Derived.ChangeOld
import Derived.Below
import Derived.Lib.SmallJoins
import Derived.Test.YtljaabmemjehpaaValidDeed
import Derived.Test.YtljaabmemjehpaaLB
import Derived.Test.YtljaabmemjehpaaThird
import Derived.Test.YtljaabmemjehpaaRow
import Derived.Test.YtljaabmemjehpaaRes
import Derived.Test.YtljaabmemjehpaaMtRes
namespace Go.Proofs.Ytljaabmemjehpaa.fnExactValidDeed
open Go.ChangeShapes Go.WideShapes Go.ChangeAt Go.RowKit Go.Joins
set_option linter.unusedVariables false

theorem own : ownKnob Try.prog.godebug = none := by kernel_rfl
theorem laidOut : laidOutB Try.prog = true := by kernel_rfl

set_option maxRecDepth 100000 in
set_option maxHeartbeats 12800000 in
theorem walk (dk0 da0 db0 dc0 : Int) (wk0 : (Lit.int .i64 dk0).wf = true) (wa0 : (Lit.int .i64 da0).wf = true) (wb0 : (Lit.int .i64 db0).wf = true) (wc0 : (Lit.int .i64 dc0).wf = true) (w : World) :
    Calls Try.prog 9 #[.agg #[.int .i64 dk0, .int .i64 da0, .int .i64 db0, .int .i64 dc0]] w fun e w' => e = .returned (.bool true) ∧ Below w.heap.size w w' := by
  obtain ⟨r, hr⟩ : ∃ r, fValidDeed dk0 da0 db0 dc0 = r := ⟨_, rfl⟩
  have HR := Lib.hid hr
  clear hr
  go_enter Try.func9, Try.ntmps9
  have h0 := G1.start w [.int .i64 dk0, .int .i64 da0, .int .i64 db0, .int .i64 dc0] 61
  have xx0k0 : _ := h0.x.cell 0 _ rfl
  have xx1k0 : _ := h0.x.cell 1 _ rfl
  have xx2k0 : _ := h0.x.cell 2 _ rfl
  have xx3k0 : _ := h0.x.cell 3 _ rfl
  go_wp2_with fail
  refine (toDeed_any dk0 da0 db0 dc0 _).mono ?_
  rintro e w1 ⟨rfl, hb⟩
  have h1 := h0.next hb
  have xx0k1 : _ := h1.x.cell 0 _ rfl
  have xx1k1 : _ := h1.x.cell 1 _ rfl
  have xx2k1 : _ := h1.x.cell 2 _ rfl
  have xx3k1 : _ := h1.x.cell 3 _ rfl
  have Z1 := Lib.hid h1.z
  clear hb h0 xx0k0 xx1k0 xx2k0 xx3k0
  go_wp2_with fail
  refine (specValidDeed_any dk0 da0 db0 dc0 _).mono ?_
  rw [HR.out]
  rintro e w2 ⟨rfl, hb⟩
  have h2 := h1.next hb
  have xx0k2 : _ := h2.x.cell 0 _ rfl
  have xx1k2 : _ := h2.x.cell 1 _ rfl
  have xx2k2 : _ := h2.x.cell 2 _ rfl
  have xx3k2 : _ := h2.x.cell 3 _ rfl
  have Z2 := Lib.hid hb.size
  clear hb h1 xx0k1 xx1k1 xx2k1 xx3k1
  go_wp2_with fail
  refine (toDeed_any dk0 da0 db0 dc0 _).mono ?_
  rintro e w3 ⟨rfl, hb⟩
  have h3 := h2.next hb
  have xx0k3 : _ := h3.x.cell 0 _ rfl
  have xx1k3 : _ := h3.x.cell 1 _ rfl
  have xx2k3 : _ := h3.x.cell 2 _ rfl
  have xx3k3 : _ := h3.x.cell 3 _ rfl
  have Z3 := Lib.hid hb.size
  clear hb h2 xx0k2 xx1k2 xx2k2 xx3k2
  go_wp2_with fail
  refine (implValidDeed_any dk0 da0 db0 dc0 _).mono ?_
  rw [HR.out]
  rintro e w4 ⟨rfl, hb⟩
  have h4 := h3.next hb
  have xx0k4 : _ := h4.x.cell 0 _ rfl
  have xx1k4 : _ := h4.x.cell 1 _ rfl
  have xx2k4 : _ := h4.x.cell 2 _ rfl
  have xx3k4 : _ := h4.x.cell 3 _ rfl
  have Z4 := Lib.hid hb.size
  clear hb h3 xx0k3 xx1k3 xx2k3 xx3k3
  go_wp2_with fail
  go_ret
  exact ⟨rfl, h4.b⟩

set_option maxRecDepth 100000 in
theorem lifted (os : Os) (started : os.Started) (H : Type) (enc : TypeId × Value → H) :
    ReturnsInHanded {} Try.checked os 9 .any (Rows.fnExactValidDeedSpec.pre6 enc Try.prog Try.f9 Rows.fnExactValidDeedRow.domain false) (Rows.fnExactValidDeedSpec.post enc Try.prog Try.f9 false true false false) := by
  refine returnsInHanded_of_change (C := Try.checked) own started (by kernel_rfl) Try.func9
    (ChangeSpec.witness6 (enc := enc) (C := Try.checked) false ⟨#[], #[.agg #[.int .i64 0, .int .i64 0, .int .i64 0, .int .i64 0]], []⟩ 8 (by kernel_rfl) (by kernel_rfl) (by kernel_rfl) (by kernel_rfl)) ?_
  intro W base args ds gs before hval0 hW hcnd _
  have hval : ∀ (j : Nat) t v, Try.f9.params[j]? = some t → args[j]? = some v → Value.okWide Try.prog W .any base t v := hval0
  have hW' := hW
  obtain ⟨p, q, hA0, hV, rfl, hfz, hnd⟩ := hW
  have hA : DataW.TrodAll enc Try.prog W 0 (fun _ => true) true Try.f9.params.toList args.toList ds p := hA0
  rw [Try.params9] at hA hval
  obtain ⟨v0, vs0, dd0, ds0, pp0, qq0, hargs, rfl, rfl, h0, r0⟩ := trodAll_cons hA
  obtain ⟨rfl, rfl, rfl⟩ := trodAll_nil r0
  obtain rfl : args = #[v0] := by cases args; simp_all
  obtain ⟨rfl, rfl⟩ := trodVars_none hV
  have k0 := h0
  have lt0 : ∀ x ∈ pp0, x.block < W.heap.size := by obtain ⟨m, hm⟩ := k0; exact DataW.trod_lt m _ _ _ hm
  obtain ⟨dk0, da0, db0, dc0, rfl, wk0, wa0, wb0, wc0⟩ := deed_open (hval 0 61 v0 rfl rfl) h0
  clear hA0 hval0
  refine (walk dk0 da0 db0 dc0 wk0 wa0 wb0 wc0 W).mono fun e W' ⟨he, bel⟩ => ?_
  subst he
  exact ⟨_, rfl, _, _, _, [], _, [], hW', trodAll_mk1 (shut_bool Try.underlying4 _), (trodAll_cons_mk (Below.trod laidOut (by kernel_rfl) (of_decide_eq_true (by kernel_rfl)) k0 bel lt0) trodAll_mk0), rfl, bel.frame _, fun h => by cases h⟩

theorem over : Rows.fnExactValidDeedRow.holds Try.pinned (OpenSpec.ofChange Rows.fnExactValidDeedSpec) :=
  OpenClaim.holds_of_wide 9 Try.f9 rfl rfl rfl rfl rfl rfl rfl ⟨rfl, rfl, rfl, rfl, rfl⟩ rfl rfl rfl rfl rfl (by kernel_rfl) Try.func9 (by kernel_rfl)
    (of_decide_eq_true (by kernel_rfl)) (by unfold Func.isWrapper; first | (rw [if_pos (by decide +kernel)]; kernel_rfl) | (rw [if_neg (by decide +kernel)]; exact ⟨rfl, rfl⟩))
    (fun os started H enc _ => lifted os started H enc)

theorem proved : Rows.FnExactValidDeedSaid :=
  over
#print axioms proved
end Go.Proofs.Ytljaabmemjehpaa.fnExactValidDeed
