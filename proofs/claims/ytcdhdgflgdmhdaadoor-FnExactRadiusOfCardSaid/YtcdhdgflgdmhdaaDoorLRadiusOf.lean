/- FnExactRadiusOf: for every input the law returns true, and every argument reads afterwards as it read before. No condition. -/
import Derived.Test.YtcdhdgflgdmhdaaDoorRows
import Derived.WalkKit
import Derived.ProofKit
import Derived.OpenShut
import Derived.ChangeOld
import Derived.Below
import Derived.Lib.SmallJoins
import Derived.Test.YtcdhdgflgdmhdaaDoorRadiusOf
import Derived.Test.YtcdhdgflgdmhdaaDoorGabArg
import Derived.Test.YtcdhdgflgdmhdaaDoorMtRes
import Derived.Test.YtcdhdgflgdmhdaaDoorArg
import Derived.Test.YtcdhdgflgdmhdaaDoorToField
import Derived.Test.YtcdhdgflgdmhdaaDoorThird
import Derived.Test.YtcdhdgflgdmhdaaDoorRow
import Derived.Test.YtcdhdgflgdmhdaaDoorRes
import Derived.Test.YtcdhdgflgdmhdaaDoorStep
import Derived.Test.YtcdhdgflgdmhdaaDoorLaid
import Derived.Test.YtcdhdgflgdmhdaaDoorTie
import Derived.Test.YtcdhdgflgdmhdaaDoorCards
import Derived.SevenTiedAt
namespace Go.Proofs.YtcdhdgflgdmhdaaDoor.fnExactRadiusOf
open Go.ChangeShapes Go.WideShapes Go.ChangeAt Go.RowKit Go.Joins
set_option linter.unusedVariables false

theorem own : ownKnob Tryd.prog.godebug = none := by kernel_rfl
theorem laidOut : laidOutB Tryd.prog = true := by kernel_rfl

set_option maxRecDepth 100000 in
set_option maxHeartbeats 6400000 in
theorem walk (d0 p0 kk0 : Int) (wd0 : (Lit.int .i64 d0).wf = true) (wp0 : (Lit.int .i64 p0).wf = true) (wk0 : (Lit.int .i64 kk0).wf = true) (a0 : Option Addr) (n0 cap0 : Nat) (z0 : List Int) (w : World) (hT : Tab w) (h0A : Arg w a0 n0 z0) :
    Calls Tryd.prog 4 #[.agg (gabC d0 p0 (.slice a0 n0 cap0) kk0)] w fun e w' => e = .returned (.bool true) ∧ Below w.heap.size w w' := by
  obtain ⟨hl, hh⟩ := bounds_i64 wp0
  have HT := Lib.hid hT
  clear hT
  have big0 := h0A.big
  have l0 := h0A.len
  by_cases hn0 : n0 ≤ 1048576
  rotate_left
  ·
    go_enter Tryd.func4, Tryd.ntmps4
    have h0 := G4.start w d0 p0 (.slice a0 n0 cap0) kk0 26
    have x0 := h0.x.c0; have y0 := h0.x.c1; have u0 := h0.x.c2; have v0 := h0.x.c3
    go_wp2_with fail
    refine (szGab_no d0 p0 kk0 a0 n0 cap0 (by omega) 1048576 (by omega) (by omega) (by omega) _).mono ?_
    rintro e w1 ⟨rfl, hb⟩
    have hb1 := (h0.next hb).b
    clear hb
    go_wp2_with fail
    go_ret
    exact ⟨rfl, hb1⟩
  obtain ⟨r, hr⟩ : ∃ r, fRadiusOf d0 p0 z0 kk0 = r := ⟨_, rfl⟩
  have HR := Lib.hid hr
  clear hr
  obtain ⟨r1, r2⟩ := r
  go_enter Tryd.func4, Tryd.ntmps4
  have h0 := G4.start w d0 p0 (.slice a0 n0 cap0) kk0 26
  have x0 := h0.x.c0; have y0 := h0.x.c1; have u0 := h0.x.c2; have v0 := h0.x.c3
  go_wp2_with fail
  refine (szGab_ok d0 p0 kk0 a0 n0 cap0 1048576 (by omega) (by omega) _).mono ?_
  rintro e w1 ⟨rfl, hb⟩
  have h1 := h0.next hb
  have x1 := h1.x.c0; have y1 := h1.x.c1; have u1 := h1.x.c2; have v1 := h1.x.c3
  have Z1 := Lib.hid h1.z
  clear hb h0 x0 y0 u0 v0
  go_wp2_with fail
  refine (toGab_any d0 p0 kk0 a0 n0 cap0 z0 _ (h0A.from h1.b) hn0).mono ?_
  rintro e w2 ⟨bs, rfl, ges, hb, Ms⟩
  have h2 := h1.next hb
  have x2 := h2.x.c0; have y2 := h2.x.c1; have u2 := h2.x.c2; have v2 := h2.x.c3
  have Z2 := Lib.hid hb.size
  clear hb h1 x1 y1 u1 v1
  have Rs := Ms.res (cap := n0) ges
  clear ges
  go_wp2_with fail
  have S := specRadiusOf_any d0 p0 kk0 bs n0 n0 z0 _ Ms
  rw [HR.out] at S
  try dsimp only at S
  refine S.mono ?_
  clear S
  rintro e w3 ⟨rfl, hb⟩
  have h3 := h2.next hb
  have x3 := h3.x.c0; have y3 := h3.x.c1; have u3 := h3.x.c2; have v3 := h3.x.c3
  have Z3 := Lib.hid hb.size
  replace Ms := Ms.below hb
  replace Rs := Rs.next hb
  clear hb h2 x2 y2 u2 v2
  clear Ms
  clear Rs
  go_wp2_with fail
  refine (toGab_any d0 p0 kk0 a0 n0 cap0 z0 _ (h0A.from h3.b) hn0).mono ?_
  rintro e w4 ⟨bx, rfl, gex, hb, Mx⟩
  have h4 := h3.next hb
  have x4 := h4.x.c0; have y4 := h4.x.c1; have u4 := h4.x.c2; have v4 := h4.x.c3
  have Z4 := Lib.hid hb.size
  clear hb h3 x3 y3 u3 v3
  have Rx := Mx.res (cap := n0) gex
  clear gex
  have hb := below_alloc1 w4 (.cells (gabC d0 p0 (.slice (some ⟨bx, 0, none⟩) n0 n0) kk0) 31)
  have nBx := Box4.one w4 (.int .i64 d0) (.int .i64 p0) (.slice (some ⟨bx, 0, none⟩) n0 n0) (.int .i64 kk0) 31
  have h5 := h4.next hb
  have x5 := h5.x.c0; have y5 := h5.x.c1; have u5 := h5.x.c2; have v5 := h5.x.c3
  have Z5 := Lib.hid hb.size
  replace Mx := Mx.below hb
  replace Rx := Rx.next hb
  clear hb h4 x4 y4 u4 v4
  have Bx := nBx; clear nBx
  have q0Bx : _ := Bx.c0
  have q1Bx : _ := Bx.c1
  have q2Bx : _ := Bx.c2
  have q3Bx : _ := Bx.c3
  go_wp2_with fail
  have S := implRadiusOf_any d0 p0 kk0 bx n0 n0 z0 _ hl hh Mx (HT.out.below h5.b)
  rw [HR.out] at S
  try dsimp only at S
  refine S.mono ?_
  clear S
  rintro e w6 ⟨rfl, hb⟩
  have h6 := h5.next hb
  have x6 := h6.x.c0; have y6 := h6.x.c1; have u6 := h6.x.c2; have v6 := h6.x.c3
  have Z6 := Lib.hid hb.size
  replace Mx := Mx.below hb
  replace Rx := Rx.next hb
  replace Bx := Bx.next hb
  replace q0Bx : _ := Bx.c0
  replace q1Bx : _ := Bx.c1
  replace q2Bx : _ := Bx.c2
  replace q3Bx : _ := Bx.c3
  clear hb h5 x5 y5 u5 v5
  clear Mx
  have HD := Lib.hid h6.drew
  have RD := Lib.hid (Rx.next (Below.refl _ w6).drew)
  have BD := Lib.hid (Bx.next (Below.refl _ w6).drew)
  go_wp2_with fail
  go_region_law (go_simp; go_wp2_with (first | (go_at_call 8; refine (toGab_any d0 p0 kk0 a0 n0 cap0 z0 _ (h0A.from HD.out.b) hn0).mono ?_; rintro e v7 ⟨b7, rfl, ge7, hb, M7⟩; have H7 := Lib.hid (HD.out.next hb); have RX := Lib.hid (RD.out.next hb); have BX := Lib.hid (BD.out.next hb); have RY := Lib.hid (M7.res (cap := n0) ge7); have m0 := BX.out.c0; have m1 := BX.out.c1; have m2 := BX.out.c2; have m3 := BX.out.c3; clear hb ge7 M7) | (go_at_call 10; refine (eqGab_res d0 p0 kk0 RX.out RY.out).mono ?_; rintro e v8 ⟨rfl, hb⟩; have H8 := Lib.hid (H7.out.next hb); clear hb)))
  all_goals
    go_wp2_with fail
    go_ret
    exact ⟨rfl, H8.out.b⟩

set_option maxRecDepth 100000 in
theorem lifted (os : Os) (started : os.Started) (H : Type) (enc : TypeId × Value → H) :
    ReturnsInHanded {} Tryd.checked os 4 .any (fun w args => (Rows.fnExactRadiusOfSpec.pre enc Tryd.prog Tryd.f4 [] false w args ∧ laidMetH Tryd.prog listed w) ∧ sizedMet enc Tryd.prog Tryd.f4 (OpenSpec.ofChange Rows.fnExactRadiusOfSpec) false w args)
      (Rows.fnExactRadiusOfSpec.post enc Tryd.prog Tryd.f4 false true false false) := by
  refine returnsInHanded_of_change_and (C := Tryd.checked) (X := fun w _ => laidMetH Tryd.prog listed w) (fun _ _ _ hh h => h.of_heap hh) own started (by kernel_rfl) Tryd.func4
    (ChangeSpec.witness_shaped (enc := enc) (C := Tryd.checked) (os := os) (X := fun w _ => laidMetH Tryd.prog listed w) false (World.doorLaid Tryd.prog 400 os) #[.agg #[.int .i64 0, .int .i64 0, .slice none 0 0, .int .i64 0]] 8 rfl (World.shaped_of_RefB (by kernel_rfl) (by kernel_rfl)) (by kernel_rfl) (by kernel_rfl) (by kernel_rfl) (door_met os _)) ?_
  intro W base args ds gs before hval0 hW _ _ hL _
  have hval : ∀ (j : Nat) t v, Tryd.f4.params[j]? = some t → args[j]? = some v → Value.okWide Tryd.prog W .any base t v := hval0
  have hT := tab_of_laid hL
  have hW' := hW
  obtain ⟨p, q, hA0, hV, rfl, hfz, hnd⟩ := hW
  have hA : DataW.TrodAll enc Tryd.prog W 0 (fun _ => true) true Tryd.f4.params.toList args.toList ds p := hA0
  rw [Tryd.params4] at hA hval
  obtain ⟨v0, vs0, dd0, ds0, pp0, qq0, hargs, rfl, rfl, h0, r0⟩ := trodAll_cons hA
  obtain ⟨rfl, rfl, rfl⟩ := trodAll_nil r0
  obtain rfl : args = #[v0] := by cases args; simp_all
  obtain ⟨rfl, rfl⟩ := trodVars_none hV
  have k0 := h0
  have lt0 : ∀ x ∈ pp0, x.block < W.heap.size := by obtain ⟨m, hm⟩ := k0; exact DataW.trod_lt m _ _ _ hm
  obtain ⟨d0, p0, kk0, a0, n0, cap0, z0, rfl, wd0, wp0, wk0, w0⟩ := gab_open (hval 0 26 v0 rfl rfl) h0
  clear hA0 hval0
  refine (walk d0 p0 kk0 wd0 wp0 wk0 a0 n0 cap0 z0 W hT w0).mono fun e W' ⟨he, bel⟩ => ?_
  subst he
  exact ⟨_, rfl, _, _, _, [], _, [], hW', trodAll_mk1 (shut_bool Tryd.underlying4 _), (trodAll_cons_mk (Below.trod laidOut (by kernel_rfl) (of_decide_eq_true (by kernel_rfl)) k0 bel lt0) trodAll_mk0), rfl, bel.frame _, fun h => by cases h⟩

theorem over : Rows.fnExactRadiusOfRow.holds Tryd.pinned (OpenSpec.ofChange Rows.fnExactRadiusOfSpec) :=
  OpenClaim.holds_of_wide 4 Tryd.f4 rfl rfl rfl rfl rfl rfl rfl ⟨rfl, rfl, rfl, rfl, rfl⟩ rfl rfl rfl rfl rfl (by kernel_rfl) Tryd.func4 (by kernel_rfl)
    (of_decide_eq_true (by kernel_rfl)) (by unfold Func.isWrapper; first | (rw [if_pos (by decide +kernel)]; kernel_rfl) | (rw [if_neg (by decide +kernel)]; exact ⟨rfl, rfl⟩))
    (fun os started H enc _ => lifted os started H enc)

theorem proved : Rows.FnExactRadiusOfCardSaid :=
  Claim7.holds_tied_plain_at .later [] [.data] true Rows.fnExactRadiusOfCard.stood.harness false
    over (fun _ h => by cases h) (by kernel_rfl) (fun _ h => by cases h) fnExactRadiusOf_row_tie rfl ⟨rfl, rfl⟩ (by kernel_rfl) rfl
    (fun f fn hf hfn => by
      obtain rfl : f = 4 := Option.some.inj ((show Tryd.prog.funcNamed "loop.example/g01144/laws.FnExactRadiusOf" = some 4 by kernel_rfl).symm.trans hf) |>.symm
      obtain rfl : fn = Tryd.f4 := (Option.some.inj (Tryd.func4.symm.trans hfn)).symm
      exact ⟨by kernel_rfl, fun j t ht => by
        rw [Tryd.params4] at ht
        have hm : t ∈ [26] := by simpa using Array.mem_of_getElem? ht
        have hall : ([26].all fun u => !Tryd.prog.wantsStandIn u) = true := by kernel_rfl
        exact (show Tryd.prog.wantsStandIn t = false by simpa using List.all_eq_true.1 hall t hm)⟩)
    (by kernel_rfl)
#print axioms proved
end Go.Proofs.YtcdhdgflgdmhdaaDoor.fnExactRadiusOf
