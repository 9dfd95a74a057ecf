/- FnExactDualBasis: for every input the law returns true, and every argument reads afterwards as it read before. No condition. -/
import Derived.Test.YtlchelaohiojiaaDoorRows
import Derived.WalkKit
import Derived.ProofKit
import Derived.OpenShut
import Derived.ChangeOld
import Derived.Below
import Derived.Lib.SmallJoins
import Derived.Test.YtlchelaohiojiaaDoorDualI
import Derived.Test.YtlchelaohiojiaaDoorMtRes
import Derived.Test.YtlchelaohiojiaaDoorArg
import Derived.Test.YtlchelaohiojiaaDoorToField
import Derived.Test.YtlchelaohiojiaaDoorThird
import Derived.Test.YtlchelaohiojiaaDoorRow
import Derived.Test.YtlchelaohiojiaaDoorRes
import Derived.Test.YtlchelaohiojiaaDoorLaid64
import Derived.Test.YtlchelaohiojiaaDoorTie
import Derived.Test.YtlchelaohiojiaaDoorCards
import Derived.SevenTiedAt
namespace Go.Proofs.YtlchelaohiojiaaDoor.fnExactDualBasis
open Go.ChangeShapes Go.WideShapes Go.ChangeAt Go.RowKit Go.Joins
set_option linter.unusedVariables false

theorem own : ownKnob Tryd.prog.godebug = none := by kernel_rfl
theorem laidOut : laidOutB Tryd.prog = true := by kernel_rfl
theorem cellsField : Tryd.prog.cellsOf 44 = 2 := by kernel_rfl

theorem fat_chg {w W W' : World} {d p : Int} {B T : Nat} (h : FAt w d p W) (hb : Chg B T W W') (hq : w.heap.size < B) : FAt w d p W' := by
  have hg : W'.heap[w.heap.size]? = W.heap[w.heap.size]? := hb.block _ (by have := h.z; omega) (.inl hq)
  exact ⟨Chg.below h.b (by have := h.z; omega) hb (by omega), Nat.le_trans h.z hb.size, (World.cell?_of_block (w := W) (a := ⟨w.heap.size, 0, none⟩) hg).trans h.c0, (World.cell?_of_block (w := W) (a := ⟨w.heap.size, 1, none⟩) hg).trans h.c1⟩
set_option maxHeartbeats 6400000 in
theorem walk (d0 p0 : Int) (wd0 : (Lit.int .i64 d0).wf = true) (wp0 : (Lit.int .i64 p0).wf = true) (a1 : Option Addr) (n1 cap1 : Nat) (z1 : List Int) (w : World) (hT : Tab64 w) (h1A : Arg w a1 n1 z1) :
    Calls Tryd.prog 4 #[.agg #[.int .i64 d0, .int .i64 p0], .slice a1 n1 cap1] w fun e w' => e = .returned (.bool true) ∧ Below w.heap.size w w' := by
  obtain ⟨hl, hh⟩ := bounds_i64 wp0
  have HT := Lib.hid hT
  clear hT
  have big1 := h1A.big
  by_cases hn1 : n1 ≤ 1048576
  rotate_left
  ·
    go_enter Tryd.func4, Tryd.ntmps4
    go_wp2_with fail
    go_ret
    exact ⟨rfl, below_alloc1 w _⟩
  obtain ⟨r, hr⟩ : ∃ r, fDualBasis d0 p0 z1 = r := ⟨_, rfl⟩
  have HR := Lib.hid hr
  clear hr
  obtain ⟨r1, r2⟩ := r
  have l1 := h1A.len
  go_enter Tryd.func4, Tryd.ntmps4
  have h0 := FAt.start w d0 p0 44
  have y0 := h0.c0; have x0 := h0.c1
  go_wp2_with fail
  refine (toField_any _ _ _).mono ?_
  rintro e w1 ⟨rfl, hb⟩
  have h1 := h0.next hb; have y1 := h1.c0; have x1 := h1.c1
  have Z1 := Lib.hid h1.z
  clear hb h0 y0 x0
  go_wp2_with fail
  refine (toInt64S_any a1 n1 cap1 z1 _ (h1A.from h1.b) hn1).mono ?_
  rintro e w2 ⟨bs1, rfl, ges1, hb, Ms1⟩
  have h2 := h1.next hb; have y2 := h2.c0; have x2 := h2.c1
  have Z2 := Lib.hid hb.size
  clear hb h1 y1 x1
  have Rs1 := Ms1.res (cap := n1) ges1
  clear ges1
  go_wp2_with fail
  have S := specDualBasis_any d0 p0 bs1 n1 n1 z1 _ Ms1
  rw [HR.out] at S
  try dsimp only at S
  refine S.mono ?_
  clear S
  rintro e w3 ⟨vw, rfl, hb, Rw⟩
  have h3 := h2.next hb; have y3 := h3.c0; have x3 := h3.c1
  have Z3 := Lib.hid hb.size
  replace Ms1 := Ms1.below hb
  replace Rs1 := Rs1.next hb
  clear hb h2 y2 x2
  clear Ms1
  clear Rs1
  go_wp2_with fail
  refine (toInt64S_any a1 n1 cap1 z1 _ (h1A.from h3.b) hn1).mono ?_
  rintro e w4 ⟨bx1, rfl, gex1, hb, Mx1⟩
  have h4 := h3.next hb; have y4 := h4.c0; have x4 := h4.c1
  have Z4 := Lib.hid hb.size
  replace Rw := Rw.next hb
  clear hb h3 y3 x3
  have Rx1 := Mx1.res (cap := n1) gex1
  clear gex1
  go_wp2_with fail
  refine (toField_any _ _ _).mono ?_
  rintro e w5 ⟨rfl, hb⟩
  have h5 := h4.next hb; have y5 := h5.c0; have x5 := h5.c1
  have Z5 := Lib.hid hb.size
  replace Rw := Rw.next hb
  replace Mx1 := Mx1.below hb
  replace Rx1 := Rx1.next hb
  clear hb h4 y4 x4
  go_wp2_with fail
  have S := implDualBasis_any d0 p0 bx1 n1 n1 z1 _ hl hh Mx1 (HT.out.below h5.b)
  rw [HR.out] at S
  try dsimp only at S
  refine S.mono ?_
  clear S
  rintro e w6 ⟨vg, rfl, hb, Rg⟩
  have h6 := h5.next hb; have y6 := h6.c0; have x6 := h6.c1
  have Z6 := Lib.hid hb.size
  replace Rw := Rw.next hb
  replace Mx1 := Mx1.below hb
  replace Rx1 := Rx1.next hb
  clear hb h5 y5 x5
  clear Mx1
  go_wp2_with fail
  refine (eq_res Rg Rw).mono ?_
  rintro e w7 ⟨rfl, hb⟩
  have h7 := h6.next hb; have y7 := h7.c0; have x7 := h7.c1
  have Z7 := Lib.hid hb.size
  replace Rw := Rw.next hb
  replace Rx1 := Rx1.next hb
  replace Rg := Rg.next hb
  clear hb h6 y6 x6
  go_wp2_with fail
  refine (toInt64S_any a1 n1 cap1 z1 _ (h1A.from h7.b) hn1).mono ?_
  rintro e w8 ⟨by1, rfl, gey1, hb, My1⟩
  have h8 := h7.next hb; have y8 := h8.c0; have x8 := h8.c1
  have Z8 := Lib.hid hb.size
  replace Rw := Rw.next hb
  replace Rx1 := Rx1.next hb
  replace Rg := Rg.next hb
  clear hb h7 y7 x7
  have Ry1 := My1.res (cap := n1) gey1
  clear gey1
  clear My1
  go_wp2_with fail
  refine (eq_res Rx1 Ry1).mono ?_
  rintro e w9 ⟨rfl, hb⟩
  have h9 := h8.next hb; have y9 := h9.c0; have x9 := h9.c1
  have Z9 := Lib.hid hb.size
  replace Rw := Rw.next hb
  replace Rx1 := Rx1.next hb
  replace Rg := Rg.next hb
  replace Ry1 := Ry1.next hb
  clear hb h8 y8 x8
  clear Ry1
  have l8 := Rg.small
  go_wp2_with fail
  refine (mark_res Rx1 (1) (by omega) (by omega)).mono ?_
  rintro e w10 ⟨rfl, hC, HM⟩
  have h10 := fat_chg h9 hC (by have := Z1.out; have := Z1.out; have := Z2.out; have := Z3.out; have := Z4.out; have := Z5.out; have := Z6.out; have := Z7.out; have := Z8.out; have := Z9.out; omega); have y10 := h10.c0; have x10 := h10.c1
  have Z10 := Lib.hid hC.size
  replace Rw := Rw.chg hC (by have := Z1.out; have := Z2.out; have := Z3.out; have := Z4.out; have := Z5.out; have := Z6.out; have := Z7.out; have := Z8.out; have := Z9.out; omega)
  replace Rg := Rg.chg hC (by have := Z1.out; have := Z2.out; have := Z3.out; have := Z4.out; have := Z5.out; have := Z6.out; have := Z7.out; have := Z8.out; have := Z9.out; omega)
  clear hC h9 y9 x9 Rx1
  clear HM
  go_wp2_with fail
  refine (eq_res Rg Rw).mono ?_
  rintro e w11 ⟨rfl, hb⟩
  have h11 := h10.next hb; have y11 := h11.c0; have x11 := h11.c1
  have Z11 := Lib.hid hb.size
  replace Rw := Rw.next hb
  replace Rg := Rg.next hb
  clear hb h10 y10 x10
  go_wp2_with fail
  refine (mark_res Rg (1) (by omega) (by omega)).mono ?_
  rintro e w12 ⟨rfl, hC, HM⟩
  have h12 := fat_chg h11 hC (by have := Z1.out; have := Z1.out; have := Z2.out; have := Z3.out; have := Z4.out; have := Z5.out; have := Z6.out; have := Z7.out; have := Z8.out; have := Z9.out; have := Z10.out; have := Z11.out; omega); have y12 := h12.c0; have x12 := h12.c1
  have Z12 := Lib.hid hC.size
  replace Rw := Rw.chg hC (by have := Z1.out; have := Z2.out; have := Z3.out; have := Z4.out; have := Z5.out; have := Z6.out; have := Z7.out; have := Z8.out; have := Z9.out; have := Z10.out; have := Z11.out; omega)
  clear hC h11 y11 x11 Rg
  go_wp2_with fail
  refine (held_res (1) (r1.length) HM (by omega) (by omega)).mono ?_
  rintro e w' ⟨rfl, rfl⟩
  go_wp2_with fail
  refine (toField_any _ _ _).mono ?_
  rintro e w13 ⟨rfl, hb⟩
  have h13 := h12.next hb; have y13 := h13.c0; have x13 := h13.c1
  have Z13 := Lib.hid hb.size
  replace Rw := Rw.next hb
  replace HM := HM.next hb
  clear hb h12 y12 x12
  go_wp2_with fail
  refine (toInt64S_any a1 n1 cap1 z1 _ (h1A.from h13.b) hn1).mono ?_
  rintro e w14 ⟨bt1, rfl, get1, hb, Mt1⟩
  have h14 := h13.next hb; have y14 := h14.c0; have x14 := h14.c1
  have Z14 := Lib.hid hb.size
  replace Rw := Rw.next hb
  replace HM := HM.next hb
  clear hb h13 y13 x13
  have Rt1 := Mt1.res (cap := n1) get1
  clear get1
  go_wp2_with fail
  have S := implDualBasis_any d0 p0 bt1 n1 n1 z1 _ hl hh Mt1 (HT.out.below h14.b)
  rw [HR.out] at S
  try dsimp only at S
  refine S.mono ?_
  clear S
  rintro e w15 ⟨vh, rfl, hb, Rh⟩
  have h15 := h14.next hb; have y15 := h15.c0; have x15 := h15.c1
  have Z15 := Lib.hid hb.size
  replace Rw := Rw.next hb
  replace HM := HM.next hb
  replace Mt1 := Mt1.below hb
  replace Rt1 := Rt1.next hb
  clear hb h14 y14 x14
  clear Mt1
  clear Rt1
  go_wp2_with fail
  refine (eq_res Rh Rw).mono ?_
  rintro e w16 ⟨rfl, hb⟩
  have h16 := h15.next hb; have y16 := h16.c0; have x16 := h16.c1
  have Z16 := Lib.hid hb.size
  replace Rw := Rw.next hb
  replace HM := HM.next hb
  replace Rh := Rh.next hb
  clear hb h15 y15 x15
  go_wp2_with fail
  refine (held_res (1) (r1.length) HM (by omega) (by omega)).mono ?_
  rintro e w' ⟨rfl, rfl⟩
  go_wp2_with fail
  go_ret
  exact ⟨rfl, h16.b⟩

set_option maxRecDepth 100000 in
theorem lifted (os : Os) (started : os.Started) (H : Type) (enc : TypeId × Value → H) :
    ReturnsInHanded {} Tryd.checked os 4 .any (fun w args => (Rows.fnExactDualBasisSpec.pre enc Tryd.prog Tryd.f4 [] false w args ∧ laidMetH Tryd.prog listed64 w) ∧ sizedMet enc Tryd.prog Tryd.f4 (OpenSpec.ofChange Rows.fnExactDualBasisSpec) false w args)
      (Rows.fnExactDualBasisSpec.post enc Tryd.prog Tryd.f4 false true false false) := by
  refine returnsInHanded_of_change_and (C := Tryd.checked) (X := fun w _ => laidMetH Tryd.prog listed64 w) (fun _ _ _ hh h => h.of_heap hh) own started (by kernel_rfl) Tryd.func4
    (ChangeSpec.witness_shaped (enc := enc) (C := Tryd.checked) (os := os) (X := fun w _ => laidMetH Tryd.prog listed64 w) false (World.doorLaid Tryd.prog 400 os) #[.agg #[.int .i64 0, .int .i64 0], .slice none 0 0] 8 rfl (World.shaped_of_RefB (by kernel_rfl) (by kernel_rfl)) (by kernel_rfl) (by kernel_rfl) (by kernel_rfl) (door_met64 os _)) ?_
  intro W base args ds gs before hval0 hW _ _ hL _
  have hval : ∀ (j : Nat) t v, Tryd.f4.params[j]? = some t → args[j]? = some v → Value.okWide Tryd.prog W .any base t v := hval0
  have hT := tab64_of_laid hL
  have hW' := hW
  obtain ⟨p, q, hA0, hV, rfl, hfz, hnd⟩ := hW
  have hA : DataW.TrodAll enc Tryd.prog W 0 (fun _ => true) true Tryd.f4.params.toList args.toList ds p := hA0
  rw [Tryd.params4] at hA hval
  obtain ⟨v0, vs0, dd0, ds0, pp0, qq0, hargs, rfl, rfl, h0, r0⟩ := trodAll_cons hA
  obtain ⟨v1, vs1, dd1, ds1, pp1, qq1, rfl, rfl, rfl, h1, r1⟩ := trodAll_cons r0
  obtain ⟨rfl, rfl, rfl⟩ := trodAll_nil r1
  obtain rfl : args = #[v0, v1] := by cases args; simp_all
  obtain ⟨rfl, rfl⟩ := trodVars_none hV
  have k0 := h0
  have lt0 : ∀ x ∈ pp0, x.block < W.heap.size := by obtain ⟨m, hm⟩ := k0; exact DataW.trod_lt m _ _ _ hm
  obtain ⟨c0, e0, y0, z0, m0, rfl, rfl, rfl, hy0, hz0⟩ := open_agg2 Tryd.underlying44 (by kernel_rfl) cellsField (hval 0 44 v0 rfl rfl) h0
  obtain ⟨d0, ed0, rfl, wd0⟩ := DataW.trod_int Tryd.underlying2 hy0
  obtain ⟨p0, ep0, rfl, wp0⟩ := DataW.trod_int Tryd.underlying2 hz0
  simp at ed0 ep0; subst ed0 ep0
  have k1 := h1
  have lt1 : ∀ x ∈ pp1, x.block < W.heap.size := by obtain ⟨m, hm⟩ := k1; exact DataW.trod_lt m _ _ _ hm
  obtain ⟨a1, n1, cap1, rfl⟩ := okWide_slice Tryd.underlying28 (hval 1 28 v1 rfl rfl)
  obtain ⟨z1, w1⟩ : ∃ z, Arg W a1 n1 z := by
    obtain ⟨fuel, hf⟩ := h1
    obtain ⟨A, k, c, z, e, w⟩ := arg_open (v := .slice a1 n1 cap1) hf
    injection e with e1 e2 e3
    subst e1 e2 e3
    exact ⟨z, w⟩
  clear hA0 hval0
  refine (walk d0 p0 wd0 wp0 a1 n1 cap1 z1 W hT w1).mono fun e W' ⟨he, bel⟩ => ?_
  subst he
  exact ⟨_, rfl, _, _, _, [], _, [], hW', trodAll_mk1 (shut_bool Tryd.underlying4 _), (trodAll_cons_mk (Below.trod laidOut (by kernel_rfl) (of_decide_eq_true (by kernel_rfl)) k0 bel lt0) (trodAll_cons_mk (Below.trod laidOut (by kernel_rfl) (of_decide_eq_true (by kernel_rfl)) k1 bel lt1) trodAll_mk0)), rfl, bel.frame _, fun h => by cases h⟩

theorem over : Rows.fnExactDualBasisRow.holds Tryd.pinned (OpenSpec.ofChange Rows.fnExactDualBasisSpec) :=
  OpenClaim.holds_of_wide 4 Tryd.f4 rfl rfl rfl rfl rfl rfl rfl ⟨rfl, rfl, rfl, rfl, rfl⟩ rfl rfl rfl rfl rfl (by kernel_rfl) Tryd.func4 (by kernel_rfl)
    (of_decide_eq_true (by kernel_rfl)) (by unfold Func.isWrapper; first | (rw [if_pos (by decide +kernel)]; kernel_rfl) | (rw [if_neg (by decide +kernel)]; exact ⟨rfl, rfl⟩))
    (fun os started H enc _ => lifted os started H enc)

theorem proved : Rows.FnExactDualBasisCardSaid :=
  Claim7.holds_tied_plain_at .later [] [.data] true Rows.fnExactDualBasisCard.stood.harness false
    over (fun _ h => by cases h) (by kernel_rfl) (fun _ h => by cases h) fnExactDualBasis_row_tie rfl ⟨rfl, rfl⟩ (by kernel_rfl) rfl
    (fun f fn hf hfn => by
      obtain rfl : f = 4 := Option.some.inj ((show Tryd.prog.funcNamed "loop.example/g01144/laws.FnExactDualBasis" = some 4 by kernel_rfl).symm.trans hf) |>.symm
      obtain rfl : fn = Tryd.f4 := (Option.some.inj (Tryd.func4.symm.trans hfn)).symm
      exact ⟨by kernel_rfl, fun j t ht => by
        rw [Tryd.params4] at ht
        have hm : t ∈ [44, 28] := by simpa using Array.mem_of_getElem? ht
        have hall : ([44, 28].all fun u => !Tryd.prog.wantsStandIn u) = true := by kernel_rfl
        exact (show Tryd.prog.wantsStandIn t = false by simpa using List.all_eq_true.1 hall t hm)⟩)
    (by kernel_rfl)
#print axioms proved
end Go.Proofs.YtlchelaohiojiaaDoor.fnExactDualBasis
