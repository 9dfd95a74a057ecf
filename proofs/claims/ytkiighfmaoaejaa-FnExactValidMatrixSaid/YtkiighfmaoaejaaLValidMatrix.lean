/- FnExactValidMatrix: for every input the law returns true, and every argument reads afterwards as it read before. No condition. -/
import Derived.Test.YtkiighfmaoaejaaRows
import Derived.WalkKit
import Derived.ProofKit
import Derived.OpenShut
import Derived.ChangeOld
import Derived.Below
import Derived.Lib.SmallJoins
import Derived.Test.YtkiighfmaoaejaaValid
import Derived.Test.YtkiighfmaoaejaaRes
import Derived.Test.YtkiighfmaoaejaaArg
namespace Go.Proofs.Ytkiighfmaoaejaa.fnExactValidMatrix
open Go.ChangeShapes Go.WideShapes Go.ChangeAt Go.RowKit Go.Joins
set_option linter.unusedVariables false

theorem own : ownKnob Try.prog.godebug = none := by kernel_rfl
theorem laidOut : laidOutB Try.prog = true := by kernel_rfl
theorem cellsMat : Try.prog.cellsOf 24 = 2 := by kernel_rfl

set_option maxHeartbeats 3200000 in
theorem walk (c0 : Int) (a0 : Option Addr) (n0 cap0 : Nat) (z0 : List Int) (w : World) (h0 : Arg w a0 n0 z0) :
    Calls Try.prog 3 #[.agg #[.int .i64 c0, .slice a0 n0 cap0]] w fun e w' => e = .returned (.bool true) ∧ Below w.heap.size w w' := by
  by_cases hn0 : n0 ≤ 1048576
  rotate_left
  · skip
    go_enter Try.func3, Try.ntmps3
    have hb0 := below_alloc1 w (.cells #[.int .i64 c0, .slice a0 n0 cap0] 24)
    have X0 := Box.one w (.int .i64 c0) (.slice a0 n0 cap0) 24
    have pX0 := X0.c0
    have qX0 := X0.c1
    go_wp2_with fail
    refine (szMatrix_no c0 a0 n0 cap0 h0.big (1048576) (by omega) (by omega) (by omega) _).mono ?_
    rintro e w1 ⟨rfl, hb⟩
    replace X0 := X0.next hb
    replace pX0 : _ := X0.c0
    replace qX0 : _ := X0.c1
    have hb1 := hb0.trans (hb.mono hb0.size)
    have Z1 := Lib.hid hb.size
    clear hb
    go_wp2_with fail
    go_ret
    exact ⟨rfl, hb1⟩
  obtain ⟨r, hr⟩ : ∃ r, okM c0 z0 = r := ⟨_, rfl⟩
  have HR := Lib.hid hr
  clear hr
  go_enter Try.func3, Try.ntmps3
  have hb0 := below_alloc1 w (.cells #[.int .i64 c0, .slice a0 n0 cap0] 24)
  have X0 := Box.one w (.int .i64 c0) (.slice a0 n0 cap0) 24
  have pX0 := X0.c0
  have qX0 := X0.c1
  go_wp2_with fail
  refine (szMatrix_ok c0 a0 n0 cap0 (1048576) (by omega) (by omega) _).mono ?_
  rintro e w1 ⟨rfl, hb⟩
  replace X0 := X0.next hb
  replace pX0 : _ := X0.c0
  replace qX0 : _ := X0.c1
  have hb1 := hb0.trans (hb.mono hb0.size)
  have Z1 := Lib.hid hb.size
  clear hb
  go_wp2_with fail
  refine (toMatrix_any c0 a0 n0 cap0 z0 _ (h0.from hb1) (by omega)).mono ?_
  rintro e w2 ⟨bs0, rfl, ges0, hb, Ms0⟩
  replace X0 := X0.next hb
  replace pX0 : _ := X0.c0
  replace qX0 : _ := X0.c1
  have hb2 := hb1.trans (hb.mono hb1.size)
  have Z2 := Lib.hid hb.size
  clear hb
  have Rs0 := Ms0.res (cap := n0) ges0
  go_wp2_with fail
  have S := specValidMatrix_any c0 bs0 n0 n0 z0 _ Ms0
  rw [HR.out] at S
  try dsimp only at S
  refine S.mono ?_
  clear S
  rintro e w3 ⟨rfl, hb⟩
  replace X0 := X0.next hb
  replace pX0 : _ := X0.c0
  replace qX0 : _ := X0.c1
  replace Ms0 := Ms0.below hb
  replace Rs0 := Rs0.next hb
  have hb3 := hb2.trans (hb.mono hb2.size)
  have Z3 := Lib.hid hb.size
  clear hb
  go_wp2_with fail
  refine (toMatrix_any c0 a0 n0 cap0 z0 _ (h0.from hb3) (by omega)).mono ?_
  rintro e w4 ⟨bx0, rfl, gex0, hb, Mx0⟩
  replace X0 := X0.next hb
  replace pX0 : _ := X0.c0
  replace qX0 : _ := X0.c1
  have hb4 := hb3.trans (hb.mono hb3.size)
  have Z4 := Lib.hid hb.size
  clear hb
  have Rx0 := Mx0.res (cap := n0) gex0
  have hb := below_alloc1 w4 (.cells #[.int .i64 c0, .slice (some ⟨bx0, 0, none⟩) n0 n0] 27)
  replace X0 := X0.next hb
  replace pX0 : _ := X0.c0
  replace qX0 : _ := X0.c1
  replace Mx0 := Mx0.below hb
  replace Rx0 := Rx0.next hb
  have hc4 := hb4.trans (hb.mono hb4.size)
  clear hb
  have Bx0 := Box.one w4 (.int .i64 c0) (.slice (some ⟨bx0, 0, none⟩) n0 n0) 27
  have pBx0 := Bx0.c0
  have qBx0 := Bx0.c1
  go_wp2_with fail
  have S := implValidMatrix_any c0 bx0 n0 n0 z0 _ Mx0
  rw [HR.out] at S
  try dsimp only at S
  refine S.mono ?_
  clear S
  rintro e w5 ⟨rfl, hb⟩
  replace X0 := X0.next hb
  replace pX0 : _ := X0.c0
  replace qX0 : _ := X0.c1
  replace Mx0 := Mx0.below hb
  replace Rx0 := Rx0.next hb
  replace Bx0 := Bx0.next hb
  replace pBx0 : _ := Bx0.c0
  replace qBx0 : _ := Bx0.c1
  have hb5 := hc4.trans (hb.mono hc4.size)
  have Z5 := Lib.hid hb.size
  clear hb
  go_wp2_with fail
  have HX := Lib.hid X0
  have HBx := Lib.hid Bx0
  have K : (Below w.heap.size w w5 ∧ Box w5 w.heap.size (.int .i64 c0) (.slice a0 n0 cap0) ∧ Box w5 w4.heap.size (.int .i64 c0) (.slice (some ⟨bx0, 0, none⟩) n0 n0) ∧ Res w5 w3.heap.size w4.heap.size (.slice (some ⟨bx0, 0, none⟩) n0 n0) z0) := ⟨hb5, X0, Bx0, Rx0⟩
  obtain ⟨Φ, hΦ⟩ : ∃ Φ : World → Prop, Φ = fun W => (Below w.heap.size w W ∧ Box W w.heap.size (.int .i64 c0) (.slice a0 n0 cap0) ∧ Box W w4.heap.size (.int .i64 c0) (.slice (some ⟨bx0, 0, none⟩) n0 n0) ∧ Res W w3.heap.size w4.heap.size (.slice (some ⟨bx0, 0, none⟩) n0 n0) z0) := ⟨_, rfl⟩
  have F5 : Φ w5 := by rw [hΦ]; exact K
  have SΦ : ∀ W W' : World, Φ W → Below W.heap.size W W' → Φ W' := by
    intro W W' h hb
    rw [hΦ] at h ⊢
    exact ⟨h.1.trans (hb.mono h.1.size), h.2.1.next hb, h.2.2.1.next hb, h.2.2.2.next hb⟩
  have cX : ∀ W, Φ W → Box W w.heap.size (.int .i64 c0) (.slice a0 n0 cap0) := fun W h => by rw [hΦ] at h; exact h.2.1
  have cBx : ∀ W, Φ W → Box W w4.heap.size (.int .i64 c0) (.slice (some ⟨bx0, 0, none⟩) n0 n0) := fun W h => by rw [hΦ] at h; exact h.2.2.1
  have cR : ∀ W, Φ W → Res W w3.heap.size w4.heap.size (.slice (some ⟨bx0, 0, none⟩) n0 n0) z0 := fun W h => by rw [hΦ] at h; exact h.2.2.2
  have cB : ∀ W, Φ W → Below w.heap.size w W := fun W h => by rw [hΦ] at h; exact h.1
  have F5d : Φ w5.drew := SΦ _ _ F5 (Below.refl _ _).drew
  clear hΦ K HX HBx X0 pX0 qX0 Bx0 pBx0 qBx0 Rx0 hb5
  have SP := Lib.hid SΦ
  have CX := Lib.hid cX
  have CBx := Lib.hid cBx
  have CR := Lib.hid cR
  have CB := Lib.hid cB
  clear SΦ cX cBx cR cB
  go_region_held3 (fun w' => w'.cell? ⟨w.heap.size, 0, none⟩ = some (.int .i64 c0) ∧ w'.cell? ⟨w.heap.size, 1, none⟩ = some (.slice a0 n0 cap0) ∧ w'.cell? ⟨w4.heap.size, 0, none⟩ = some (.int .i64 c0) ∧ w'.cell? ⟨w4.heap.size, 1, none⟩ = some (.slice (some ⟨bx0, 0, none⟩) n0 n0) ∧ Φ w') (first | exact ⟨(CX.out _ F5d).c0, (CX.out _ F5d).c1, (CBx.out _ F5d).c0, (CBx.out _ F5d).c1, F5d⟩ | exact ⟨by assumption, by assumption, by assumption, by assumption, by assumption⟩) (first | (go_at_call 11; refine (toMatrix_any c0 a0 n0 cap0 z0 _ (h0.from (CB.out _ (by assumption))) (by omega)).mono ?_; rintro e w6 ⟨by0, rfl, gey0, hb6, My0⟩; have F6 : Φ w6 := SP.out _ _ (by assumption) hb6; have pp6 := (CX.out _ F6).c0; have qq6 := (CX.out _ F6).c1; have rr6 := (CBx.out _ F6).c0; have ss6 := (CBx.out _ F6).c1; have Ry0 := My0.res (cap := n0) gey0; clear hb6) | (go_at_call 13; refine (eqMatrix_res c0 (CR.out _ (by assumption)) (by assumption)).mono ?_; rintro e w7 ⟨rfl, hb7⟩; have F7 : Φ w7 := SP.out _ _ (by assumption) hb7; have pp7 := (CX.out _ F7).c0; have qq7 := (CX.out _ F7).c1; have rr7 := (CBx.out _ F7).c0; have ss7 := (CBx.out _ F7).c1; clear hb7))
  all_goals
    go_wp2_with fail
    trace_state
    go_ret
    exact ⟨rfl, CB.out _ F7⟩

set_option maxRecDepth 100000 in
theorem lifted (os : Os) (started : os.Started) (H : Type) (enc : TypeId × Value → H) :
    ReturnsInHanded {} Try.checked os 3 .any (Rows.fnExactValidMatrixSpec.pre6 enc Try.prog Try.f3 Rows.fnExactValidMatrixRow.domain false) (Rows.fnExactValidMatrixSpec.post enc Try.prog Try.f3 false true false false) := by
  refine returnsInHanded_of_change (C := Try.checked) own started (by kernel_rfl) Try.func3
    (ChangeSpec.witness6 (enc := enc) (C := Try.checked) false ⟨#[], #[.agg #[.int .i64 0, .slice none 0 0]], []⟩ 8 (by kernel_rfl) (by kernel_rfl) (by kernel_rfl) (by kernel_rfl)) ?_
  intro W base args ds gs before hval0 hW hcnd _
  have hval : ∀ (j : Nat) t v, Try.f3.params[j]? = some t → args[j]? = some v → Value.okWide Try.prog W .any base t v := hval0
  have hW' := hW
  obtain ⟨p, q, hA0, hV, rfl, hfz, hnd⟩ := hW
  have hA : DataW.TrodAll enc Try.prog W 0 (fun _ => true) true Try.f3.params.toList args.toList ds p := hA0
  rw [Try.params3] at hA hval
  obtain ⟨v0, vs0, dd0, ds0, pp0, qq0, hargs, rfl, rfl, h0, r0⟩ := trodAll_cons hA
  obtain ⟨rfl, rfl, rfl⟩ := trodAll_nil r0
  obtain rfl : args = #[v0] := by cases args; simp_all
  obtain ⟨rfl, rfl⟩ := trodVars_none hV
  have k0 := h0
  have lt0 : ∀ x ∈ pp0, x.block < W.heap.size := by obtain ⟨m, hm⟩ := k0; exact DataW.trod_lt m _ _ _ hm
  obtain ⟨u0, e0, y0, q0, m0, rfl, rfl, rfl, hy0, hz0⟩ := open_agg2 Try.underlying24 (by kernel_rfl) cellsMat (hval 0 24 v0 rfl rfl) h0
  obtain ⟨c0, ec0, rfl, wc0⟩ := DataW.trod_int Try.underlying2 hy0
  simp at ec0; subst ec0
  obtain ⟨a0, n0, cap0, z0, rfl, w0⟩ := arg_open hz0
  clear hA0 hval0
  refine (walk c0 a0 n0 cap0 z0 W w0).mono fun e W' ⟨he, bel⟩ => ?_
  subst he
  exact ⟨_, rfl, _, _, _, [], _, [], hW', trodAll_mk1 (shut_bool Try.underlying4 _), (trodAll_cons_mk (Below.trod laidOut (by kernel_rfl) (of_decide_eq_true (by kernel_rfl)) k0 bel lt0) trodAll_mk0), rfl, bel.frame _, fun h => by cases h⟩

theorem over : Rows.fnExactValidMatrixRow.holds Try.pinned (OpenSpec.ofChange Rows.fnExactValidMatrixSpec) :=
  OpenClaim.holds_of_wide 3 Try.f3 rfl rfl rfl rfl rfl rfl rfl ⟨rfl, rfl, rfl, rfl, rfl⟩ rfl rfl rfl rfl rfl (by kernel_rfl) Try.func3 (by kernel_rfl)
    (of_decide_eq_true (by kernel_rfl)) (by unfold Func.isWrapper; first | (rw [if_pos (by decide +kernel)]; kernel_rfl) | (rw [if_neg (by decide +kernel)]; exact ⟨rfl, rfl⟩))
    (fun os started H enc _ => lifted os started H enc)

theorem proved : Rows.FnExactValidMatrixSaid :=
  over
#print axioms proved
end Go.Proofs.Ytkiighfmaoaejaa.fnExactValidMatrix
