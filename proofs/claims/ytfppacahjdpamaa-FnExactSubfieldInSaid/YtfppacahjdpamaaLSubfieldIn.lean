/- FnExactSubfieldIn: for every input the law returns true, and every argument reads afterwards as it read before. No condition. -/
import Derived.Test.YtfppacahjdpamaaRows
import Derived.WalkKit
import Derived.ProofKit
import Derived.OpenShut
import Derived.ChangeOld
import Derived.Below
import Derived.Lib.SmallJoins
import Derived.Test.YtfppacahjdpamaaSubfieldIn
import Derived.Test.YtfppacahjdpamaaToField
import Derived.Test.YtfppacahjdpamaaMtRes
namespace Go.Proofs.Ytfppacahjdpamaa.fnExactSubfieldIn
open Go.ChangeShapes Go.WideShapes Go.ChangeAt Go.RowKit Go.Joins
set_option linter.unusedVariables false

theorem own : ownKnob Try.prog.godebug = none := by kernel_rfl
theorem laidOut : laidOutB Try.prog = true := by kernel_rfl
theorem cellsField : Try.prog.cellsOf 23 = 2 := by kernel_rfl

theorem fat_chg {w W W' : World} {d p : Int} {B T : Nat} (h : FAt w d p W) (hb : Chg B T W W') (hq : w.heap.size < B) : FAt w d p W' := by
  have hg : W'.heap[w.heap.size]? = W.heap[w.heap.size]? := hb.block _ (by have := h.z; omega) (.inl hq)
  exact ⟨Chg.below h.b (by have := h.z; omega) hb (by omega), Nat.le_trans h.z hb.size, (World.cell?_of_block (w := W) (a := ⟨w.heap.size, 0, none⟩) hg).trans h.c0, (World.cell?_of_block (w := W) (a := ⟨w.heap.size, 1, none⟩) hg).trans h.c1⟩
set_option maxHeartbeats 3200000 in
theorem core (d p a : Int) (ys : List Int) (k : Int) (hys : ys.length ≤ 1000) (hS : GivesList 13 d p a ys k) (hI : GivesList 15 d p a ys k) (w : World) :
    Calls Try.prog 3 #[.agg #[.int .i64 d, .int .i64 p], .int .i64 a] w fun e w' => e = .returned (.bool true) ∧ Below w.heap.size w w' := by
  have HS := Lib.hid hS
  have HI := Lib.hid hI
  clear hS hI
  go_enter Try.func3, Try.ntmps3
  have h0 := FAt.start w d p 23
  have y0 := h0.c0; have x0 := h0.c1
  go_wp2_with fail
  refine (toField_any _ _ _).mono ?_
  rintro e w1 ⟨rfl, hb⟩
  have h1 := h0.next hb; have z1 := Lib.hid h1.z; have y1 := h1.c0; have x1 := h1.c1
  clear hb
  go_wp2_with fail
  refine (HS.out _).mono ?_
  rintro e w2 ⟨v0, rfl, hb, R0⟩
  have h2 := h1.next hb; have s2 := Lib.hid hb.size; have y2 := h2.c0; have x2 := h2.c1
  clear hb
  go_wp2_with fail
  refine (toField_any _ _ _).mono ?_
  rintro e w3 ⟨rfl, hb⟩
  have h3 := h2.next hb; have s3 := Lib.hid hb.size; have R03 := R0.next hb; have y3 := h3.c0; have x3 := h3.c1
  clear hb
  go_wp2_with fail
  refine (HI.out _).mono ?_
  rintro e w4 ⟨v1, rfl, hb, R1⟩
  have h4 := h3.next hb; have s4 := Lib.hid hb.size; have R04 := R03.next hb; have y4 := h4.c0; have x4 := h4.c1
  clear hb
  go_wp2_with fail
  refine (eq_res R1 R04).mono ?_
  rintro e w5 ⟨rfl, hb⟩
  have h5 := h4.next hb; have R05 := R04.next hb; have R15 := R1.next hb; have y5 := h5.c0; have x5 := h5.c1
  clear hb
  go_wp2_with fail
  refine (mark_res R15 1 (by omega) (by omega)).mono ?_
  rintro e w6 ⟨rfl, hC, M6⟩
  have h6 := fat_chg h5 hC (by have := z1.out; have := s2.out; have := s3.out; omega); have R06 := R05.chg hC (.inl (by have := s3.out; omega)); have y6 := h6.c0; have x6 := h6.c1
  clear hC
  go_wp2_with fail
  refine (held_res 1 ys.length M6 (by omega) (by omega)).mono ?_
  rintro e w7 ⟨rfl, rfl⟩
  go_wp2_with fail
  refine (toField_any _ _ _).mono ?_
  rintro e w8 ⟨rfl, hb⟩
  have h8 := h6.next hb; have R08 := R06.next hb; have M8 := M6.next hb; have y8 := h8.c0; have x8 := h8.c1
  clear hb
  go_wp2_with fail
  refine (HI.out _).mono ?_
  rintro e w9 ⟨v2, rfl, hb, R2⟩
  have h9 := h8.next hb; have R09 := R08.next hb; have M9 := M8.next hb
  clear hb
  go_wp2_with fail
  refine (eq_res R2 R09).mono ?_
  rintro e w10 ⟨rfl, hb⟩
  have h10 := h9.next hb; have M10 := M9.next hb
  clear hb
  go_wp2_with fail
  refine (held_res 1 ys.length M10 (by omega) (by omega)).mono ?_
  rintro e w11 ⟨rfl, rfl⟩
  go_wp2_with fail
  go_ret
  exact ⟨rfl, h10.b⟩

theorem walk (d0 p0 : Int) (wd0 : (Lit.int .i64 d0).wf = true) (wp0 : (Lit.int .i64 p0).wf = true) (a1 : Int) (w1 : (Lit.int .i64 a1).wf = true) (w : World) :
    Calls Try.prog 3 #[.agg #[.int .i64 d0, .int .i64 p0], .int .i64 a1] w fun e w' => e = .returned (.bool true) ∧ Below w.heap.size w w' := by
  obtain ⟨hl, hh⟩ := bounds_i64 wp0
  cases hf : fldI d0 p0 with
  | false => exact core d0 p0 a1 [] 1 (by simp) (specSubfieldIn_A _ _ hf _) (implSubfieldIn_A _ _ hf hl hh _) w
  | true =>
    obtain ⟨m, P, rfl, rfl, hF⟩ := fldI_nat hf
    have hF := Fld.of hF
    by_cases h : a1 < 1 ∨ (m : Int) < a1
    · exact core m P a1 [] 2 (by simp) (specSubfieldIn_B m P _ hF a1 h) (implSubfieldIn_B m P _ hF a1 h) w
    · obtain ⟨x, rfl⟩ := Int.eq_ofNat_of_zero_le (by omega : 0 ≤ a1)
      have hn := hF.n32
      have hl2 := sbf_len P x (2 ^ m)
      exact core m P x (ints (sbf P x (2 ^ m))) 0 (by rw [ints_length]; omega) (specSubfieldIn_C m P _ hF x (by omega) (by omega)) (implSubfieldIn_C m P _ hF x (by omega) (by omega)) w

set_option maxRecDepth 100000 in
theorem lifted (os : Os) (started : os.Started) (H : Type) (enc : TypeId × Value → H) :
    ReturnsInHanded {} Try.checked os 3 .any (Rows.fnExactSubfieldInSpec.pre6 enc Try.prog Try.f3 Rows.fnExactSubfieldInRow.domain false) (Rows.fnExactSubfieldInSpec.post enc Try.prog Try.f3 false true false false) := by
  refine returnsInHanded_of_change (C := Try.checked) own started (by kernel_rfl) Try.func3
    (ChangeSpec.witness6 (enc := enc) (C := Try.checked) false ⟨#[], #[.agg #[.int .i64 0, .int .i64 0], .int .i64 0], []⟩ 8 (by kernel_rfl) (by kernel_rfl) (by kernel_rfl) (by kernel_rfl)) ?_
  intro W base args ds gs before hval0 hW hcnd _
  have hval : ∀ (j : Nat) t v, Try.f3.params[j]? = some t → args[j]? = some v → Value.okWide Try.prog W .any base t v := hval0
  have hW' := hW
  obtain ⟨p, q, hA0, hV, rfl, hfz, hnd⟩ := hW
  have hA : DataW.TrodAll enc Try.prog W 0 (fun _ => true) true Try.f3.params.toList args.toList ds p := hA0
  rw [Try.params3] at hA hval
  obtain ⟨v0, vs0, dd0, ds0, pp0, qq0, hargs, rfl, rfl, h0, r0⟩ := trodAll_cons hA
  obtain ⟨v1, vs1, dd1, ds1, pp1, qq1, rfl, rfl, rfl, h1, r1⟩ := trodAll_cons r0
  obtain ⟨rfl, rfl, rfl⟩ := trodAll_nil r1
  obtain rfl : args = #[v0, v1] := by cases args; simp_all
  obtain ⟨rfl, rfl⟩ := trodVars_none hV
  obtain ⟨c0, e0, y0, z0, m0, rfl, rfl, rfl, hy0, hz0⟩ := open_agg2 Try.underlying23 (by kernel_rfl) cellsField (hval 0 23 v0 rfl rfl) h0
  obtain ⟨d0, ed0, rfl, wd0⟩ := DataW.trod_int Try.underlying2 hy0
  obtain ⟨p0, ep0, rfl, wp0⟩ := DataW.trod_int Try.underlying2 hz0
  simp at ed0 ep0; subst ed0 ep0
  obtain ⟨a1, rfl, rfl, rfl, w1⟩ := open_int Try.underlying2 (hval 1 2 v1 rfl rfl) h1
  clear hA0 hval0
  simp only [List.append_nil] at hW'
  refine (walk d0 p0 wd0 wp0 a1 w1 W).mono fun e W' ⟨he, bel⟩ => ?_
  subst he
  exact ⟨_, rfl, _, _, _, [], [], [], hW', trodAll_mk1 (shut_bool Try.underlying4 _), (trodAll_cons_mk (shut_agg2 (y0 := (.lit (.int .i64 d0), [])) (y1 := (.lit (.int .i64 p0), [])) Try.underlying23 (by kernel_rfl) cellsField ⟨1, by simp [DataW.trod, Try.underlying2, wd0]⟩ ⟨1, by simp [DataW.trod, Try.underlying2, wp0]⟩) (trodAll_cons_mk (shut_int Try.underlying2 w1) trodAll_mk0)), rfl, bel.frame _, fun h => by cases h⟩

theorem over : Rows.fnExactSubfieldInRow.holds Try.pinned (OpenSpec.ofChange Rows.fnExactSubfieldInSpec) :=
  OpenClaim.holds_of_wide 3 Try.f3 rfl rfl rfl rfl rfl rfl rfl ⟨rfl, rfl, rfl, rfl, rfl⟩ rfl rfl rfl rfl rfl (by kernel_rfl) Try.func3 (by kernel_rfl)
    (of_decide_eq_true (by kernel_rfl)) (by unfold Func.isWrapper; first | (rw [if_pos (by decide +kernel)]; kernel_rfl) | (rw [if_neg (by decide +kernel)]; exact ⟨rfl, rfl⟩))
    (fun os started H enc _ => lifted os started H enc)

theorem proved : Rows.FnExactSubfieldInSaid :=
  over
#print axioms proved
end Go.Proofs.Ytfppacahjdpamaa.fnExactSubfieldIn
