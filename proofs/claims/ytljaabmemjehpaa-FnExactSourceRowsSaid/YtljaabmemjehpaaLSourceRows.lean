/- FnExactSourceRows: for every input the law returns true, and every argument reads afterwards as it read before. No condition. -/
import Derived.Test.YtljaabmemjehpaaRows
import Derived.WalkKit
import Derived.ProofKit
import Derived.OpenShut
import Derived.ChangeOld
import Derived.Below
import Derived.Lib.SmallJoins
import Derived.Test.YtljaabmemjehpaaSourceRows
import Derived.Test.YtljaabmemjehpaaLB
import Derived.Test.YtljaabmemjehpaaThird
import Derived.Test.YtljaabmemjehpaaRow
import Derived.Test.YtljaabmemjehpaaRes
import Derived.Test.YtljaabmemjehpaaMtRes
import Derived.Test.YtljaabmemjehpaaGather
namespace Go.Proofs.Ytljaabmemjehpaa.fnExactSourceRows
open Go.ChangeShapes Go.WideShapes Go.ChangeAt Go.RowKit Go.Joins
set_option linter.unusedVariables false

theorem own : ownKnob Try.prog.godebug = none := by kernel_rfl
theorem laidOut : laidOutB Try.prog = true := by kernel_rfl

set_option maxRecDepth 100000 in
set_option maxHeartbeats 12800000 in
theorem walk (pk0 pl0 re0 rc0 : Int) (wk0 : (Lit.int .i64 pk0).wf = true) (wl0 : (Lit.int .i64 pl0).wf = true) (wr0 : (Lit.int .i64 re0).wf = true) (wc0 : (Lit.int .i64 rc0).wf = true) (a0 : Option Addr) (n0 cap0 : Nat) (z0 : List Int) (w : World) (h0A : Arg w a0 n0 z0) :
    Calls Try.prog 11 #[.agg (gatL pk0 pl0 (.slice a0 n0 cap0) re0 rc0).toArray] w fun e w' => e = .returned (.bool true) ∧ Below w.heap.size w w' := by
  have big0 := h0A.big
  have l0 := h0A.len
  by_cases hm0 : n0 ≤ 1048576
  rotate_left
  ·
    go_enter Try.func11, Try.ntmps11
    have h0 := G1.start w (gatL pk0 pl0 (.slice a0 n0 cap0) re0 rc0) 67
    have xx0k0 : _ := h0.x.cell 0 _ rfl
    have xx1k0 : _ := h0.x.cell 1 _ rfl
    have xx2k0 : _ := h0.x.cell 2 _ rfl
    have xx3k0 : _ := h0.x.cell 3 _ rfl
    have xx4k0 : _ := h0.x.cell 4 _ rfl
    go_wp2_with fail
    refine (szGather_any pk0 pl0 re0 rc0 a0 n0 cap0 big0 1048576 (by omega) (by omega) _).mono ?_
    rintro e w1 ⟨⟨hq, rfl⟩ | ⟨hq, rfl⟩, hb⟩
    · exact absurd hq (by omega)
    · have hb1 := (h0.next hb).b
      clear hb hq
      go_wp2_with fail
      go_ret
      exact ⟨rfl, hb1⟩
  have hn0 : n0 ≤ 1048576 := by omega
  obtain ⟨r, hr⟩ : ∃ r, fSourceRows pk0 pl0 re0 rc0 z0 = r := ⟨_, rfl⟩
  have HR := Lib.hid hr
  clear hr
  obtain ⟨r1, r2⟩ := r
  go_enter Try.func11, Try.ntmps11
  have h0 := G1.start w (gatL pk0 pl0 (.slice a0 n0 cap0) re0 rc0) 67
  have xx0k0 : _ := h0.x.cell 0 _ rfl
  have xx1k0 : _ := h0.x.cell 1 _ rfl
  have xx2k0 : _ := h0.x.cell 2 _ rfl
  have xx3k0 : _ := h0.x.cell 3 _ rfl
  have xx4k0 : _ := h0.x.cell 4 _ rfl
  go_wp2_with fail
  refine (szGather_any pk0 pl0 re0 rc0 a0 n0 cap0 big0 1048576 (by omega) (by omega) _).mono ?_
  rintro e w1 ⟨⟨hq, rfl⟩ | ⟨hq, rfl⟩, hb⟩
  rotate_left
  · exact absurd hq (by omega)
  clear hq
  have h1 := h0.next hb
  have xx0k1 : _ := h1.x.cell 0 _ rfl
  have xx1k1 : _ := h1.x.cell 1 _ rfl
  have xx2k1 : _ := h1.x.cell 2 _ rfl
  have xx3k1 : _ := h1.x.cell 3 _ rfl
  have xx4k1 : _ := h1.x.cell 4 _ rfl
  have Z1 := Lib.hid h1.z
  clear hb h0 xx0k0 xx1k0 xx2k0 xx3k0 xx4k0
  go_wp2_with fail
  refine (toGather_any pk0 pl0 re0 rc0 a0 n0 cap0 z0 _ (h0A.below h1.b) hn0).mono ?_
  rintro e w2 ⟨gs0, rfl, ges0, hb, Ss0⟩
  replace Ss0 := Ss0.res (cap := n0) ges0
  clear ges0
  have h2 := h1.next hb
  have xx0k2 : _ := h2.x.cell 0 _ rfl
  have xx1k2 : _ := h2.x.cell 1 _ rfl
  have xx2k2 : _ := h2.x.cell 2 _ rfl
  have xx3k2 : _ := h2.x.cell 3 _ rfl
  have xx4k2 : _ := h2.x.cell 4 _ rfl
  have Z2 := Lib.hid hb.size
  clear hb h1 xx0k1 xx1k1 xx2k1 xx3k1 xx4k1
  go_wp2_with fail
  have S := specSourceRows_any pk0 pl0 re0 rc0 (.slice (some ⟨gs0, 0, none⟩) n0 n0) z0 _ Ss0
  rw [HR.out] at S
  try dsimp only at S
  refine S.mono ?_
  clear S
  rintro e w3 ⟨vw, rfl, hb, Rw⟩
  have h3 := h2.next hb
  have xx0k3 : _ := h3.x.cell 0 _ rfl
  have xx1k3 : _ := h3.x.cell 1 _ rfl
  have xx2k3 : _ := h3.x.cell 2 _ rfl
  have xx3k3 : _ := h3.x.cell 3 _ rfl
  have xx4k3 : _ := h3.x.cell 4 _ rfl
  have Z3 := Lib.hid hb.size
  replace Ss0 := Ss0.next hb
  clear hb h2 xx0k2 xx1k2 xx2k2 xx3k2 xx4k2
  obtain ⟨aow, mow, cow, rfl⟩ := Rw.form
  clear Ss0
  go_wp2_with fail
  refine (toGather_any pk0 pl0 re0 rc0 a0 n0 cap0 z0 _ (h0A.below h3.b) hn0).mono ?_
  rintro e w4 ⟨gx0, rfl, gex0, hb, Sx0⟩
  replace Sx0 := Sx0.res (cap := n0) gex0
  clear gex0
  have h4 := h3.next hb
  have xx0k4 : _ := h4.x.cell 0 _ rfl
  have xx1k4 : _ := h4.x.cell 1 _ rfl
  have xx2k4 : _ := h4.x.cell 2 _ rfl
  have xx3k4 : _ := h4.x.cell 3 _ rfl
  have xx4k4 : _ := h4.x.cell 4 _ rfl
  have Z4 := Lib.hid hb.size
  replace Rw := Rw.next hb
  clear hb h3 xx0k3 xx1k3 xx2k3 xx3k3 xx4k3
  have hb := below_alloc1 w4 (.cells (gatL pk0 pl0 (.slice (some ⟨gx0, 0, none⟩) n0 n0) re0 rc0).toArray 70)
  have nBx0 := LB.one w4 (gatL pk0 pl0 (.slice (some ⟨gx0, 0, none⟩) n0 n0) re0 rc0) 70
  have h5 := h4.next hb
  have xx0k5 : _ := h5.x.cell 0 _ rfl
  have xx1k5 : _ := h5.x.cell 1 _ rfl
  have xx2k5 : _ := h5.x.cell 2 _ rfl
  have xx3k5 : _ := h5.x.cell 3 _ rfl
  have xx4k5 : _ := h5.x.cell 4 _ rfl
  have Z5 := Lib.hid hb.size
  replace Rw := Rw.next hb
  replace Sx0 := Sx0.next hb
  clear hb h4 xx0k4 xx1k4 xx2k4 xx3k4 xx4k4
  have Y5 := Lib.hid (show w4.heap.size + 1 ≤ (w4.alloc (.cells (gatL pk0 pl0 (.slice (some ⟨gx0, 0, none⟩) n0 n0) re0 rc0).toArray 70)).heap.size by simp)
  have Bx0 := nBx0; clear nBx0
  have q0Bx0 : _ := Bx0.cell 0 _ rfl
  have q1Bx0 : _ := Bx0.cell 1 _ rfl
  have q2Bx0 : _ := Bx0.cell 2 _ rfl
  have q3Bx0 : _ := Bx0.cell 3 _ rfl
  have q4Bx0 : _ := Bx0.cell 4 _ rfl
  go_wp2_with fail
  have S := implSourceRows_any pk0 pl0 re0 rc0 (.slice (some ⟨gx0, 0, none⟩) n0 n0) z0 _ Sx0
  rw [HR.out] at S
  try dsimp only at S
  refine S.mono ?_
  clear S
  rintro e w6 ⟨vg, rfl, hb, Rg⟩
  have h6 := h5.next hb
  have xx0k6 : _ := h6.x.cell 0 _ rfl
  have xx1k6 : _ := h6.x.cell 1 _ rfl
  have xx2k6 : _ := h6.x.cell 2 _ rfl
  have xx3k6 : _ := h6.x.cell 3 _ rfl
  have xx4k6 : _ := h6.x.cell 4 _ rfl
  have Z6 := Lib.hid hb.size
  replace Rw := Rw.next hb
  replace Sx0 := Sx0.next hb
  replace Bx0 := Bx0.next hb
  replace q0Bx0 : _ := Bx0.cell 0 _ rfl
  replace q1Bx0 : _ := Bx0.cell 1 _ rfl
  replace q2Bx0 : _ := Bx0.cell 2 _ rfl
  replace q3Bx0 : _ := Bx0.cell 3 _ rfl
  replace q4Bx0 : _ := Bx0.cell 4 _ rfl
  clear hb h5 xx0k5 xx1k5 xx2k5 xx3k5 xx4k5
  obtain ⟨aog, mog, cog, rfl⟩ := Rg.form
  go_wp2_with fail
  refine (eq_res Rg Rw).mono ?_
  rintro e w7 ⟨rfl, hb⟩
  have h7 := h6.next hb
  have xx0k7 : _ := h7.x.cell 0 _ rfl
  have xx1k7 : _ := h7.x.cell 1 _ rfl
  have xx2k7 : _ := h7.x.cell 2 _ rfl
  have xx3k7 : _ := h7.x.cell 3 _ rfl
  have xx4k7 : _ := h7.x.cell 4 _ rfl
  have Z7 := Lib.hid hb.size
  replace Rw := Rw.next hb
  replace Sx0 := Sx0.next hb
  replace Bx0 := Bx0.next hb
  replace q0Bx0 : _ := Bx0.cell 0 _ rfl
  replace q1Bx0 : _ := Bx0.cell 1 _ rfl
  replace q2Bx0 : _ := Bx0.cell 2 _ rfl
  replace q3Bx0 : _ := Bx0.cell 3 _ rfl
  replace q4Bx0 : _ := Bx0.cell 4 _ rfl
  replace Rg := Rg.next hb
  clear hb h6 xx0k6 xx1k6 xx2k6 xx3k6 xx4k6
  have HD := Lib.hid h7.drew
  have ORw := Lib.hid (Rw.next (Below.refl _ w7).drew)
  have OSx0 := Lib.hid (Sx0.next (Below.refl _ w7).drew)
  have OBx0 := Lib.hid (Bx0.next (Below.refl _ w7).drew)
  have ORg := Lib.hid (Rg.next (Below.refl _ w7).drew)
  go_wp2_with fail
  go_region_law (go_simp; go_wp2_with (first | (go_at_call 47; refine (toGather_any pk0 pl0 re0 rc0 a0 n0 cap0 z0 _ (h0A.below HD.out.b) hn0).mono ?_; rintro e w8 ⟨b7, rfl, ge7, hb, M7⟩; have H7 := Lib.hid (HD.out.next hb); have PRw := Lib.hid (ORw.out.next hb); have PSx0 := Lib.hid (OSx0.out.next hb); have PBx0 := Lib.hid (OBx0.out.next hb); have PRg := Lib.hid (ORg.out.next hb); have RY := Lib.hid (M7.res (cap := n0) ge7); have mq0 : _ := PBx0.out.cell 0 _ rfl; have mq1 : _ := PBx0.out.cell 1 _ rfl; have mq2 : _ := PBx0.out.cell 2 _ rfl; have mq3 : _ := PBx0.out.cell 3 _ rfl; have mq4 : _ := PBx0.out.cell 4 _ rfl; have Z8 := Lib.hid (show w7.heap.size ≤ w8.heap.size from hb.size); clear hb ge7 M7) | (go_at_call 49; refine (eqGather_res pk0 pl0 re0 rc0 PSx0.out RY.out).mono ?_; rintro e w9 ⟨rfl, hb⟩; have H8 := Lib.hid (H7.out.next hb); have QRw := Lib.hid (PRw.out.next hb); have QSx0 := Lib.hid (PSx0.out.next hb); have QBx0 := Lib.hid (PBx0.out.next hb); have QRg := Lib.hid (PRg.out.next hb); have Z9 := Lib.hid hb.size; clear hb)))
  all_goals
    have h9 := H8.out
    clear xx0k7 xx1k7 xx2k7 xx3k7 xx4k7 mq0 mq1 mq2 mq3 mq4
    have xx0k9 : _ := h9.x.cell 0 _ rfl
    have xx1k9 : _ := h9.x.cell 1 _ rfl
    have xx2k9 : _ := h9.x.cell 2 _ rfl
    have xx3k9 : _ := h9.x.cell 3 _ rfl
    have xx4k9 : _ := h9.x.cell 4 _ rfl
    replace Rw := QRw.out
    replace Sx0 := QSx0.out
    replace Bx0 := QBx0.out
    replace q0Bx0 : _ := Bx0.cell 0 _ rfl
    replace q1Bx0 : _ := Bx0.cell 1 _ rfl
    replace q2Bx0 : _ := Bx0.cell 2 _ rfl
    replace q3Bx0 : _ := Bx0.cell 3 _ rfl
    replace q4Bx0 : _ := Bx0.cell 4 _ rfl
    replace Rg := QRg.out
    clear ORw PRw QRw OSx0 PSx0 QSx0 OBx0 PBx0 QBx0 ORg PRg QRg HD H7 H8 RY
    have l8 := Rg.small
    go_wp2_with fail
    refine (markGather_res pk0 pl0 re0 rc0 Sx0 1 (by omega) (by omega)).mono ?_
    rintro e w10 ⟨rfl, hC, -⟩
    clear Sx0
    have h10 := h9.chg hC (by have := Z1.out; have := Z2.out; have := Z3.out; have := Z4.out; have := Z5.out; have := Z6.out; have := Z7.out; have := Z8.out; have := Z9.out; have := Y5.out; omega)
    have xx0k10 : _ := h10.x.cell 0 _ rfl
    have xx1k10 : _ := h10.x.cell 1 _ rfl
    have xx2k10 : _ := h10.x.cell 2 _ rfl
    have xx3k10 : _ := h10.x.cell 3 _ rfl
    have xx4k10 : _ := h10.x.cell 4 _ rfl
    have Z10 := Lib.hid hC.size
    replace Rw := Rw.chg hC (by have := Z1.out; have := Z2.out; have := Z3.out; have := Z4.out; have := Z5.out; have := Z6.out; have := Z7.out; have := Z8.out; have := Z9.out; have := Y5.out; omega)
    replace Bx0 := Bx0.chg hC (by have := Z1.out; have := Z2.out; have := Z3.out; have := Z4.out; have := Z5.out; have := Z6.out; have := Z7.out; have := Z8.out; have := Z9.out; have := Y5.out; omega)
    replace q0Bx0 : _ := Bx0.cell 0 _ rfl
    replace q1Bx0 : _ := Bx0.cell 1 _ rfl
    replace q2Bx0 : _ := Bx0.cell 2 _ rfl
    replace q3Bx0 : _ := Bx0.cell 3 _ rfl
    replace q4Bx0 : _ := Bx0.cell 4 _ rfl
    replace Rg := Rg.chg hC (by have := Z1.out; have := Z2.out; have := Z3.out; have := Z4.out; have := Z5.out; have := Z6.out; have := Z7.out; have := Z8.out; have := Z9.out; have := Y5.out; omega)
    clear hC h9 xx0k9 xx1k9 xx2k9 xx3k9 xx4k9
    clear Bx0 q0Bx0 q1Bx0 q2Bx0 q3Bx0 q4Bx0
    generalize hk : 1 + z0.length = k1
    have hk1 : k1 ≤ 1048577 := by omega
    clear hk
    go_wp2_with fail
    refine (eq_res Rg Rw).mono ?_
    rintro e w11 ⟨rfl, hb⟩
    have h11 := h10.next hb
    have xx0k11 : _ := h11.x.cell 0 _ rfl
    have xx1k11 : _ := h11.x.cell 1 _ rfl
    have xx2k11 : _ := h11.x.cell 2 _ rfl
    have xx3k11 : _ := h11.x.cell 3 _ rfl
    have xx4k11 : _ := h11.x.cell 4 _ rfl
    have Z11 := Lib.hid hb.size
    replace Rw := Rw.next hb
    replace Rg := Rg.next hb
    clear hb h10 xx0k10 xx1k10 xx2k10 xx3k10 xx4k10
    go_wp2_with fail
    refine (mark_res Rg 1 (by omega) (by omega)).mono ?_
    rintro e w12 ⟨rfl, hC, HM⟩
    clear Rg
    have h12 := h11.chg hC (by have := Z1.out; have := Z2.out; have := Z3.out; have := Z4.out; have := Z5.out; have := Z6.out; have := Z7.out; have := Z8.out; have := Z9.out; have := Z10.out; have := Z11.out; have := Y5.out; omega)
    have xx0k12 : _ := h12.x.cell 0 _ rfl
    have xx1k12 : _ := h12.x.cell 1 _ rfl
    have xx2k12 : _ := h12.x.cell 2 _ rfl
    have xx3k12 : _ := h12.x.cell 3 _ rfl
    have xx4k12 : _ := h12.x.cell 4 _ rfl
    have Z12 := Lib.hid hC.size
    replace Rw := Rw.chg hC (by have := Z1.out; have := Z2.out; have := Z3.out; have := Z4.out; have := Z5.out; have := Z6.out; have := Z7.out; have := Z8.out; have := Z9.out; have := Z10.out; have := Z11.out; have := Y5.out; omega)
    clear hC h11 xx0k11 xx1k11 xx2k11 xx3k11 xx4k11
    go_wp2_with fail
    refine (held_res 1 r1.length HM (by omega) (by omega)).mono ?_
    rintro e w' ⟨rfl, rfl⟩
    go_wp2_with fail
    refine (toGather_any pk0 pl0 re0 rc0 a0 n0 cap0 z0 _ (h0A.below h12.b) hn0).mono ?_
    rintro e w13 ⟨gt0, rfl, get0, hb, St0⟩
    replace St0 := St0.res (cap := n0) get0
    clear get0
    have h13 := h12.next hb
    have xx0k13 : _ := h13.x.cell 0 _ rfl
    have xx1k13 : _ := h13.x.cell 1 _ rfl
    have xx2k13 : _ := h13.x.cell 2 _ rfl
    have xx3k13 : _ := h13.x.cell 3 _ rfl
    have xx4k13 : _ := h13.x.cell 4 _ rfl
    have Z13 := Lib.hid hb.size
    replace Rw := Rw.next hb
    replace HM := HM.next hb
    clear hb h12 xx0k12 xx1k12 xx2k12 xx3k12 xx4k12
    go_wp2_with fail
    have S := implSourceRows_any pk0 pl0 re0 rc0 (.slice (some ⟨gt0, 0, none⟩) n0 n0) z0 _ St0
    rw [HR.out] at S
    try dsimp only at S
    refine S.mono ?_
    clear S
    rintro e w14 ⟨vh, rfl, hb, Rh⟩
    have h14 := h13.next hb
    have xx0k14 : _ := h14.x.cell 0 _ rfl
    have xx1k14 : _ := h14.x.cell 1 _ rfl
    have xx2k14 : _ := h14.x.cell 2 _ rfl
    have xx3k14 : _ := h14.x.cell 3 _ rfl
    have xx4k14 : _ := h14.x.cell 4 _ rfl
    have Z14 := Lib.hid hb.size
    replace Rw := Rw.next hb
    replace HM := HM.next hb
    replace St0 := St0.next hb
    clear hb h13 xx0k13 xx1k13 xx2k13 xx3k13 xx4k13
    obtain ⟨aoh, moh, coh, rfl⟩ := Rh.form
    clear St0
    go_wp2_with fail
    refine (eq_res Rh Rw).mono ?_
    rintro e w15 ⟨rfl, hb⟩
    have h15 := h14.next hb
    have xx0k15 : _ := h15.x.cell 0 _ rfl
    have xx1k15 : _ := h15.x.cell 1 _ rfl
    have xx2k15 : _ := h15.x.cell 2 _ rfl
    have xx3k15 : _ := h15.x.cell 3 _ rfl
    have xx4k15 : _ := h15.x.cell 4 _ rfl
    have Z15 := Lib.hid hb.size
    replace Rw := Rw.next hb
    replace HM := HM.next hb
    replace Rh := Rh.next hb
    clear hb h14 xx0k14 xx1k14 xx2k14 xx3k14 xx4k14
    go_wp2_with fail
    refine (held_res 1 r1.length HM (by omega) (by omega)).mono ?_
    rintro e w' ⟨rfl, rfl⟩
    go_wp2_with fail
    go_ret
    exact ⟨rfl, h15.b⟩

set_option maxRecDepth 100000 in
theorem lifted (os : Os) (started : os.Started) (H : Type) (enc : TypeId × Value → H) :
    ReturnsInHanded {} Try.checked os 11 .any (Rows.fnExactSourceRowsSpec.pre6 enc Try.prog Try.f11 Rows.fnExactSourceRowsRow.domain false) (Rows.fnExactSourceRowsSpec.post enc Try.prog Try.f11 false true false false) := by
  refine returnsInHanded_of_change (C := Try.checked) own started (by kernel_rfl) Try.func11
    (ChangeSpec.witness6 (enc := enc) (C := Try.checked) false ⟨#[], #[.agg #[.int .i64 0, .int .i64 0, .slice none 0 0, .int .i64 0, .int .i64 0]], []⟩ 8 (by kernel_rfl) (by kernel_rfl) (by kernel_rfl) (by kernel_rfl)) ?_
  intro W base args ds gs before hval0 hW hcnd _
  have hval : ∀ (j : Nat) t v, Try.f11.params[j]? = some t → args[j]? = some v → Value.okWide Try.prog W .any base t v := hval0
  have hW' := hW
  obtain ⟨p, q, hA0, hV, rfl, hfz, hnd⟩ := hW
  have hA : DataW.TrodAll enc Try.prog W 0 (fun _ => true) true Try.f11.params.toList args.toList ds p := hA0
  rw [Try.params11] at hA hval
  obtain ⟨v0, vs0, dd0, ds0, pp0, qq0, hargs, rfl, rfl, h0, r0⟩ := trodAll_cons hA
  obtain ⟨rfl, rfl, rfl⟩ := trodAll_nil r0
  obtain rfl : args = #[v0] := by cases args; simp_all
  obtain ⟨rfl, rfl⟩ := trodVars_none hV
  have k0 := h0
  have lt0 : ∀ x ∈ pp0, x.block < W.heap.size := by obtain ⟨m, hm⟩ := k0; exact DataW.trod_lt m _ _ _ hm
  obtain ⟨pk0, pl0, re0, rc0, a0, n0, cap0, z0, rfl, wk0, wl0, wr0, wc0, w0⟩ := gather_open (hval 0 67 v0 rfl rfl) h0
  clear hA0 hval0
  refine (walk pk0 pl0 re0 rc0 wk0 wl0 wr0 wc0 a0 n0 cap0 z0 W w0).mono fun e W' ⟨he, bel⟩ => ?_
  subst he
  exact ⟨_, rfl, _, _, _, [], _, [], hW', trodAll_mk1 (shut_bool Try.underlying4 _), (trodAll_cons_mk (Below.trod laidOut (by kernel_rfl) (of_decide_eq_true (by kernel_rfl)) k0 bel lt0) trodAll_mk0), rfl, bel.frame _, fun h => by cases h⟩

theorem over : Rows.fnExactSourceRowsRow.holds Try.pinned (OpenSpec.ofChange Rows.fnExactSourceRowsSpec) :=
  OpenClaim.holds_of_wide 11 Try.f11 rfl rfl rfl rfl rfl rfl rfl ⟨rfl, rfl, rfl, rfl, rfl⟩ rfl rfl rfl rfl rfl (by kernel_rfl) Try.func11 (by kernel_rfl)
    (of_decide_eq_true (by kernel_rfl)) (by unfold Func.isWrapper; first | (rw [if_pos (by decide +kernel)]; kernel_rfl) | (rw [if_neg (by decide +kernel)]; exact ⟨rfl, rfl⟩))
    (fun os started H enc _ => lifted os started H enc)

theorem proved : Rows.FnExactSourceRowsSaid :=
  over
#print axioms proved
end Go.Proofs.Ytljaabmemjehpaa.fnExactSourceRows
