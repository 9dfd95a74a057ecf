/- FnExactIsSpace: for every input the law returns true, and every argument reads afterwards as it read before. No condition. -/
import Derived.Test.YtfhalaohegdbhaaDoorRows
import Derived.WalkKit
import Derived.ProofKit
import Derived.OpenShut
import Derived.ChangeOld
import Derived.Below
import Derived.Lib.SmallJoins
import Derived.Test.YtfhalaohegdbhaaDoorIsSpace
import Derived.Test.YtfhalaohegdbhaaDoorRes
import Derived.Test.YtfhalaohegdbhaaDoorArg
import Derived.Test.YtfhalaohegdbhaaDoorValid
import Derived.Test.YtfhalaohegdbhaaDoorLaid
import Derived.Test.YtfhalaohegdbhaaDoorTie
import Derived.Test.YtfhalaohegdbhaaDoorCards
import Derived.SevenTiedAt
namespace Go.Proofs.YtfhalaohegdbhaaDoor.fnExactIsSpace
open Go.ChangeShapes Go.WideShapes Go.ChangeAt Go.RowKit Go.Joins
set_option linter.unusedVariables false

theorem own : ownKnob Tryd.prog.godebug = none := by kernel_rfl
theorem laidOut : laidOutB Tryd.prog = true := by kernel_rfl
theorem cellsMat : Tryd.prog.cellsOf 24 = 2 := by kernel_rfl

set_option maxHeartbeats 6400000 in
theorem walk (c0 : Int) (a0 : Option Addr) (n0 cap0 : Nat) (z0 : List Int) (w : World) (hT : Tab w) (h0 : Arg w a0 n0 z0) :
    Calls Tryd.prog 7 #[.agg #[.int .i64 c0, .slice a0 n0 cap0]] w fun e w' => e = .returned (.bool true) ∧ Below w.heap.size w w' := by
  by_cases hn0 : n0 ≤ 1048576
  rotate_left
  · skip
    go_enter Tryd.func7, Tryd.ntmps7
    have hb0 := below_alloc1 w (.cells #[.int .i64 c0, .slice a0 n0 cap0] 24)
    have X0 := Box.one w (.int .i64 c0) (.slice a0 n0 cap0) 24
    have pX0 : _ := X0.c0
    have qX0 : _ := X0.c1
    go_wp2_with fail
    refine (szMatrix_no c0 a0 n0 cap0 h0.big (1048576) (by omega) (by omega) (by omega) _).mono ?_
    rintro e w1 ⟨rfl, hb⟩
    replace X0 := X0.next hb
    replace pX0 : _ := X0.c0
    replace qX0 : _ := X0.c1
    have hb1 := hb0.trans (hb.mono hb0.size)
    have Z1 := Lib.hid (show w.heap.size + 1 ≤ w1.heap.size by have := hb.size; simpa [size_setCell_] using this)
    clear hb
    go_wp2_with fail
    go_ret
    exact ⟨rfl, hb1⟩
  obtain ⟨r, hr⟩ : ∃ r, fIsSpace c0 z0 = r := ⟨_, rfl⟩
  have HR := Lib.hid hr
  clear hr
  have l0 := h0.len
  go_enter Tryd.func7, Tryd.ntmps7
  have hb0 := below_alloc1 w (.cells #[.int .i64 c0, .slice a0 n0 cap0] 24)
  have X0 := Box.one w (.int .i64 c0) (.slice a0 n0 cap0) 24
  have pX0 : _ := X0.c0
  have qX0 : _ := X0.c1
  go_wp2_with fail
  refine (szMatrix_ok c0 a0 n0 cap0 (1048576) (by omega) (by omega) _).mono ?_
  rintro e w1 ⟨rfl, hb⟩
  replace X0 := X0.next hb
  replace pX0 : _ := X0.c0
  replace qX0 : _ := X0.c1
  have hb1 := hb0.trans (hb.mono hb0.size)
  have Z1 := Lib.hid (show w.heap.size + 1 ≤ w1.heap.size by have := hb.size; simpa [size_setCell_] using this)
  clear hb
  go_wp2_with fail
  refine (toMatrix_any c0 a0 n0 cap0 z0 _ (h0.from hb1) (by omega)).mono ?_
  rintro e w2 ⟨bs0, rfl, ges0, hb, Ms0⟩
  replace X0 := X0.next hb
  replace pX0 : _ := X0.c0
  replace qX0 : _ := X0.c1
  have hb2 := hb1.trans (hb.mono hb1.size)
  have Z2 := Lib.hid (show w1.heap.size ≤ w2.heap.size by have := hb.size; simpa [size_setCell_] using this)
  clear hb
  have Rs0 := Ms0.res (cap := n0) (B := w1.heap.size) (by simpa using ges0)
  go_wp2_with fail
  have S := specIsSpace_any c0 bs0 n0 n0 z0 _ Ms0
  rw [HR.out] at S
  try dsimp only at S
  refine S.mono ?_
  clear S
  rintro e w3 ⟨rfl, hb⟩
  replace X0 := X0.next hb
  replace pX0 : _ := X0.c0
  replace qX0 : _ := X0.c1
  replace Ms0 := Ms0.below hb
  replace Rs0 := Rs0.next hb
  have hb3 := hb2.trans (hb.mono hb2.size)
  have Z3 := Lib.hid (show w2.heap.size ≤ w3.heap.size by have := hb.size; simpa [size_setCell_] using this)
  clear hb
  clear Ms0
  clear Rs0
  go_wp2_with fail
  refine (toMatrix_any c0 a0 n0 cap0 z0 _ (h0.from hb3) (by omega)).mono ?_
  rintro e w4 ⟨bx0, rfl, gex0, hb, Mx0⟩
  replace X0 := X0.next hb
  replace pX0 : _ := X0.c0
  replace qX0 : _ := X0.c1
  have hb4 := hb3.trans (hb.mono hb3.size)
  have Z4 := Lib.hid (show w3.heap.size ≤ w4.heap.size by have := hb.size; simpa [size_setCell_] using this)
  clear hb
  have Rx0 := Mx0.res (cap := n0) (B := w3.heap.size) (by simpa using gex0)
  have hb := below_alloc1 w4 (.cells #[.int .i64 c0, .slice (some ⟨bx0, 0, none⟩) n0 n0] 28)
  replace X0 := X0.next hb
  replace pX0 : _ := X0.c0
  replace qX0 : _ := X0.c1
  replace Mx0 := Mx0.below hb
  replace Rx0 := Rx0.next hb
  have hc4 := hb4.trans (hb.mono hb4.size)
  clear hb
  have Bx0 := Box.one w4 (.int .i64 c0) (.slice (some ⟨bx0, 0, none⟩) n0 n0) 28
  have pBx0 : _ := Bx0.c0
  have qBx0 : _ := Bx0.c1
  go_wp2_with fail
  have S := implIsSpace_any c0 bx0 n0 n0 z0 _ Mx0 (hT.below hc4)
  rw [HR.out] at S
  try dsimp only at S
  refine S.mono ?_
  clear S
  rintro e w5 ⟨rfl, hb⟩
  replace X0 := X0.next hb
  replace pX0 : _ := X0.c0
  replace qX0 : _ := X0.c1
  replace Mx0 := Mx0.below hb
  replace Rx0 := Rx0.next hb
  replace Bx0 := Bx0.next hb
  replace pBx0 : _ := Bx0.c0
  replace qBx0 : _ := Bx0.c1
  have hb5 := hc4.trans (hb.mono hc4.size)
  have Z5 := Lib.hid (show w4.heap.size + 1 ≤ w5.heap.size by have := hb.size; simpa [size_setCell_] using this)
  clear hb
  clear Mx0
  go_wp2_with fail
  obtain ⟨Φ1, hΦ⟩ : ∃ Φ : World → Prop, Φ = fun W => (Below w.heap.size w W ∧ w5.heap.size ≤ W.heap.size ∧ Box W w.heap.size (.int .i64 c0) (.slice a0 n0 cap0) ∧ Res W (w3.heap.size) (w4.heap.size) (.slice (some ⟨bx0, 0, none⟩) n0 n0) z0 ∧ Box W w4.heap.size (.int .i64 c0) (.slice (some ⟨bx0, 0, none⟩) n0 n0)) := ⟨_, rfl⟩
  have F1 : Φ1 w5 := by rw [hΦ]; exact ⟨hb5, (by first | exact Nat.le_refl _ | simp | simp [size_setCell_]), X0, Rx0, Bx0⟩
  have SP1 : ∀ W W' : World, Φ1 W → Below W.heap.size W W' → Φ1 W' := by intro W W' h hb; rw [hΦ] at h ⊢; exact ⟨(h.1.trans (hb.mono h.1.size)), (Nat.le_trans h.2.1 hb.size), (h.2.2.1.next hb), (h.2.2.2.1.next hb), (h.2.2.2.2.next hb)⟩
  have C1B : ∀ W, Φ1 W → Below w.heap.size w W := fun W h => by rw [hΦ] at h; exact h.1
  have C1Z : ∀ W, Φ1 W → w5.heap.size ≤ W.heap.size := fun W h => by rw [hΦ] at h; exact h.2.1
  have C1X0 : ∀ W, Φ1 W → Box W w.heap.size (.int .i64 c0) (.slice a0 n0 cap0) := fun W h => by rw [hΦ] at h; exact h.2.2.1
  have C1Rx0 : ∀ W, Φ1 W → Res W (w3.heap.size) (w4.heap.size) (.slice (some ⟨bx0, 0, none⟩) n0 n0) z0 := fun W h => by rw [hΦ] at h; exact h.2.2.2.1
  have C1Bx0 : ∀ W, Φ1 W → Box W w4.heap.size (.int .i64 c0) (.slice (some ⟨bx0, 0, none⟩) n0 n0) := fun W h => by rw [hΦ] at h; exact h.2.2.2.2
  have D1 : Φ1 (World.drew w5) := SP1 _ _ F1 (Below.refl _ _).drew
  clear hΦ F1 hb5
  clear X0 pX0 qX0
  clear Rx0
  clear Bx0 pBx0 qBx0
  replace SP1 := Lib.hid SP1
  replace C1B := Lib.hid C1B
  replace C1Z := Lib.hid C1Z
  replace C1X0 := Lib.hid C1X0
  replace C1Rx0 := Lib.hid C1Rx0
  replace C1Bx0 := Lib.hid C1Bx0
  go_region_held3 (fun w' => w'.cell? ⟨w.heap.size, 0, none⟩ = some (.int .i64 c0) ∧ w'.cell? ⟨w.heap.size, 1, none⟩ = some (.slice a0 n0 cap0) ∧ w'.cell? ⟨w4.heap.size, 0, none⟩ = some (.int .i64 c0) ∧ w'.cell? ⟨w4.heap.size, 1, none⟩ = some (.slice (some ⟨bx0, 0, none⟩) n0 n0) ∧ Φ1 w') (first | exact ⟨(C1X0.out _ D1).c0, (C1X0.out _ D1).c1, (C1Bx0.out _ D1).c0, (C1Bx0.out _ D1).c1, D1⟩ | exact ⟨by assumption, by assumption, by assumption, by assumption, by assumption⟩) (first | (go_at_call 18; with_reducible refine (toMatrix_any c0 a0 n0 cap0 z0 _ (h0.from (C1B.out _ (by assumption))) (by omega)).mono ?_; rintro e w6 ⟨by0, rfl, gey0, hb6r, My0⟩; have G6 : Φ1 w6 := SP1.out _ _ (by assumption) hb6r; have pX06 := (C1X0.out _ G6).c0; have qX06 := (C1X0.out _ G6).c1; have pBx06 := (C1Bx0.out _ G6).c0; have qBx06 := (C1Bx0.out _ G6).c1; have Ry0 := My0.res (cap := n0) (Nat.zero_le _); clear hb6r gey0) | (go_at_call 20; refine (eqMatrix_res c0 (C1Rx0.out _ (by assumption)) Ry0).mono ?_; rintro e w7 ⟨rfl, hb7r⟩; have G7 : Φ1 w7 := SP1.out _ _ (by assumption) hb7r; have pX07 := (C1X0.out _ G7).c0; have qX07 := (C1X0.out _ G7).c1; have pBx07 := (C1Bx0.out _ G7).c0; have qBx07 := (C1Bx0.out _ G7).c1; replace My0 := My0.below hb7r; replace Ry0 := Ry0.next hb7r; clear hb7r))
  have Z7 := Lib.hid (C1Z.out _ G7)
  have hb7 := C1B.out _ G7
  have X0 := C1X0.out _ G7
  have pX0 : _ := X0.c0
  have qX0 : _ := X0.c1
  have Rx0 := C1Rx0.out _ G7
  have Bx0 := C1Bx0.out _ G7
  have pBx0 : _ := Bx0.c0
  have qBx0 : _ := Bx0.c1
  go_wp2_with fail
  go_ret
  exact ⟨rfl, hb7⟩

set_option maxRecDepth 100000 in
theorem lifted (os : Os) (started : os.Started) (H : Type) (enc : TypeId × Value → H) :
    ReturnsInHanded {} Tryd.checked os 7 .any (fun w args => (Rows.fnExactIsSpaceSpec.pre enc Tryd.prog Tryd.f7 [] false w args ∧ laidMetH Tryd.prog listed w) ∧ sizedMet enc Tryd.prog Tryd.f7 (OpenSpec.ofChange Rows.fnExactIsSpaceSpec) false w args)
      (Rows.fnExactIsSpaceSpec.post enc Tryd.prog Tryd.f7 false true false false) := by
  refine returnsInHanded_of_change_and (C := Tryd.checked) (X := fun w _ => laidMetH Tryd.prog listed w) (fun _ _ _ hh h => h.of_heap hh) own started (by kernel_rfl) Tryd.func7
    (ChangeSpec.witness_shaped (enc := enc) (C := Tryd.checked) (os := os) (X := fun w _ => laidMetH Tryd.prog listed w) false (World.doorLaid Tryd.prog 400 os) #[.agg #[.int .i64 0, .slice none 0 0]] 8 rfl (World.shaped_of_RefB (by kernel_rfl) (by kernel_rfl)) (by kernel_rfl) (by kernel_rfl) (by kernel_rfl) (door_met os _)) ?_
  intro W base args ds gs before hval0 hW _ _ hL _
  have hval : ∀ (j : Nat) t v, Tryd.f7.params[j]? = some t → args[j]? = some v → Value.okWide Tryd.prog W .any base t v := hval0
  have hT := tab_of_laid hL
  have hW' := hW
  obtain ⟨p, q, hA0, hV, rfl, hfz, hnd⟩ := hW
  have hA : DataW.TrodAll enc Tryd.prog W 0 (fun _ => true) true Tryd.f7.params.toList args.toList ds p := hA0
  rw [Tryd.params7] at hA hval
  obtain ⟨v0, vs0, dd0, ds0, pp0, qq0, hargs, rfl, rfl, h0, r0⟩ := trodAll_cons hA
  obtain ⟨rfl, rfl, rfl⟩ := trodAll_nil r0
  obtain rfl : args = #[v0] := by cases args; simp_all
  obtain ⟨rfl, rfl⟩ := trodVars_none hV
  have k0 := h0
  have lt0 : ∀ x ∈ pp0, x.block < W.heap.size := by obtain ⟨m, hm⟩ := k0; exact DataW.trod_lt m _ _ _ hm
  obtain ⟨u0, e0, y0, q0, m0, rfl, rfl, rfl, hy0, hz0⟩ := open_agg2 Tryd.underlying24 (by kernel_rfl) cellsMat (hval 0 24 v0 rfl rfl) h0
  obtain ⟨c0, ec0, rfl, wc0⟩ := DataW.trod_int Tryd.underlying2 hy0
  simp at ec0; subst ec0
  obtain ⟨a0, n0, cap0, z0, rfl, w0⟩ := arg_open hz0
  clear hA0 hval0
  refine (walk c0 a0 n0 cap0 z0 W hT w0).mono fun e W' ⟨he, bel⟩ => ?_
  subst he
  exact ⟨_, rfl, _, _, _, [], _, [], hW', trodAll_mk1 (shut_bool Tryd.underlying4 _), (trodAll_cons_mk (Below.trod laidOut (by kernel_rfl) (of_decide_eq_true (by kernel_rfl)) k0 bel lt0) trodAll_mk0), rfl, bel.frame _, fun h => by cases h⟩

theorem over : Rows.fnExactIsSpaceRow.holds Tryd.pinned (OpenSpec.ofChange Rows.fnExactIsSpaceSpec) :=
  OpenClaim.holds_of_wide 7 Tryd.f7 rfl rfl rfl rfl rfl rfl rfl ⟨rfl, rfl, rfl, rfl, rfl⟩ rfl rfl rfl rfl rfl (by kernel_rfl) Tryd.func7 (by kernel_rfl)
    (of_decide_eq_true (by kernel_rfl)) (by unfold Func.isWrapper; first | (rw [if_pos (by decide +kernel)]; kernel_rfl) | (rw [if_neg (by decide +kernel)]; exact ⟨rfl, rfl⟩))
    (fun os started H enc _ => lifted os started H enc)

theorem proved : Rows.FnExactIsSpaceCardSaid :=
  Claim7.holds_tied_plain_at .later [] [.data] true Rows.fnExactIsSpaceCard.stood.harness false
    over (fun _ h => by cases h) (by kernel_rfl) (fun _ h => by cases h) fnExactIsSpace_row_tie rfl ⟨rfl, rfl⟩ (by kernel_rfl) rfl
    (fun f fn hf hfn => by
      obtain rfl : f = 7 := Option.some.inj ((show Tryd.prog.funcNamed "loop.example/g01144/laws.FnExactIsSpace" = some 7 by kernel_rfl).symm.trans hf) |>.symm
      obtain rfl : fn = Tryd.f7 := (Option.some.inj (Tryd.func7.symm.trans hfn)).symm
      exact ⟨by kernel_rfl, fun j t ht => by
        rw [Tryd.params7] at ht
        have hm : t ∈ [24] := by simpa using Array.mem_of_getElem? ht
        have hall : ([24].all fun u => !Tryd.prog.wantsStandIn u) = true := by kernel_rfl
        exact (show Tryd.prog.wantsStandIn t = false by simpa using List.all_eq_true.1 hall t hm)⟩)
    (by kernel_rfl)
#print axioms proved
end Go.Proofs.YtfhalaohegdbhaaDoor.fnExactIsSpace
