/- FnExactTurnMatrix: for every input the law returns true, and every argument reads afterwards as it read before. No condition. -/
import Derived.Test.YtfhalaohegdbhaaRows
import Derived.WalkKit
import Derived.ProofKit
import Derived.OpenShut
import Derived.ChangeOld
import Derived.Below
import Derived.Lib.SmallJoins
import Derived.Test.YtfhalaohegdbhaaTurnMatrix
import Derived.Test.YtfhalaohegdbhaaRes
import Derived.Test.YtfhalaohegdbhaaArg
import Derived.Test.YtfhalaohegdbhaaValid
namespace Go.Proofs.Ytfhalaohegdbhaa.fnExactTurnMatrix
open Go.ChangeShapes Go.WideShapes Go.ChangeAt Go.RowKit Go.Joins
set_option linter.unusedVariables false

theorem own : ownKnob Try.prog.godebug = none := by kernel_rfl
theorem laidOut : laidOutB Try.prog = true := by kernel_rfl
theorem cellsMat : Try.prog.cellsOf 24 = 2 := by kernel_rfl

set_option maxHeartbeats 6400000 in
theorem walk (c0 : Int) (a0 : Option Addr) (n0 cap0 : Nat) (z0 : List Int) (w : World) (h0 : Arg w a0 n0 z0) :
    Calls Try.prog 3 #[.agg #[.int .i64 c0, .slice a0 n0 cap0]] w fun e w' => e = .returned (.bool true) ∧ Below w.heap.size w w' := by
  by_cases hn0 : n0 ≤ 1048576
  rotate_left
  · skip
    go_enter Try.func3, Try.ntmps3
    have hb0 := below_alloc1 w (.cells #[.int .i64 c0, .slice a0 n0 cap0] 24)
    have X0 := Box.one w (.int .i64 c0) (.slice a0 n0 cap0) 24
    have pX0 : _ := X0.c0
    have qX0 : _ := X0.c1
    go_wp2_with fail
    refine (szMatrix_no c0 a0 n0 cap0 h0.big (1048576) (by omega) (by omega) (by omega) _).mono ?_
    rintro e w1 ⟨rfl, hb⟩
    replace X0 := X0.next hb
    replace pX0 : _ := X0.c0
    replace qX0 : _ := X0.c1
    have hb1 := hb0.trans (hb.mono hb0.size)
    have Z1 := Lib.hid (show w.heap.size + 1 ≤ w1.heap.size by have := hb.size; simpa [size_setCell_] using this)
    clear hb
    go_wp2_with fail
    go_ret
    exact ⟨rfl, hb1⟩
  obtain ⟨r, hr⟩ : ∃ r, fTurnMatrix c0 z0 = r := ⟨_, rfl⟩
  have HR := Lib.hid hr
  clear hr
  obtain ⟨r1, r2, r3⟩ := r
  have l0 := h0.len
  go_enter Try.func3, Try.ntmps3
  have hb0 := below_alloc1 w (.cells #[.int .i64 c0, .slice a0 n0 cap0] 24)
  have X0 := Box.one w (.int .i64 c0) (.slice a0 n0 cap0) 24
  have pX0 : _ := X0.c0
  have qX0 : _ := X0.c1
  go_wp2_with fail
  refine (szMatrix_ok c0 a0 n0 cap0 (1048576) (by omega) (by omega) _).mono ?_
  rintro e w1 ⟨rfl, hb⟩
  replace X0 := X0.next hb
  replace pX0 : _ := X0.c0
  replace qX0 : _ := X0.c1
  have hb1 := hb0.trans (hb.mono hb0.size)
  have Z1 := Lib.hid (show w.heap.size + 1 ≤ w1.heap.size by have := hb.size; simpa [size_setCell_] using this)
  clear hb
  go_wp2_with fail
  refine (toMatrix_any c0 a0 n0 cap0 z0 _ (h0.from hb1) (by omega)).mono ?_
  rintro e w2 ⟨bs0, rfl, ges0, hb, Ms0⟩
  replace X0 := X0.next hb
  replace pX0 : _ := X0.c0
  replace qX0 : _ := X0.c1
  have hb2 := hb1.trans (hb.mono hb1.size)
  have Z2 := Lib.hid (show w1.heap.size ≤ w2.heap.size by have := hb.size; simpa [size_setCell_] using this)
  clear hb
  have Rs0 := Ms0.res (cap := n0) (B := w1.heap.size) (by simpa using ges0)
  go_wp2_with fail
  have S := specTurnMatrix_any c0 bs0 n0 n0 z0 _ Ms0
  rw [HR.out] at S
  try dsimp only at S
  refine S.mono ?_
  clear S
  rintro e w3 ⟨vw, rfl, hb, Rw⟩
  replace X0 := X0.next hb
  replace pX0 : _ := X0.c0
  replace qX0 : _ := X0.c1
  replace Ms0 := Ms0.below hb
  replace Rs0 := Rs0.next hb
  have hb3 := hb2.trans (hb.mono hb2.size)
  have Z3 := Lib.hid (show w2.heap.size ≤ w3.heap.size by have := hb.size; simpa [size_setCell_] using this)
  clear hb
  replace Rw : Res w3 (w2.heap.size) (w3.heap.size) vw r2 := by simpa using Rw
  obtain ⟨aow, mow, cow, rfl⟩ := Rw.form
  have hb := below_alloc1 w3 (.cells #[.int .i64 r1, .slice aow mow cow] 26)
  replace X0 := X0.next hb
  replace pX0 : _ := X0.c0
  replace qX0 : _ := X0.c1
  replace Ms0 := Ms0.below hb
  replace Rs0 := Rs0.next hb
  replace Rw := Rw.next hb
  have hc3 := hb3.trans (hb.mono hb3.size)
  clear hb
  have Bw := Box.one w3 (.int .i64 r1) (.slice aow mow cow) 26
  have pBw : _ := Bw.c0
  have qBw : _ := Bw.c1
  clear Ms0
  clear Rs0
  go_wp2_with fail
  refine (toMatrix_any c0 a0 n0 cap0 z0 _ (h0.from hc3) (by omega)).mono ?_
  rintro e w4 ⟨bx0, rfl, gex0, hb, Mx0⟩
  replace X0 := X0.next hb
  replace pX0 : _ := X0.c0
  replace qX0 : _ := X0.c1
  replace Rw := Rw.next hb
  replace Bw := Bw.next hb
  replace pBw : _ := Bw.c0
  replace qBw : _ := Bw.c1
  have hb4 := hc3.trans (hb.mono hc3.size)
  have Z4 := Lib.hid (show w3.heap.size + 1 ≤ w4.heap.size by have := hb.size; simpa [size_setCell_] using this)
  clear hb
  have Rx0 := Mx0.res (cap := n0) (B := w3.heap.size + 1) (by simpa using gex0)
  have hb := below_alloc1 w4 (.cells #[.int .i64 c0, .slice (some ⟨bx0, 0, none⟩) n0 n0] 26)
  replace X0 := X0.next hb
  replace pX0 : _ := X0.c0
  replace qX0 : _ := X0.c1
  replace Rw := Rw.next hb
  replace Bw := Bw.next hb
  replace pBw : _ := Bw.c0
  replace qBw : _ := Bw.c1
  replace Mx0 := Mx0.below hb
  replace Rx0 := Rx0.next hb
  have hc4 := hb4.trans (hb.mono hb4.size)
  clear hb
  have Bx0 := Box.one w4 (.int .i64 c0) (.slice (some ⟨bx0, 0, none⟩) n0 n0) 26
  have pBx0 : _ := Bx0.c0
  have qBx0 : _ := Bx0.c1
  go_wp2_with fail
  have S := implTurnMatrix_any c0 bx0 n0 n0 z0 _ Mx0
  rw [HR.out] at S
  try dsimp only at S
  refine S.mono ?_
  clear S
  rintro e w5 ⟨vg, rfl, hb, Rg⟩
  replace X0 := X0.next hb
  replace pX0 : _ := X0.c0
  replace qX0 : _ := X0.c1
  replace Rw := Rw.next hb
  replace Bw := Bw.next hb
  replace pBw : _ := Bw.c0
  replace qBw : _ := Bw.c1
  replace Mx0 := Mx0.below hb
  replace Rx0 := Rx0.next hb
  replace Bx0 := Bx0.next hb
  replace pBx0 : _ := Bx0.c0
  replace qBx0 : _ := Bx0.c1
  have hb5 := hc4.trans (hb.mono hc4.size)
  have Z5 := Lib.hid (show w4.heap.size + 1 ≤ w5.heap.size by have := hb.size; simpa [size_setCell_] using this)
  clear hb
  replace Rg : Res w5 (w4.heap.size + 1) (w5.heap.size) vg r2 := by simpa using Rg
  obtain ⟨aog, mog, cog, rfl⟩ := Rg.form
  have hb := below_alloc1 w5 (.cells #[.int .i64 r1, .slice aog mog cog] 26)
  replace X0 := X0.next hb
  replace pX0 : _ := X0.c0
  replace qX0 : _ := X0.c1
  replace Rw := Rw.next hb
  replace Bw := Bw.next hb
  replace pBw : _ := Bw.c0
  replace qBw : _ := Bw.c1
  replace Mx0 := Mx0.below hb
  replace Rx0 := Rx0.next hb
  replace Bx0 := Bx0.next hb
  replace pBx0 : _ := Bx0.c0
  replace qBx0 : _ := Bx0.c1
  replace Rg := Rg.next hb
  have hc5 := hb5.trans (hb.mono hb5.size)
  clear hb
  have Bg := Box.one w5 (.int .i64 r1) (.slice aog mog cog) 26
  have pBg : _ := Bg.c0
  have qBg : _ := Bg.c1
  clear Mx0
  go_wp2_with fail
  refine (eqMatrix_res r1 Rg Rw).mono ?_
  rintro e w6 ⟨rfl, hb⟩
  replace X0 := X0.next hb
  replace pX0 : _ := X0.c0
  replace qX0 : _ := X0.c1
  replace Rw := Rw.next hb
  replace Bw := Bw.next hb
  replace pBw : _ := Bw.c0
  replace qBw : _ := Bw.c1
  replace Rx0 := Rx0.next hb
  replace Bx0 := Bx0.next hb
  replace pBx0 : _ := Bx0.c0
  replace qBx0 : _ := Bx0.c1
  replace Rg := Rg.next hb
  replace Bg := Bg.next hb
  replace pBg : _ := Bg.c0
  replace qBg : _ := Bg.c1
  have hb6 := hc5.trans (hb.mono hc5.size)
  have Z6 := Lib.hid (show w5.heap.size + 1 ≤ w6.heap.size by have := hb.size; simpa [size_setCell_] using this)
  clear hb
  go_wp2_with fail
  obtain ⟨Φ1, hΦ⟩ : ∃ Φ : World → Prop, Φ = fun W => (Below w.heap.size w W ∧ w6.heap.size ≤ W.heap.size ∧ Box W w.heap.size (.int .i64 c0) (.slice a0 n0 cap0) ∧ Res W (w2.heap.size) (w3.heap.size) (.slice aow mow cow) r2 ∧ Box W w3.heap.size (.int .i64 r1) (.slice aow mow cow) ∧ Res W (w3.heap.size + 1) (w4.heap.size) (.slice (some ⟨bx0, 0, none⟩) n0 n0) z0 ∧ Box W w4.heap.size (.int .i64 c0) (.slice (some ⟨bx0, 0, none⟩) n0 n0) ∧ Res W (w4.heap.size + 1) (w5.heap.size) (.slice aog mog cog) r2 ∧ Box W w5.heap.size (.int .i64 r1) (.slice aog mog cog)) := ⟨_, rfl⟩
  have F1 : Φ1 w6 := by rw [hΦ]; exact ⟨hb6, (by first | exact Nat.le_refl _ | simp | simp [size_setCell_]), X0, Rw, Bw, Rx0, Bx0, Rg, Bg⟩
  have SP1 : ∀ W W' : World, Φ1 W → Below W.heap.size W W' → Φ1 W' := by intro W W' h hb; rw [hΦ] at h ⊢; exact ⟨(h.1.trans (hb.mono h.1.size)), (Nat.le_trans h.2.1 hb.size), (h.2.2.1.next hb), (h.2.2.2.1.next hb), (h.2.2.2.2.1.next hb), (h.2.2.2.2.2.1.next hb), (h.2.2.2.2.2.2.1.next hb), (h.2.2.2.2.2.2.2.1.next hb), (h.2.2.2.2.2.2.2.2.next hb)⟩
  have C1B : ∀ W, Φ1 W → Below w.heap.size w W := fun W h => by rw [hΦ] at h; exact h.1
  have C1Z : ∀ W, Φ1 W → w6.heap.size ≤ W.heap.size := fun W h => by rw [hΦ] at h; exact h.2.1
  have C1X0 : ∀ W, Φ1 W → Box W w.heap.size (.int .i64 c0) (.slice a0 n0 cap0) := fun W h => by rw [hΦ] at h; exact h.2.2.1
  have C1Rw : ∀ W, Φ1 W → Res W (w2.heap.size) (w3.heap.size) (.slice aow mow cow) r2 := fun W h => by rw [hΦ] at h; exact h.2.2.2.1
  have C1Bw : ∀ W, Φ1 W → Box W w3.heap.size (.int .i64 r1) (.slice aow mow cow) := fun W h => by rw [hΦ] at h; exact h.2.2.2.2.1
  have C1Rx0 : ∀ W, Φ1 W → Res W (w3.heap.size + 1) (w4.heap.size) (.slice (some ⟨bx0, 0, none⟩) n0 n0) z0 := fun W h => by rw [hΦ] at h; exact h.2.2.2.2.2.1
  have C1Bx0 : ∀ W, Φ1 W → Box W w4.heap.size (.int .i64 c0) (.slice (some ⟨bx0, 0, none⟩) n0 n0) := fun W h => by rw [hΦ] at h; exact h.2.2.2.2.2.2.1
  have C1Rg : ∀ W, Φ1 W → Res W (w4.heap.size + 1) (w5.heap.size) (.slice aog mog cog) r2 := fun W h => by rw [hΦ] at h; exact h.2.2.2.2.2.2.2.1
  have C1Bg : ∀ W, Φ1 W → Box W w5.heap.size (.int .i64 r1) (.slice aog mog cog) := fun W h => by rw [hΦ] at h; exact h.2.2.2.2.2.2.2.2
  have D1 : Φ1 (World.drew w6) := SP1 _ _ F1 (Below.refl _ _).drew
  clear hΦ F1 hb6
  clear X0 pX0 qX0
  clear Rw
  clear Bw pBw qBw
  clear Rx0
  clear Bx0 pBx0 qBx0
  clear Rg
  clear Bg pBg qBg
  replace SP1 := Lib.hid SP1
  replace C1B := Lib.hid C1B
  replace C1Z := Lib.hid C1Z
  replace C1X0 := Lib.hid C1X0
  replace C1Rw := Lib.hid C1Rw
  replace C1Bw := Lib.hid C1Bw
  replace C1Rx0 := Lib.hid C1Rx0
  replace C1Bx0 := Lib.hid C1Bx0
  replace C1Rg := Lib.hid C1Rg
  replace C1Bg := Lib.hid C1Bg
  go_region_held3 (fun w' => w'.cell? ⟨w.heap.size, 0, none⟩ = some (.int .i64 c0) ∧ w'.cell? ⟨w.heap.size, 1, none⟩ = some (.slice a0 n0 cap0) ∧ w'.cell? ⟨w3.heap.size, 0, none⟩ = some (.int .i64 r1) ∧ w'.cell? ⟨w3.heap.size, 1, none⟩ = some (.slice aow mow cow) ∧ w'.cell? ⟨w4.heap.size, 0, none⟩ = some (.int .i64 c0) ∧ w'.cell? ⟨w4.heap.size, 1, none⟩ = some (.slice (some ⟨bx0, 0, none⟩) n0 n0) ∧ w'.cell? ⟨w5.heap.size, 0, none⟩ = some (.int .i64 r1) ∧ w'.cell? ⟨w5.heap.size, 1, none⟩ = some (.slice aog mog cog) ∧ Φ1 w') (first | exact ⟨(C1X0.out _ D1).c0, (C1X0.out _ D1).c1, (C1Bw.out _ D1).c0, (C1Bw.out _ D1).c1, (C1Bx0.out _ D1).c0, (C1Bx0.out _ D1).c1, (C1Bg.out _ D1).c0, (C1Bg.out _ D1).c1, D1⟩ | exact ⟨by assumption, by assumption, by assumption, by assumption, by assumption, by assumption, by assumption, by assumption, by assumption⟩) (first | (go_at_call 8; with_reducible refine (toMatrix_any c0 a0 n0 cap0 z0 _ (h0.from (C1B.out _ (by assumption))) (by omega)).mono ?_; rintro e w7 ⟨by0, rfl, gey0, hb7r, My0⟩; have G7 : Φ1 w7 := SP1.out _ _ (by assumption) hb7r; have pX07 := (C1X0.out _ G7).c0; have qX07 := (C1X0.out _ G7).c1; have pBw7 := (C1Bw.out _ G7).c0; have qBw7 := (C1Bw.out _ G7).c1; have pBx07 := (C1Bx0.out _ G7).c0; have qBx07 := (C1Bx0.out _ G7).c1; have pBg7 := (C1Bg.out _ G7).c0; have qBg7 := (C1Bg.out _ G7).c1; have Ry0 := My0.res (cap := n0) (Nat.zero_le _); clear hb7r gey0) | (go_at_call 10; refine (eqMatrix_res c0 (C1Rx0.out _ (by assumption)) Ry0).mono ?_; rintro e w8 ⟨rfl, hb8r⟩; have G8 : Φ1 w8 := SP1.out _ _ (by assumption) hb8r; have pX08 := (C1X0.out _ G8).c0; have qX08 := (C1X0.out _ G8).c1; have pBw8 := (C1Bw.out _ G8).c0; have qBw8 := (C1Bw.out _ G8).c1; have pBx08 := (C1Bx0.out _ G8).c0; have qBx08 := (C1Bx0.out _ G8).c1; have pBg8 := (C1Bg.out _ G8).c0; have qBg8 := (C1Bg.out _ G8).c1; replace My0 := My0.below hb8r; replace Ry0 := Ry0.next hb8r; clear hb8r))
  have Z8 := Lib.hid (C1Z.out _ G8)
  have hb8 := C1B.out _ G8
  have X0 := C1X0.out _ G8
  have pX0 : _ := X0.c0
  have qX0 : _ := X0.c1
  have Rw := C1Rw.out _ G8
  have Bw := C1Bw.out _ G8
  have pBw : _ := Bw.c0
  have qBw : _ := Bw.c1
  have Rx0 := C1Rx0.out _ G8
  have Bx0 := C1Bx0.out _ G8
  have pBx0 : _ := Bx0.c0
  have qBx0 : _ := Bx0.c1
  have Rg := C1Rg.out _ G8
  have Bg := C1Bg.out _ G8
  have pBg : _ := Bg.c0
  have qBg : _ := Bg.c1
  have l2 := Rg.small
  go_wp2_with fail
  refine (markMatrix_res c0 Rx0 (1) (by omega) (by omega)).mono ?_
  rintro e w9 ⟨rfl, hC, HM⟩
  replace X0 := X0.chg hC (by have := Z1.out; have := Z2.out; have := Z3.out; have := Z4.out; have := Z5.out; have := Z6.out; have := Z8.out; omega)
  replace pX0 : _ := X0.c0
  replace qX0 : _ := X0.c1
  replace Rw := Rw.chg hC (by have := Z1.out; have := Z2.out; have := Z3.out; have := Z4.out; have := Z5.out; have := Z6.out; have := Z8.out; omega)
  replace Bw := Bw.chg hC (by have := Z1.out; have := Z2.out; have := Z3.out; have := Z4.out; have := Z5.out; have := Z6.out; have := Z8.out; omega)
  replace pBw : _ := Bw.c0
  replace qBw : _ := Bw.c1
  replace Bx0 := Bx0.chg hC (by have := Z1.out; have := Z2.out; have := Z3.out; have := Z4.out; have := Z5.out; have := Z6.out; have := Z8.out; omega)
  replace pBx0 : _ := Bx0.c0
  replace qBx0 : _ := Bx0.c1
  replace Rg := Rg.chg hC (by have := Z1.out; have := Z2.out; have := Z3.out; have := Z4.out; have := Z5.out; have := Z6.out; have := Z8.out; omega)
  replace Bg := Bg.chg hC (by have := Z1.out; have := Z2.out; have := Z3.out; have := Z4.out; have := Z5.out; have := Z6.out; have := Z8.out; omega)
  replace pBg : _ := Bg.c0
  replace qBg : _ := Bg.c1
  have hb9 := Chg.below hb8 hb8.size hC (by have := Z1.out; have := Z2.out; have := Z3.out; have := Z4.out; have := Z5.out; have := Z6.out; have := Z8.out; omega)
  have Z9 := Lib.hid (show w8.heap.size ≤ w9.heap.size by have := hC.size; simpa [size_setCell_] using this)
  clear hC Rx0
  clear HM
  go_wp2_with fail
  refine (eqMatrix_res r1 Rg Rw).mono ?_
  rintro e w10 ⟨rfl, hb⟩
  replace X0 := X0.next hb
  replace pX0 : _ := X0.c0
  replace qX0 : _ := X0.c1
  replace Rw := Rw.next hb
  replace Bw := Bw.next hb
  replace pBw : _ := Bw.c0
  replace qBw : _ := Bw.c1
  replace Bx0 := Bx0.next hb
  replace pBx0 : _ := Bx0.c0
  replace qBx0 : _ := Bx0.c1
  replace Rg := Rg.next hb
  replace Bg := Bg.next hb
  replace pBg : _ := Bg.c0
  replace qBg : _ := Bg.c1
  have hb10 := hb9.trans (hb.mono hb9.size)
  have Z10 := Lib.hid (show w9.heap.size ≤ w10.heap.size by have := hb.size; simpa [size_setCell_] using this)
  clear hb
  go_wp2_with fail
  refine (markMatrix_res r1 Rg (1) (by omega) (by omega)).mono ?_
  rintro e w11 ⟨rfl, hC, HM⟩
  replace X0 := X0.chg hC (by have := Z1.out; have := Z2.out; have := Z3.out; have := Z4.out; have := Z5.out; have := Z6.out; have := Z8.out; have := Z9.out; have := Z10.out; omega)
  replace pX0 : _ := X0.c0
  replace qX0 : _ := X0.c1
  replace Rw := Rw.chg hC (by have := Z1.out; have := Z2.out; have := Z3.out; have := Z4.out; have := Z5.out; have := Z6.out; have := Z8.out; have := Z9.out; have := Z10.out; omega)
  replace Bw := Bw.chg hC (by have := Z1.out; have := Z2.out; have := Z3.out; have := Z4.out; have := Z5.out; have := Z6.out; have := Z8.out; have := Z9.out; have := Z10.out; omega)
  replace pBw : _ := Bw.c0
  replace qBw : _ := Bw.c1
  replace Bx0 := Bx0.chg hC (by have := Z1.out; have := Z2.out; have := Z3.out; have := Z4.out; have := Z5.out; have := Z6.out; have := Z8.out; have := Z9.out; have := Z10.out; omega)
  replace pBx0 : _ := Bx0.c0
  replace qBx0 : _ := Bx0.c1
  replace Bg := Bg.chg hC (by have := Z1.out; have := Z2.out; have := Z3.out; have := Z4.out; have := Z5.out; have := Z6.out; have := Z8.out; have := Z9.out; have := Z10.out; omega)
  replace pBg : _ := Bg.c0
  replace qBg : _ := Bg.c1
  have hb11 := Chg.below hb10 hb10.size hC (by have := Z1.out; have := Z2.out; have := Z3.out; have := Z4.out; have := Z5.out; have := Z6.out; have := Z8.out; have := Z9.out; have := Z10.out; omega)
  have Z11 := Lib.hid (show w10.heap.size ≤ w11.heap.size by have := hC.size; simpa [size_setCell_] using this)
  clear hC Rg
  go_wp2_with fail
  refine (heldMatrix_res r1 1 r2.length HM (by omega) (by omega)).mono ?_
  rintro e w12 ⟨rfl, hb⟩
  replace X0 := X0.next hb
  replace pX0 : _ := X0.c0
  replace qX0 : _ := X0.c1
  replace Rw := Rw.next hb
  replace Bw := Bw.next hb
  replace pBw : _ := Bw.c0
  replace qBw : _ := Bw.c1
  replace Bx0 := Bx0.next hb
  replace pBx0 : _ := Bx0.c0
  replace qBx0 : _ := Bx0.c1
  replace Bg := Bg.next hb
  replace pBg : _ := Bg.c0
  replace qBg : _ := Bg.c1
  replace HM := HM.next hb
  have hb12 := hb11.trans (hb.mono hb11.size)
  have Z12 := Lib.hid (show w11.heap.size ≤ w12.heap.size by have := hb.size; simpa [size_setCell_] using this)
  clear hb
  go_wp2_with fail
  refine (toMatrix_any c0 a0 n0 cap0 z0 _ (h0.from hb12) (by omega)).mono ?_
  rintro e w13 ⟨bt0, rfl, get0, hb, Mt0⟩
  replace X0 := X0.next hb
  replace pX0 : _ := X0.c0
  replace qX0 : _ := X0.c1
  replace Rw := Rw.next hb
  replace Bw := Bw.next hb
  replace pBw : _ := Bw.c0
  replace qBw : _ := Bw.c1
  replace Bx0 := Bx0.next hb
  replace pBx0 : _ := Bx0.c0
  replace qBx0 : _ := Bx0.c1
  replace Bg := Bg.next hb
  replace pBg : _ := Bg.c0
  replace qBg : _ := Bg.c1
  replace HM := HM.next hb
  have hb13 := hb12.trans (hb.mono hb12.size)
  have Z13 := Lib.hid (show w12.heap.size ≤ w13.heap.size by have := hb.size; simpa [size_setCell_] using this)
  clear hb
  have Rt0 := Mt0.res (cap := n0) (B := w12.heap.size) (by simpa using get0)
  go_wp2_with fail
  have S := implTurnMatrix_any c0 bt0 n0 n0 z0 _ Mt0
  rw [HR.out] at S
  try dsimp only at S
  refine S.mono ?_
  clear S
  rintro e w14 ⟨vh, rfl, hb, Rh⟩
  replace X0 := X0.next hb
  replace pX0 : _ := X0.c0
  replace qX0 : _ := X0.c1
  replace Rw := Rw.next hb
  replace Bw := Bw.next hb
  replace pBw : _ := Bw.c0
  replace qBw : _ := Bw.c1
  replace Bx0 := Bx0.next hb
  replace pBx0 : _ := Bx0.c0
  replace qBx0 : _ := Bx0.c1
  replace Bg := Bg.next hb
  replace pBg : _ := Bg.c0
  replace qBg : _ := Bg.c1
  replace HM := HM.next hb
  replace Mt0 := Mt0.below hb
  replace Rt0 := Rt0.next hb
  have hb14 := hb13.trans (hb.mono hb13.size)
  have Z14 := Lib.hid (show w13.heap.size ≤ w14.heap.size by have := hb.size; simpa [size_setCell_] using this)
  clear hb
  replace Rh : Res w14 (w13.heap.size) (w14.heap.size) vh r2 := by simpa using Rh
  obtain ⟨aoh, moh, coh, rfl⟩ := Rh.form
  have hb := below_alloc1 w14 (.cells #[.int .i64 r1, .slice aoh moh coh] 26)
  replace X0 := X0.next hb
  replace pX0 : _ := X0.c0
  replace qX0 : _ := X0.c1
  replace Rw := Rw.next hb
  replace Bw := Bw.next hb
  replace pBw : _ := Bw.c0
  replace qBw : _ := Bw.c1
  replace Bx0 := Bx0.next hb
  replace pBx0 : _ := Bx0.c0
  replace qBx0 : _ := Bx0.c1
  replace Bg := Bg.next hb
  replace pBg : _ := Bg.c0
  replace qBg : _ := Bg.c1
  replace HM := HM.next hb
  replace Mt0 := Mt0.below hb
  replace Rt0 := Rt0.next hb
  replace Rh := Rh.next hb
  have hc14 := hb14.trans (hb.mono hb14.size)
  clear hb
  have Bh := Box.one w14 (.int .i64 r1) (.slice aoh moh coh) 26
  have pBh : _ := Bh.c0
  have qBh : _ := Bh.c1
  clear Mt0
  clear Rt0
  go_wp2_with fail
  refine (eqMatrix_res r1 Rh Rw).mono ?_
  rintro e w15 ⟨rfl, hb⟩
  replace X0 := X0.next hb
  replace pX0 : _ := X0.c0
  replace qX0 : _ := X0.c1
  replace Rw := Rw.next hb
  replace Bw := Bw.next hb
  replace pBw : _ := Bw.c0
  replace qBw : _ := Bw.c1
  replace Bx0 := Bx0.next hb
  replace pBx0 : _ := Bx0.c0
  replace qBx0 : _ := Bx0.c1
  replace Bg := Bg.next hb
  replace pBg : _ := Bg.c0
  replace qBg : _ := Bg.c1
  replace HM := HM.next hb
  replace Rh := Rh.next hb
  replace Bh := Bh.next hb
  replace pBh : _ := Bh.c0
  replace qBh : _ := Bh.c1
  have hb15 := hc14.trans (hb.mono hc14.size)
  have Z15 := Lib.hid (show w14.heap.size + 1 ≤ w15.heap.size by have := hb.size; simpa [size_setCell_] using this)
  clear hb
  go_wp2_with fail
  refine (heldMatrix_res r1 1 r2.length HM (by omega) (by omega)).mono ?_
  rintro e w16 ⟨rfl, hb⟩
  replace X0 := X0.next hb
  replace pX0 : _ := X0.c0
  replace qX0 : _ := X0.c1
  replace Rw := Rw.next hb
  replace Bw := Bw.next hb
  replace pBw : _ := Bw.c0
  replace qBw : _ := Bw.c1
  replace Bx0 := Bx0.next hb
  replace pBx0 : _ := Bx0.c0
  replace qBx0 : _ := Bx0.c1
  replace Bg := Bg.next hb
  replace pBg : _ := Bg.c0
  replace qBg : _ := Bg.c1
  replace HM := HM.next hb
  replace Rh := Rh.next hb
  replace Bh := Bh.next hb
  replace pBh : _ := Bh.c0
  replace qBh : _ := Bh.c1
  have hb16 := hb15.trans (hb.mono hb15.size)
  have Z16 := Lib.hid (show w15.heap.size ≤ w16.heap.size by have := hb.size; simpa [size_setCell_] using this)
  clear hb
  go_wp2_with fail
  go_ret
  exact ⟨rfl, hb16⟩

set_option maxRecDepth 100000 in
theorem lifted (os : Os) (started : os.Started) (H : Type) (enc : TypeId × Value → H) :
    ReturnsInHanded {} Try.checked os 3 .any (Rows.fnExactTurnMatrixSpec.pre6 enc Try.prog Try.f3 Rows.fnExactTurnMatrixRow.domain false) (Rows.fnExactTurnMatrixSpec.post enc Try.prog Try.f3 false true false false) := by
  refine returnsInHanded_of_change (C := Try.checked) own started (by kernel_rfl) Try.func3
    (ChangeSpec.witness6 (enc := enc) (C := Try.checked) false ⟨#[], #[.agg #[.int .i64 0, .slice none 0 0]], []⟩ 8 (by kernel_rfl) (by kernel_rfl) (by kernel_rfl) (by kernel_rfl)) ?_
  intro W base args ds gs before hval0 hW hcnd _
  have hval : ∀ (j : Nat) t v, Try.f3.params[j]? = some t → args[j]? = some v → Value.okWide Try.prog W .any base t v := hval0
  have hW' := hW
  obtain ⟨p, q, hA0, hV, rfl, hfz, hnd⟩ := hW
  have hA : DataW.TrodAll enc Try.prog W 0 (fun _ => true) true Try.f3.params.toList args.toList ds p := hA0
  rw [Try.params3] at hA hval
  obtain ⟨v0, vs0, dd0, ds0, pp0, qq0, hargs, rfl, rfl, h0, r0⟩ := trodAll_cons hA
  obtain ⟨rfl, rfl, rfl⟩ := trodAll_nil r0
  obtain rfl : args = #[v0] := by cases args; simp_all
  obtain ⟨rfl, rfl⟩ := trodVars_none hV
  have k0 := h0
  have lt0 : ∀ x ∈ pp0, x.block < W.heap.size := by obtain ⟨m, hm⟩ := k0; exact DataW.trod_lt m _ _ _ hm
  obtain ⟨u0, e0, y0, q0, m0, rfl, rfl, rfl, hy0, hz0⟩ := open_agg2 Try.underlying24 (by kernel_rfl) cellsMat (hval 0 24 v0 rfl rfl) h0
  obtain ⟨c0, ec0, rfl, wc0⟩ := DataW.trod_int Try.underlying2 hy0
  simp at ec0; subst ec0
  obtain ⟨a0, n0, cap0, z0, rfl, w0⟩ := arg_open hz0
  clear hA0 hval0
  refine (walk c0 a0 n0 cap0 z0 W w0).mono fun e W' ⟨he, bel⟩ => ?_
  subst he
  exact ⟨_, rfl, _, _, _, [], _, [], hW', trodAll_mk1 (shut_bool Try.underlying4 _), (trodAll_cons_mk (Below.trod laidOut (by kernel_rfl) (of_decide_eq_true (by kernel_rfl)) k0 bel lt0) trodAll_mk0), rfl, bel.frame _, fun h => by cases h⟩

theorem over : Rows.fnExactTurnMatrixRow.holds Try.pinned (OpenSpec.ofChange Rows.fnExactTurnMatrixSpec) :=
  OpenClaim.holds_of_wide 3 Try.f3 rfl rfl rfl rfl rfl rfl rfl ⟨rfl, rfl, rfl, rfl, rfl⟩ rfl rfl rfl rfl rfl (by kernel_rfl) Try.func3 (by kernel_rfl)
    (of_decide_eq_true (by kernel_rfl)) (by unfold Func.isWrapper; first | (rw [if_pos (by decide +kernel)]; kernel_rfl) | (rw [if_neg (by decide +kernel)]; exact ⟨rfl, rfl⟩))
    (fun os started H enc _ => lifted os started H enc)

theorem proved : Rows.FnExactTurnMatrixSaid :=
  over
#print axioms proved
end Go.Proofs.Ytfhalaohegdbhaa.fnExactTurnMatrix
