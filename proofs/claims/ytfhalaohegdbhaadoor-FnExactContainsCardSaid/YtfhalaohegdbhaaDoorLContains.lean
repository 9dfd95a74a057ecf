/- FnExactContains: for every input the law returns true, and every argument reads afterwards as it read before. No condition. -/
import Derived.Test.YtfhalaohegdbhaaDoorRows
import Derived.WalkKit
import Derived.ProofKit
import Derived.OpenShut
import Derived.ChangeOld
import Derived.Below
import Derived.Lib.SmallJoins
import Derived.Test.YtfhalaohegdbhaaDoorContains
import Derived.Test.YtfhalaohegdbhaaDoorRes
import Derived.Test.YtfhalaohegdbhaaDoorArg
import Derived.Test.YtfhalaohegdbhaaDoorValid
import Derived.Test.YtfhalaohegdbhaaDoorLaid
import Derived.Test.YtfhalaohegdbhaaDoorTie
import Derived.Test.YtfhalaohegdbhaaDoorCards
import Derived.SevenTiedAt
namespace Go.Proofs.YtfhalaohegdbhaaDoor.fnExactContains
open Go.ChangeShapes Go.WideShapes Go.ChangeAt Go.RowKit Go.Joins
set_option linter.unusedVariables false

theorem own : ownKnob Tryd.prog.godebug = none := by kernel_rfl
theorem laidOut : laidOutB Tryd.prog = true := by kernel_rfl
theorem cellsMat : Tryd.prog.cellsOf 24 = 2 := by kernel_rfl

set_option maxHeartbeats 6400000 in
theorem walk (c0 : Int) (a0 : Option Addr) (n0 cap0 : Nat) (z0 : List Int) (c1 : Int) (a1 : Option Addr) (n1 cap1 : Nat) (z1 : List Int) (w : World) (hT : Tab w) (h0 : Arg w a0 n0 z0) (h1 : Arg w a1 n1 z1) :
    Calls Tryd.prog 9 #[.agg #[.int .i64 c0, .slice a0 n0 cap0], .agg #[.int .i64 c1, .slice a1 n1 cap1]] w fun e w' => e = .returned (.bool true) ∧ Below w.heap.size w w' := by
  by_cases hn0 : n0 ≤ 1048576
  rotate_left
  · skip
    go_enter Tryd.func9, Tryd.ntmps9
    have hb0 := below_alloc2 w (.cells #[.int .i64 c0, .slice a0 n0 cap0] 24) (.cells #[.int .i64 c1, .slice a1 n1 cap1] 24)
    have X0 := (Box.one w (.int .i64 c0) (.slice a0 n0 cap0) 24).next (below_alloc1 _ (.cells #[.int .i64 c1, .slice a1 n1 cap1] 24))
    have pX0 : _ := X0.c0
    have qX0 : _ := X0.c1
    have X1 := Box.two w (.cells #[.int .i64 c0, .slice a0 n0 cap0] 24) (.int .i64 c1) (.slice a1 n1 cap1) 24
    have pX1 : _ := X1.c0
    have qX1 : _ := X1.c1
    go_wp2_with fail
    refine (szMatrix_no c0 a0 n0 cap0 h0.big (1048576) (by omega) (by omega) (by omega) _).mono ?_
    rintro e w1 ⟨rfl, hb⟩
    replace X0 := X0.next hb
    replace pX0 : _ := X0.c0
    replace qX0 : _ := X0.c1
    replace X1 := X1.next hb
    replace pX1 : _ := X1.c0
    replace qX1 : _ := X1.c1
    have hb1 := hb0.trans (hb.mono hb0.size)
    have Z1 := Lib.hid (show w.heap.size + 2 ≤ w1.heap.size by have := hb.size; simpa [size_setCell_] using this)
    clear hb
    go_wp2_with fail
    go_ret
    exact ⟨rfl, hb1⟩
  by_cases hn1 : n0 + n1 ≤ 1048576
  rotate_left
  · skip
    go_enter Tryd.func9, Tryd.ntmps9
    have hb0 := below_alloc2 w (.cells #[.int .i64 c0, .slice a0 n0 cap0] 24) (.cells #[.int .i64 c1, .slice a1 n1 cap1] 24)
    have X0 := (Box.one w (.int .i64 c0) (.slice a0 n0 cap0) 24).next (below_alloc1 _ (.cells #[.int .i64 c1, .slice a1 n1 cap1] 24))
    have pX0 : _ := X0.c0
    have qX0 : _ := X0.c1
    have X1 := Box.two w (.cells #[.int .i64 c0, .slice a0 n0 cap0] 24) (.int .i64 c1) (.slice a1 n1 cap1) 24
    have pX1 : _ := X1.c0
    have qX1 : _ := X1.c1
    go_wp2_with fail
    refine (szMatrix_ok c0 a0 n0 cap0 (1048576) (by omega) (by omega) _).mono ?_
    rintro e w1 ⟨rfl, hb⟩
    replace X0 := X0.next hb
    replace pX0 : _ := X0.c0
    replace qX0 : _ := X0.c1
    replace X1 := X1.next hb
    replace pX1 : _ := X1.c0
    replace qX1 : _ := X1.c1
    have hb1 := hb0.trans (hb.mono hb0.size)
    have Z1 := Lib.hid (show w.heap.size + 2 ≤ w1.heap.size by have := hb.size; simpa [size_setCell_] using this)
    clear hb
    go_wp2_with fail
    refine (szMatrix_no c1 a1 n1 cap1 h1.big ((1048576 : Int) - (n0 : Int)) (by omega) (by omega) (by omega) _).mono ?_
    rintro e w2 ⟨rfl, hb⟩
    replace X0 := X0.next hb
    replace pX0 : _ := X0.c0
    replace qX0 : _ := X0.c1
    replace X1 := X1.next hb
    replace pX1 : _ := X1.c0
    replace qX1 : _ := X1.c1
    have hb2 := hb1.trans (hb.mono hb1.size)
    have Z2 := Lib.hid (show w1.heap.size ≤ w2.heap.size by have := hb.size; simpa [size_setCell_] using this)
    clear hb
    go_wp2_with fail
    go_ret
    exact ⟨rfl, hb2⟩
  obtain ⟨r, hr⟩ : ∃ r, fContains c0 z0 c1 z1 = r := ⟨_, rfl⟩
  have HR := Lib.hid hr
  clear hr
  obtain ⟨r1, r2⟩ := r
  have l0 := h0.len
  have l1 := h1.len
  go_enter Tryd.func9, Tryd.ntmps9
  have hb0 := below_alloc2 w (.cells #[.int .i64 c0, .slice a0 n0 cap0] 24) (.cells #[.int .i64 c1, .slice a1 n1 cap1] 24)
  have X0 := (Box.one w (.int .i64 c0) (.slice a0 n0 cap0) 24).next (below_alloc1 _ (.cells #[.int .i64 c1, .slice a1 n1 cap1] 24))
  have pX0 : _ := X0.c0
  have qX0 : _ := X0.c1
  have X1 := Box.two w (.cells #[.int .i64 c0, .slice a0 n0 cap0] 24) (.int .i64 c1) (.slice a1 n1 cap1) 24
  have pX1 : _ := X1.c0
  have qX1 : _ := X1.c1
  go_wp2_with fail
  refine (szMatrix_ok c0 a0 n0 cap0 (1048576) (by omega) (by omega) _).mono ?_
  rintro e w1 ⟨rfl, hb⟩
  replace X0 := X0.next hb
  replace pX0 : _ := X0.c0
  replace qX0 : _ := X0.c1
  replace X1 := X1.next hb
  replace pX1 : _ := X1.c0
  replace qX1 : _ := X1.c1
  have hb1 := hb0.trans (hb.mono hb0.size)
  have Z1 := Lib.hid (show w.heap.size + 2 ≤ w1.heap.size by have := hb.size; simpa [size_setCell_] using this)
  clear hb
  go_wp2_with fail
  refine (szMatrix_ok c1 a1 n1 cap1 ((1048576 : Int) - (n0 : Int)) (by omega) (by omega) _).mono ?_
  rintro e w2 ⟨rfl, hb⟩
  replace X0 := X0.next hb
  replace pX0 : _ := X0.c0
  replace qX0 : _ := X0.c1
  replace X1 := X1.next hb
  replace pX1 : _ := X1.c0
  replace qX1 : _ := X1.c1
  have hb2 := hb1.trans (hb.mono hb1.size)
  have Z2 := Lib.hid (show w1.heap.size ≤ w2.heap.size by have := hb.size; simpa [size_setCell_] using this)
  clear hb
  go_wp2_with fail
  obtain ⟨Φ1, hΦ⟩ : ∃ Φ : World → Prop, Φ = fun W => (Below w.heap.size w W ∧ w2.heap.size ≤ W.heap.size ∧ Box W w.heap.size (.int .i64 c0) (.slice a0 n0 cap0) ∧ Box W (w.heap.size + 1) (.int .i64 c1) (.slice a1 n1 cap1)) := ⟨_, rfl⟩
  have F1 : Φ1 w2 := by rw [hΦ]; exact ⟨hb2, (by first | exact Nat.le_refl _ | simp | simp [size_setCell_]), X0, X1⟩
  have SP1 : ∀ W W' : World, Φ1 W → Below W.heap.size W W' → Φ1 W' := by intro W W' h hb; rw [hΦ] at h ⊢; exact ⟨(h.1.trans (hb.mono h.1.size)), (Nat.le_trans h.2.1 hb.size), (h.2.2.1.next hb), (h.2.2.2.next hb)⟩
  have C1B : ∀ W, Φ1 W → Below w.heap.size w W := fun W h => by rw [hΦ] at h; exact h.1
  have C1Z : ∀ W, Φ1 W → w2.heap.size ≤ W.heap.size := fun W h => by rw [hΦ] at h; exact h.2.1
  have C1X0 : ∀ W, Φ1 W → Box W w.heap.size (.int .i64 c0) (.slice a0 n0 cap0) := fun W h => by rw [hΦ] at h; exact h.2.2.1
  have C1X1 : ∀ W, Φ1 W → Box W (w.heap.size + 1) (.int .i64 c1) (.slice a1 n1 cap1) := fun W h => by rw [hΦ] at h; exact h.2.2.2
  have D1 : Φ1 (World.drew w2) := SP1 _ _ F1 (Below.refl _ _).drew
  clear hΦ F1 hb2
  clear X0 pX0 qX0
  clear X1 pX1 qX1
  replace SP1 := Lib.hid SP1
  replace C1B := Lib.hid C1B
  replace C1Z := Lib.hid C1Z
  replace C1X0 := Lib.hid C1X0
  replace C1X1 := Lib.hid C1X1
  go_region_held3 (fun w' => w'.cell? ⟨w.heap.size, 0, none⟩ = some (.int .i64 c0) ∧ w'.cell? ⟨w.heap.size, 1, none⟩ = some (.slice a0 n0 cap0) ∧ w'.cell? ⟨(w.heap.size + 1), 0, none⟩ = some (.int .i64 c1) ∧ w'.cell? ⟨(w.heap.size + 1), 1, none⟩ = some (.slice a1 n1 cap1) ∧ Φ1 w') (first | exact ⟨(C1X0.out _ D1).c0, (C1X0.out _ D1).c1, (C1X1.out _ D1).c0, (C1X1.out _ D1).c1, D1⟩ | exact ⟨by assumption, by assumption, by assumption, by assumption, by assumption⟩) (first | (go_at_call 18; with_reducible refine (toMatrix_any c0 a0 n0 cap0 z0 _ (h0.from (C1B.out _ (by assumption))) (by omega)).mono ?_; rintro e w3 ⟨bs0, rfl, ges0, hb3r, Ms0⟩; have G3 : Φ1 w3 := SP1.out _ _ (by assumption) hb3r; have pX03 := (C1X0.out _ G3).c0; have qX03 := (C1X0.out _ G3).c1; have pX13 := (C1X1.out _ G3).c0; have qX13 := (C1X1.out _ G3).c1; have Rs0 := Ms0.res (cap := n0) (Nat.zero_le _); clear hb3r ges0) | (go_at_call 18; with_reducible refine (toMatrix_any c1 a1 n1 cap1 z1 _ (h1.from (C1B.out _ (by assumption))) (by omega)).mono ?_; rintro e w4 ⟨bs1, rfl, ges1, hb4r, Ms1⟩; have G4 : Φ1 w4 := SP1.out _ _ (by assumption) hb4r; have pX04 := (C1X0.out _ G4).c0; have qX04 := (C1X0.out _ G4).c1; have pX14 := (C1X1.out _ G4).c0; have qX14 := (C1X1.out _ G4).c1; replace Ms0 := Ms0.below hb4r; replace Rs0 := Rs0.next hb4r; have Rs1 := Ms1.res (cap := n1) (Nat.zero_le _); clear hb4r ges1) | (go_at_call 33; have S := specContains_any c0 bs0 n0 n0 z0 c1 bs1 n1 n1 z1 _ Ms0 Ms1; rw [HR.out] at S; (try dsimp only at S); refine S.mono ?_; clear S; rintro e w5 ⟨rfl, hb5r⟩; have G5 : Φ1 w5 := SP1.out _ _ (by assumption) hb5r; have pX05 := (C1X0.out _ G5).c0; have qX05 := (C1X0.out _ G5).c1; have pX15 := (C1X1.out _ G5).c0; have qX15 := (C1X1.out _ G5).c1; replace Ms0 := Ms0.below hb5r; replace Rs0 := Rs0.next hb5r; replace Ms1 := Ms1.below hb5r; replace Rs1 := Rs1.next hb5r; clear hb5r))
  have Z5 := Lib.hid (C1Z.out _ G5)
  have hb5 := C1B.out _ G5
  have X0 := C1X0.out _ G5
  have pX0 : _ := X0.c0
  have qX0 : _ := X0.c1
  have X1 := C1X1.out _ G5
  have pX1 : _ := X1.c0
  have qX1 : _ := X1.c1
  go_wp2_with fail
  refine (toMatrix_any c0 a0 n0 cap0 z0 _ (h0.from hb5) (by omega)).mono ?_
  rintro e w6 ⟨bx0, rfl, gex0, hb, Mx0⟩
  replace X0 := X0.next hb
  replace pX0 : _ := X0.c0
  replace qX0 : _ := X0.c1
  replace X1 := X1.next hb
  replace pX1 : _ := X1.c0
  replace qX1 : _ := X1.c1
  have hb6 := hb5.trans (hb.mono hb5.size)
  have Z6 := Lib.hid (show w5.heap.size ≤ w6.heap.size by have := hb.size; simpa [size_setCell_] using this)
  clear hb
  have Rx0 := Mx0.res (cap := n0) (B := w5.heap.size) (by simpa using gex0)
  have hb := below_alloc1 w6 (.cells #[.int .i64 c0, .slice (some ⟨bx0, 0, none⟩) n0 n0] 28)
  replace X0 := X0.next hb
  replace pX0 : _ := X0.c0
  replace qX0 : _ := X0.c1
  replace X1 := X1.next hb
  replace pX1 : _ := X1.c0
  replace qX1 : _ := X1.c1
  replace Mx0 := Mx0.below hb
  replace Rx0 := Rx0.next hb
  have hc6 := hb6.trans (hb.mono hb6.size)
  clear hb
  have Bx0 := Box.one w6 (.int .i64 c0) (.slice (some ⟨bx0, 0, none⟩) n0 n0) 28
  have pBx0 : _ := Bx0.c0
  have qBx0 : _ := Bx0.c1
  go_wp2_with fail
  refine (toMatrix_any c1 a1 n1 cap1 z1 _ (h1.from hc6) (by omega)).mono ?_
  rintro e w7 ⟨bx1, rfl, gex1, hb, Mx1⟩
  replace X0 := X0.next hb
  replace pX0 : _ := X0.c0
  replace qX0 : _ := X0.c1
  replace X1 := X1.next hb
  replace pX1 : _ := X1.c0
  replace qX1 : _ := X1.c1
  replace Mx0 := Mx0.below hb
  replace Rx0 := Rx0.next hb
  replace Bx0 := Bx0.next hb
  replace pBx0 : _ := Bx0.c0
  replace qBx0 : _ := Bx0.c1
  have hb7 := hc6.trans (hb.mono hc6.size)
  have Z7 := Lib.hid (show w6.heap.size + 1 ≤ w7.heap.size by have := hb.size; simpa [size_setCell_] using this)
  clear hb
  have Rx1 := Mx1.res (cap := n1) (B := w6.heap.size + 1) (by simpa using gex1)
  have hb := below_alloc1 w7 (.cells #[.int .i64 c1, .slice (some ⟨bx1, 0, none⟩) n1 n1] 28)
  replace X0 := X0.next hb
  replace pX0 : _ := X0.c0
  replace qX0 : _ := X0.c1
  replace X1 := X1.next hb
  replace pX1 : _ := X1.c0
  replace qX1 : _ := X1.c1
  replace Mx0 := Mx0.below hb
  replace Rx0 := Rx0.next hb
  replace Bx0 := Bx0.next hb
  replace pBx0 : _ := Bx0.c0
  replace qBx0 : _ := Bx0.c1
  replace Mx1 := Mx1.below hb
  replace Rx1 := Rx1.next hb
  have hc7 := hb7.trans (hb.mono hb7.size)
  clear hb
  have Bx1 := Box.one w7 (.int .i64 c1) (.slice (some ⟨bx1, 0, none⟩) n1 n1) 28
  have pBx1 : _ := Bx1.c0
  have qBx1 : _ := Bx1.c1
  go_wp2_with fail
  have S := implContains_any c0 bx0 n0 n0 z0 c1 bx1 n1 n1 z1 _ Mx0 Mx1 (hT.below hc7)
  rw [HR.out] at S
  try dsimp only at S
  refine S.mono ?_
  clear S
  rintro e w8 ⟨rfl, hb⟩
  replace X0 := X0.next hb
  replace pX0 : _ := X0.c0
  replace qX0 : _ := X0.c1
  replace X1 := X1.next hb
  replace pX1 : _ := X1.c0
  replace qX1 : _ := X1.c1
  replace Mx0 := Mx0.below hb
  replace Rx0 := Rx0.next hb
  replace Bx0 := Bx0.next hb
  replace pBx0 : _ := Bx0.c0
  replace qBx0 : _ := Bx0.c1
  replace Mx1 := Mx1.below hb
  replace Rx1 := Rx1.next hb
  replace Bx1 := Bx1.next hb
  replace pBx1 : _ := Bx1.c0
  replace qBx1 : _ := Bx1.c1
  have hb8 := hc7.trans (hb.mono hc7.size)
  have Z8 := Lib.hid (show w7.heap.size + 1 ≤ w8.heap.size by have := hb.size; simpa [size_setCell_] using this)
  clear hb
  clear Mx0
  clear Mx1
  go_wp2_with fail
  obtain ⟨Φ2, hΦ⟩ : ∃ Φ : World → Prop, Φ = fun W => (Below w.heap.size w W ∧ w8.heap.size ≤ W.heap.size ∧ Box W w.heap.size (.int .i64 c0) (.slice a0 n0 cap0) ∧ Box W (w.heap.size + 1) (.int .i64 c1) (.slice a1 n1 cap1) ∧ Res W (w5.heap.size) (w6.heap.size) (.slice (some ⟨bx0, 0, none⟩) n0 n0) z0 ∧ Box W w6.heap.size (.int .i64 c0) (.slice (some ⟨bx0, 0, none⟩) n0 n0) ∧ Res W (w6.heap.size + 1) (w7.heap.size) (.slice (some ⟨bx1, 0, none⟩) n1 n1) z1 ∧ Box W w7.heap.size (.int .i64 c1) (.slice (some ⟨bx1, 0, none⟩) n1 n1)) := ⟨_, rfl⟩
  have F2 : Φ2 w8 := by rw [hΦ]; exact ⟨hb8, (by first | exact Nat.le_refl _ | simp | simp [size_setCell_]), X0, X1, Rx0, Bx0, Rx1, Bx1⟩
  have SP2 : ∀ W W' : World, Φ2 W → Below W.heap.size W W' → Φ2 W' := by intro W W' h hb; rw [hΦ] at h ⊢; exact ⟨(h.1.trans (hb.mono h.1.size)), (Nat.le_trans h.2.1 hb.size), (h.2.2.1.next hb), (h.2.2.2.1.next hb), (h.2.2.2.2.1.next hb), (h.2.2.2.2.2.1.next hb), (h.2.2.2.2.2.2.1.next hb), (h.2.2.2.2.2.2.2.next hb)⟩
  have C2B : ∀ W, Φ2 W → Below w.heap.size w W := fun W h => by rw [hΦ] at h; exact h.1
  have C2Z : ∀ W, Φ2 W → w8.heap.size ≤ W.heap.size := fun W h => by rw [hΦ] at h; exact h.2.1
  have C2X0 : ∀ W, Φ2 W → Box W w.heap.size (.int .i64 c0) (.slice a0 n0 cap0) := fun W h => by rw [hΦ] at h; exact h.2.2.1
  have C2X1 : ∀ W, Φ2 W → Box W (w.heap.size + 1) (.int .i64 c1) (.slice a1 n1 cap1) := fun W h => by rw [hΦ] at h; exact h.2.2.2.1
  have C2Rx0 : ∀ W, Φ2 W → Res W (w5.heap.size) (w6.heap.size) (.slice (some ⟨bx0, 0, none⟩) n0 n0) z0 := fun W h => by rw [hΦ] at h; exact h.2.2.2.2.1
  have C2Bx0 : ∀ W, Φ2 W → Box W w6.heap.size (.int .i64 c0) (.slice (some ⟨bx0, 0, none⟩) n0 n0) := fun W h => by rw [hΦ] at h; exact h.2.2.2.2.2.1
  have C2Rx1 : ∀ W, Φ2 W → Res W (w6.heap.size + 1) (w7.heap.size) (.slice (some ⟨bx1, 0, none⟩) n1 n1) z1 := fun W h => by rw [hΦ] at h; exact h.2.2.2.2.2.2.1
  have C2Bx1 : ∀ W, Φ2 W → Box W w7.heap.size (.int .i64 c1) (.slice (some ⟨bx1, 0, none⟩) n1 n1) := fun W h => by rw [hΦ] at h; exact h.2.2.2.2.2.2.2
  have D2 : Φ2 (World.drew w8) := SP2 _ _ F2 (Below.refl _ _).drew
  clear hΦ F2 hb8
  clear X0 pX0 qX0
  clear X1 pX1 qX1
  clear Rx0
  clear Bx0 pBx0 qBx0
  clear Rx1
  clear Bx1 pBx1 qBx1
  replace SP2 := Lib.hid SP2
  replace C2B := Lib.hid C2B
  replace C2Z := Lib.hid C2Z
  replace C2X0 := Lib.hid C2X0
  replace C2X1 := Lib.hid C2X1
  replace C2Rx0 := Lib.hid C2Rx0
  replace C2Bx0 := Lib.hid C2Bx0
  replace C2Rx1 := Lib.hid C2Rx1
  replace C2Bx1 := Lib.hid C2Bx1
  go_region_held3 (fun w' => w'.cell? ⟨w.heap.size, 0, none⟩ = some (.int .i64 c0) ∧ w'.cell? ⟨w.heap.size, 1, none⟩ = some (.slice a0 n0 cap0) ∧ w'.cell? ⟨(w.heap.size + 1), 0, none⟩ = some (.int .i64 c1) ∧ w'.cell? ⟨(w.heap.size + 1), 1, none⟩ = some (.slice a1 n1 cap1) ∧ w'.cell? ⟨w6.heap.size, 0, none⟩ = some (.int .i64 c0) ∧ w'.cell? ⟨w6.heap.size, 1, none⟩ = some (.slice (some ⟨bx0, 0, none⟩) n0 n0) ∧ w'.cell? ⟨w7.heap.size, 0, none⟩ = some (.int .i64 c1) ∧ w'.cell? ⟨w7.heap.size, 1, none⟩ = some (.slice (some ⟨bx1, 0, none⟩) n1 n1) ∧ Φ2 w') (first | exact ⟨(C2X0.out _ D2).c0, (C2X0.out _ D2).c1, (C2X1.out _ D2).c0, (C2X1.out _ D2).c1, (C2Bx0.out _ D2).c0, (C2Bx0.out _ D2).c1, (C2Bx1.out _ D2).c0, (C2Bx1.out _ D2).c1, D2⟩ | exact ⟨by assumption, by assumption, by assumption, by assumption, by assumption, by assumption, by assumption, by assumption, by assumption⟩) (first | (go_at_call 18; with_reducible refine (toMatrix_any c0 a0 n0 cap0 z0 _ (h0.from (C2B.out _ (by assumption))) (by omega)).mono ?_; rintro e w9 ⟨by0, rfl, gey0, hb9r, My0⟩; have G9 : Φ2 w9 := SP2.out _ _ (by assumption) hb9r; have pX09 := (C2X0.out _ G9).c0; have qX09 := (C2X0.out _ G9).c1; have pX19 := (C2X1.out _ G9).c0; have qX19 := (C2X1.out _ G9).c1; have pBx09 := (C2Bx0.out _ G9).c0; have qBx09 := (C2Bx0.out _ G9).c1; have pBx19 := (C2Bx1.out _ G9).c0; have qBx19 := (C2Bx1.out _ G9).c1; have Ry0 := My0.res (cap := n0) (Nat.zero_le _); clear hb9r gey0) | (go_at_call 20; refine (eqMatrix_res c0 (C2Rx0.out _ (by assumption)) Ry0).mono ?_; rintro e w10 ⟨rfl, hb10r⟩; have G10 : Φ2 w10 := SP2.out _ _ (by assumption) hb10r; have pX010 := (C2X0.out _ G10).c0; have qX010 := (C2X0.out _ G10).c1; have pX110 := (C2X1.out _ G10).c0; have qX110 := (C2X1.out _ G10).c1; have pBx010 := (C2Bx0.out _ G10).c0; have qBx010 := (C2Bx0.out _ G10).c1; have pBx110 := (C2Bx1.out _ G10).c0; have qBx110 := (C2Bx1.out _ G10).c1; replace My0 := My0.below hb10r; replace Ry0 := Ry0.next hb10r; clear hb10r))
  have Z10 := Lib.hid (C2Z.out _ G10)
  have hb10 := C2B.out _ G10
  have X0 := C2X0.out _ G10
  have pX0 : _ := X0.c0
  have qX0 : _ := X0.c1
  have X1 := C2X1.out _ G10
  have pX1 : _ := X1.c0
  have qX1 : _ := X1.c1
  have Rx0 := C2Rx0.out _ G10
  have Bx0 := C2Bx0.out _ G10
  have pBx0 : _ := Bx0.c0
  have qBx0 : _ := Bx0.c1
  have Rx1 := C2Rx1.out _ G10
  have Bx1 := C2Bx1.out _ G10
  have pBx1 : _ := Bx1.c0
  have qBx1 : _ := Bx1.c1
  go_wp2_with fail
  obtain ⟨Φ3, hΦ⟩ : ∃ Φ : World → Prop, Φ = fun W => (Below w.heap.size w W ∧ w10.heap.size ≤ W.heap.size ∧ Box W w.heap.size (.int .i64 c0) (.slice a0 n0 cap0) ∧ Box W (w.heap.size + 1) (.int .i64 c1) (.slice a1 n1 cap1) ∧ Res W (w5.heap.size) (w6.heap.size) (.slice (some ⟨bx0, 0, none⟩) n0 n0) z0 ∧ Box W w6.heap.size (.int .i64 c0) (.slice (some ⟨bx0, 0, none⟩) n0 n0) ∧ Res W (w6.heap.size + 1) (w7.heap.size) (.slice (some ⟨bx1, 0, none⟩) n1 n1) z1 ∧ Box W w7.heap.size (.int .i64 c1) (.slice (some ⟨bx1, 0, none⟩) n1 n1)) := ⟨_, rfl⟩
  have F3 : Φ3 w10 := by rw [hΦ]; exact ⟨hb10, (by first | exact Nat.le_refl _ | simp | simp [size_setCell_]), X0, X1, Rx0, Bx0, Rx1, Bx1⟩
  have SP3 : ∀ W W' : World, Φ3 W → Below W.heap.size W W' → Φ3 W' := by intro W W' h hb; rw [hΦ] at h ⊢; exact ⟨(h.1.trans (hb.mono h.1.size)), (Nat.le_trans h.2.1 hb.size), (h.2.2.1.next hb), (h.2.2.2.1.next hb), (h.2.2.2.2.1.next hb), (h.2.2.2.2.2.1.next hb), (h.2.2.2.2.2.2.1.next hb), (h.2.2.2.2.2.2.2.next hb)⟩
  have C3B : ∀ W, Φ3 W → Below w.heap.size w W := fun W h => by rw [hΦ] at h; exact h.1
  have C3Z : ∀ W, Φ3 W → w10.heap.size ≤ W.heap.size := fun W h => by rw [hΦ] at h; exact h.2.1
  have C3X0 : ∀ W, Φ3 W → Box W w.heap.size (.int .i64 c0) (.slice a0 n0 cap0) := fun W h => by rw [hΦ] at h; exact h.2.2.1
  have C3X1 : ∀ W, Φ3 W → Box W (w.heap.size + 1) (.int .i64 c1) (.slice a1 n1 cap1) := fun W h => by rw [hΦ] at h; exact h.2.2.2.1
  have C3Rx0 : ∀ W, Φ3 W → Res W (w5.heap.size) (w6.heap.size) (.slice (some ⟨bx0, 0, none⟩) n0 n0) z0 := fun W h => by rw [hΦ] at h; exact h.2.2.2.2.1
  have C3Bx0 : ∀ W, Φ3 W → Box W w6.heap.size (.int .i64 c0) (.slice (some ⟨bx0, 0, none⟩) n0 n0) := fun W h => by rw [hΦ] at h; exact h.2.2.2.2.2.1
  have C3Rx1 : ∀ W, Φ3 W → Res W (w6.heap.size + 1) (w7.heap.size) (.slice (some ⟨bx1, 0, none⟩) n1 n1) z1 := fun W h => by rw [hΦ] at h; exact h.2.2.2.2.2.2.1
  have C3Bx1 : ∀ W, Φ3 W → Box W w7.heap.size (.int .i64 c1) (.slice (some ⟨bx1, 0, none⟩) n1 n1) := fun W h => by rw [hΦ] at h; exact h.2.2.2.2.2.2.2
  have D3 : Φ3 (World.drew w10) := SP3 _ _ F3 (Below.refl _ _).drew
  clear hΦ F3 hb10
  clear X0 pX0 qX0
  clear X1 pX1 qX1
  clear Rx0
  clear Bx0 pBx0 qBx0
  clear Rx1
  clear Bx1 pBx1 qBx1
  replace SP3 := Lib.hid SP3
  replace C3B := Lib.hid C3B
  replace C3Z := Lib.hid C3Z
  replace C3X0 := Lib.hid C3X0
  replace C3X1 := Lib.hid C3X1
  replace C3Rx0 := Lib.hid C3Rx0
  replace C3Bx0 := Lib.hid C3Bx0
  replace C3Rx1 := Lib.hid C3Rx1
  replace C3Bx1 := Lib.hid C3Bx1
  go_region_held3 (fun w' => w'.cell? ⟨w.heap.size, 0, none⟩ = some (.int .i64 c0) ∧ w'.cell? ⟨w.heap.size, 1, none⟩ = some (.slice a0 n0 cap0) ∧ w'.cell? ⟨(w.heap.size + 1), 0, none⟩ = some (.int .i64 c1) ∧ w'.cell? ⟨(w.heap.size + 1), 1, none⟩ = some (.slice a1 n1 cap1) ∧ w'.cell? ⟨w6.heap.size, 0, none⟩ = some (.int .i64 c0) ∧ w'.cell? ⟨w6.heap.size, 1, none⟩ = some (.slice (some ⟨bx0, 0, none⟩) n0 n0) ∧ w'.cell? ⟨w7.heap.size, 0, none⟩ = some (.int .i64 c1) ∧ w'.cell? ⟨w7.heap.size, 1, none⟩ = some (.slice (some ⟨bx1, 0, none⟩) n1 n1) ∧ Φ3 w') (first | exact ⟨(C3X0.out _ D3).c0, (C3X0.out _ D3).c1, (C3X1.out _ D3).c0, (C3X1.out _ D3).c1, (C3Bx0.out _ D3).c0, (C3Bx0.out _ D3).c1, (C3Bx1.out _ D3).c0, (C3Bx1.out _ D3).c1, D3⟩ | exact ⟨by assumption, by assumption, by assumption, by assumption, by assumption, by assumption, by assumption, by assumption, by assumption⟩) (first | (go_at_call 18; with_reducible refine (toMatrix_any c1 a1 n1 cap1 z1 _ (h1.from (C3B.out _ (by assumption))) (by omega)).mono ?_; rintro e w11 ⟨by1, rfl, gey1, hb11r, My1⟩; have G11 : Φ3 w11 := SP3.out _ _ (by assumption) hb11r; have pX011 := (C3X0.out _ G11).c0; have qX011 := (C3X0.out _ G11).c1; have pX111 := (C3X1.out _ G11).c0; have qX111 := (C3X1.out _ G11).c1; have pBx011 := (C3Bx0.out _ G11).c0; have qBx011 := (C3Bx0.out _ G11).c1; have pBx111 := (C3Bx1.out _ G11).c0; have qBx111 := (C3Bx1.out _ G11).c1; have Ry1 := My1.res (cap := n1) (Nat.zero_le _); clear hb11r gey1) | (go_at_call 20; refine (eqMatrix_res c1 (C3Rx1.out _ (by assumption)) Ry1).mono ?_; rintro e w12 ⟨rfl, hb12r⟩; have G12 : Φ3 w12 := SP3.out _ _ (by assumption) hb12r; have pX012 := (C3X0.out _ G12).c0; have qX012 := (C3X0.out _ G12).c1; have pX112 := (C3X1.out _ G12).c0; have qX112 := (C3X1.out _ G12).c1; have pBx012 := (C3Bx0.out _ G12).c0; have qBx012 := (C3Bx0.out _ G12).c1; have pBx112 := (C3Bx1.out _ G12).c0; have qBx112 := (C3Bx1.out _ G12).c1; replace My1 := My1.below hb12r; replace Ry1 := Ry1.next hb12r; clear hb12r))
  have Z12 := Lib.hid (C3Z.out _ G12)
  have hb12 := C3B.out _ G12
  have X0 := C3X0.out _ G12
  have pX0 : _ := X0.c0
  have qX0 : _ := X0.c1
  have X1 := C3X1.out _ G12
  have pX1 : _ := X1.c0
  have qX1 : _ := X1.c1
  have Rx0 := C3Rx0.out _ G12
  have Bx0 := C3Bx0.out _ G12
  have pBx0 : _ := Bx0.c0
  have qBx0 : _ := Bx0.c1
  have Rx1 := C3Rx1.out _ G12
  have Bx1 := C3Bx1.out _ G12
  have pBx1 : _ := Bx1.c0
  have qBx1 : _ := Bx1.c1
  go_wp2_with fail
  go_ret
  exact ⟨rfl, hb12⟩

set_option maxRecDepth 100000 in
theorem lifted (os : Os) (started : os.Started) (H : Type) (enc : TypeId × Value → H) :
    ReturnsInHanded {} Tryd.checked os 9 .any (fun w args => (Rows.fnExactContainsSpec.pre enc Tryd.prog Tryd.f9 [] false w args ∧ laidMetH Tryd.prog listed w) ∧ sizedMet enc Tryd.prog Tryd.f9 (OpenSpec.ofChange Rows.fnExactContainsSpec) false w args)
      (Rows.fnExactContainsSpec.post enc Tryd.prog Tryd.f9 false true false false) := by
  refine returnsInHanded_of_change_and (C := Tryd.checked) (X := fun w _ => laidMetH Tryd.prog listed w) (fun _ _ _ hh h => h.of_heap hh) own started (by kernel_rfl) Tryd.func9
    (ChangeSpec.witness_shaped (enc := enc) (C := Tryd.checked) (os := os) (X := fun w _ => laidMetH Tryd.prog listed w) false (World.doorLaid Tryd.prog 400 os) #[.agg #[.int .i64 0, .slice none 0 0], .agg #[.int .i64 0, .slice none 0 0]] 8 rfl (World.shaped_of_RefB (by kernel_rfl) (by kernel_rfl)) (by kernel_rfl) (by kernel_rfl) (by kernel_rfl) (door_met os _)) ?_
  intro W base args ds gs before hval0 hW _ _ hL _
  have hval : ∀ (j : Nat) t v, Tryd.f9.params[j]? = some t → args[j]? = some v → Value.okWide Tryd.prog W .any base t v := hval0
  have hT := tab_of_laid hL
  have hW' := hW
  obtain ⟨p, q, hA0, hV, rfl, hfz, hnd⟩ := hW
  have hA : DataW.TrodAll enc Tryd.prog W 0 (fun _ => true) true Tryd.f9.params.toList args.toList ds p := hA0
  rw [Tryd.params9] at hA hval
  obtain ⟨v0, vs0, dd0, ds0, pp0, qq0, hargs, rfl, rfl, h0, r0⟩ := trodAll_cons hA
  obtain ⟨v1, vs1, dd1, ds1, pp1, qq1, rfl, rfl, rfl, h1, r1⟩ := trodAll_cons r0
  obtain ⟨rfl, rfl, rfl⟩ := trodAll_nil r1
  obtain rfl : args = #[v0, v1] := by cases args; simp_all
  obtain ⟨rfl, rfl⟩ := trodVars_none hV
  have k0 := h0
  have lt0 : ∀ x ∈ pp0, x.block < W.heap.size := by obtain ⟨m, hm⟩ := k0; exact DataW.trod_lt m _ _ _ hm
  obtain ⟨u0, e0, y0, q0, m0, rfl, rfl, rfl, hy0, hz0⟩ := open_agg2 Tryd.underlying24 (by kernel_rfl) cellsMat (hval 0 24 v0 rfl rfl) h0
  obtain ⟨c0, ec0, rfl, wc0⟩ := DataW.trod_int Tryd.underlying2 hy0
  simp at ec0; subst ec0
  obtain ⟨a0, n0, cap0, z0, rfl, w0⟩ := arg_open hz0
  have k1 := h1
  have lt1 : ∀ x ∈ pp1, x.block < W.heap.size := by obtain ⟨m, hm⟩ := k1; exact DataW.trod_lt m _ _ _ hm
  obtain ⟨u1, e1, y1, q1, m1, rfl, rfl, rfl, hy1, hz1⟩ := open_agg2 Tryd.underlying24 (by kernel_rfl) cellsMat (hval 1 24 v1 rfl rfl) h1
  obtain ⟨c1, ec1, rfl, wc1⟩ := DataW.trod_int Tryd.underlying2 hy1
  simp at ec1; subst ec1
  obtain ⟨a1, n1, cap1, z1, rfl, w1⟩ := arg_open hz1
  clear hA0 hval0
  refine (walk c0 a0 n0 cap0 z0 c1 a1 n1 cap1 z1 W hT w0 w1).mono fun e W' ⟨he, bel⟩ => ?_
  subst he
  exact ⟨_, rfl, _, _, _, [], _, [], hW', trodAll_mk1 (shut_bool Tryd.underlying4 _), (trodAll_cons_mk (Below.trod laidOut (by kernel_rfl) (of_decide_eq_true (by kernel_rfl)) k0 bel lt0) (trodAll_cons_mk (Below.trod laidOut (by kernel_rfl) (of_decide_eq_true (by kernel_rfl)) k1 bel lt1) trodAll_mk0)), rfl, bel.frame _, fun h => by cases h⟩

theorem over : Rows.fnExactContainsRow.holds Tryd.pinned (OpenSpec.ofChange Rows.fnExactContainsSpec) :=
  OpenClaim.holds_of_wide 9 Tryd.f9 rfl rfl rfl rfl rfl rfl rfl ⟨rfl, rfl, rfl, rfl, rfl⟩ rfl rfl rfl rfl rfl (by kernel_rfl) Tryd.func9 (by kernel_rfl)
    (of_decide_eq_true (by kernel_rfl)) (by unfold Func.isWrapper; first | (rw [if_pos (by decide +kernel)]; kernel_rfl) | (rw [if_neg (by decide +kernel)]; exact ⟨rfl, rfl⟩))
    (fun os started H enc _ => lifted os started H enc)

theorem proved : Rows.FnExactContainsCardSaid :=
  Claim7.holds_tied_plain_at .later [] [.data] true Rows.fnExactContainsCard.stood.harness false
    over (fun _ h => by cases h) (by kernel_rfl) (fun _ h => by cases h) fnExactContains_row_tie rfl ⟨rfl, rfl⟩ (by kernel_rfl) rfl
    (fun f fn hf hfn => by
      obtain rfl : f = 9 := Option.some.inj ((show Tryd.prog.funcNamed "loop.example/g01144/laws.FnExactContains" = some 9 by kernel_rfl).symm.trans hf) |>.symm
      obtain rfl : fn = Tryd.f9 := (Option.some.inj (Tryd.func9.symm.trans hfn)).symm
      exact ⟨by kernel_rfl, fun j t ht => by
        rw [Tryd.params9] at ht
        have hm : t ∈ [24, 24] := by simpa using Array.mem_of_getElem? ht
        have hall : ([24, 24].all fun u => !Tryd.prog.wantsStandIn u) = true := by kernel_rfl
        exact (show Tryd.prog.wantsStandIn t = false by simpa using List.all_eq_true.1 hall t hm)⟩)
    (by kernel_rfl)
#print axioms proved
end Go.Proofs.YtfhalaohegdbhaaDoor.fnExactContains
