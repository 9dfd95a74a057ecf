/- Rank codes as values: what a law's own functions do with them. · A rank code among the arguments, opened. -/
import Derived.Test.YtljaabmemjehpaaLB
import Derived.Test.YtljaabmemjehpaaSsLaw
namespace Go.Proofs.Ytljaabmemjehpaa
open Go.RowKit Go.Joins Go.ChangeShapes Go.WideShapes Go.Deep
set_option linter.unusedVariables false

/-- A rank code's four values. -/
abbrev codL (d p l : Int) (v : Value) : List Value := [.int .i64 d, .int .i64 p, .int .i64 l, v]
theorem Try.infoCode : (Try.prog.info? 33).map (·.size) = some 4 := by kernel_rfl

set_option maxHeartbeats 800000 in
theorem szCode_any (d p k : Int) (A : Option Addr) (n cap : Nat) (rows : List (List Int)) (l : Int) (hl0 : 0 ≤ l) (hl1 : l ≤ 1048576) (w : World) (hA : ArgS w A n rows) :
    Calls Try.prog 14 #[.agg (codL d p k (.slice A n cap)).toArray, .int .i64 l] w fun e w' => ((((n + total rows : Nat) : Int) ≤ l ∧ e = .returned (.int .i64 (l - ((n + total rows : Nat) : Int)))) ∨ (l < ((n + total rows : Nat) : Int) ∧ e = .returned (.int .i64 (-1)))) ∧ Below w.heap.size w w' := by
  obtain ⟨N, hN⟩ : ∃ N, n + total rows = N := ⟨_, rfl⟩
  have HN := Lib.hid hN
  rw [hN]
  have hb1 := below_alloc1 w (.cells (codL d p k (.slice A n cap)).toArray 26)
  clear hN
  go_enter Try.func14, Try.ntmps14
  go_wp2_with fail
  refine (szInt64SS_any A n cap rows l hl0 hl1 _ (hA.below hb1)).mono ?_
  rw [HN.out]
  rintro e w2 ⟨⟨h, rfl⟩ | ⟨h, rfl⟩, hb⟩
  · have hb2 := hb1.trans (hb.mono hb1.size)
    clear hb hb1
    go_wp2_with fail
    go_ret
    exact ⟨.inl ⟨h, rfl⟩, hb2⟩
  · have hb2 := hb1.trans (hb.mono hb1.size)
    clear hb hb1
    go_wp2_with fail
    go_ret
    exact ⟨.inr ⟨h, rfl⟩, hb2⟩

set_option maxRecDepth 100000 in
set_option maxHeartbeats 3200000 in
theorem toCode_any (d p k : Int) (A : Option Addr) (n cap : Nat) (rows : List (List Int)) (w : World) (hA : ArgS w A n rows) (hn : n + total rows ≤ 1048576) :
    Calls Try.prog 16 #[.agg (codL d p k (.slice A n cap)).toArray] w fun e w' => ∃ g, e = .returned (.agg (codL d p k (.slice (some ⟨g, 0, none⟩) n n)).toArray) ∧ w.heap.size ≤ g ∧ Below w.heap.size w w' ∧ RS w' w.heap.size w'.heap.size (.slice (some ⟨g, 0, none⟩) n n) rows := by
  have hb1 := below_alloc1 w (.cells (codL d p k (.slice A n cap)).toArray 26)
  have hX1 := LB.one w (codL d p k (.slice A n cap)) 26
  have hb2 := below_alloc1 (w.alloc (.cells (codL d p k (.slice A n cap)).toArray 26)) (.cells (codL 0 0 0 (.slice none 0 0)).toArray 33)
  have hR2 := LF.start (w.alloc (.cells (codL d p k (.slice A n cap)).toArray 26)) (codL 0 0 0 (.slice none 0 0)) 33
  have hb3 := below_alloc1 ((w.alloc (.cells (codL d p k (.slice A n cap)).toArray 26)).alloc (.cells (codL 0 0 0 (.slice none 0 0)).toArray 33)) (.cells (codL 0 0 0 (.slice none 0 0)).toArray 33)
  have hO3 := LF.start ((w.alloc (.cells (codL d p k (.slice A n cap)).toArray 26)).alloc (.cells (codL 0 0 0 (.slice none 0 0)).toArray 33)) (codL 0 0 0 (.slice none 0 0)) 33
  have hX3 := (hX1.next hb2).next hb3
  have hR3 : LF _ _ _ := hR2.next hb3
  rw [World.size_alloc] at hR3
  rw [World.size_alloc, World.size_alloc] at hO3
  have HB3 := Lib.hid ((hb1.trans (hb2.mono hb1.size)).trans (hb3.mono (by simp; omega)))
  clear hb1 hb2 hb3 hX1 hR2
  have d0 := hX3.cell 0 _ rfl; have d1 := hX3.cell 1 _ rfl
  go_enter Try.func16, Try.ntmps16
  go_wp2_with fail
  refine (toField_any d p _).mono ?_
  rintro e w4 ⟨rfl, hb⟩
  have hX4 := hX3.next hb
  have hR4 := hR3.next hb
  have hO4 := hO3.next hb
  have HB4 := Lib.hid (HB3.out.trans (hb.mono (by simp; omega)))
  clear hb hX3 hR3 hO3 d0 d1 HB3
  have d2 := hX4.cell 2 _ rfl; have d3 := hX4.cell 3 _ rfl
  have o0 := hO4.b.cell 0 _ rfl; have o1 := hO4.b.cell 1 _ rfl; have o2 := hO4.b.cell 2 _ rfl
  have f0 := hO4.free 0 (by simp); have f1 := hO4.free 1 (by simp); have f2 := hO4.free 2 (by simp)
  go_wp2_with fail
  have hO5 : LF (((w4.setCell ⟨w.heap.size + 1 + 1, 0, none⟩ (.int .i64 d)).setCell ⟨w.heap.size + 1 + 1, 1, none⟩ (.int .i64 p)).setCell ⟨w.heap.size + 1 + 1, 2, none⟩ (.int .i64 k)) (w.heap.size + 1 + 1) [.int .i64 d, .int .i64 p, .int .i64 k, .slice none 0 0] := ((hO4.set 0 (by simp) (.int .i64 d)).set 1 (by simp) (.int .i64 p)).set 2 (by simp) (.int .i64 k)
  have hR5 := ((hR4.other (b := w.heap.size + 1 + 1) (by omega) 0 (.int .i64 d)).other (b := w.heap.size + 1 + 1) (by omega) 1 (.int .i64 p)).other (b := w.heap.size + 1 + 1) (by omega) 2 (.int .i64 k)
  have hB5 := ((HB4.out.setCell (p := ⟨w.heap.size + 1 + 1, 0, none⟩) (by show w.heap.size ≤ w.heap.size + 1 + 1; omega) (.int .i64 d)).setCell (p := ⟨w.heap.size + 1 + 1, 1, none⟩) (by show w.heap.size ≤ w.heap.size + 1 + 1; omega) (.int .i64 p)).setCell (p := ⟨w.heap.size + 1 + 1, 2, none⟩) (by show w.heap.size ≤ w.heap.size + 1 + 1; omega) (.int .i64 k)
  clear hO4 hR4 hX4 HB4 d2 d3 o0 o1 o2 f0 f1 f2
  generalize ((w4.setCell ⟨w.heap.size + 1 + 1, 0, none⟩ (.int .i64 d)).setCell ⟨w.heap.size + 1 + 1, 1, none⟩ (.int .i64 p)).setCell ⟨w.heap.size + 1 + 1, 2, none⟩ (.int .i64 k) = W5 at hO5 hR5 hB5 ⊢
  refine (toInt64SS_any A n cap rows W5 (hA.below hB5) hn).mono ?_
  rintro e w6 ⟨g, rfl, hge, hb, hM⟩
  have hR6 := hR5.next hb
  have hO6 := hO5.next hb
  have hB6 := hB5.trans (hb.mono hB5.size)
  have hz5 : w.heap.size + 1 + 1 < W5.heap.size := hO5.b.lt
  have HB6 := Lib.hid hB6
  have HM := Lib.hid hM
  clear hb hR5 hO5 hM hB6
  have o0 := hO6.b.cell 0 _ rfl; have o1 := hO6.b.cell 1 _ rfl; have o2 := hO6.b.cell 2 _ rfl; have o3 := hO6.b.cell 3 _ rfl
  have f3 := hO6.free 3 (by simp)
  have r0 := hR6.b.cell 0 _ rfl; have r1 := hR6.b.cell 1 _ rfl; have r2 := hR6.b.cell 2 _ rfl; have r3 := hR6.b.cell 3 _ rfl
  have g0 := hR6.free 0 (by simp); have g1 := hR6.free 1 (by simp); have g2 := hR6.free 2 (by simp); have g3 := hR6.free 3 (by simp)
  have HR6 := Lib.hid hR6
  have hgq : w.heap.size + 1 + 1 < g := by omega
  have HGQ := Lib.hid (And.intro hgq hz5)
  clear hO6 hR6 hgq hz5 hge
  go_wp2_with fail
  have hz5 := HGQ.out.2
  have hc : ∀ (W : World) (b i : Nat) (x : Value), b ≤ w.heap.size + 1 + 1 → Chg 0 (w.heap.size + 1 + 1 + 1) W (W.setCell ⟨b, i, none⟩ x) := fun W b i x hb => ⟨rfl, rfl, rfl, Nat.le_of_eq (size_setCell_ ..).symm, fun k hk ho => Below.heap_setCell W ⟨b, i, none⟩ x k (by show k ≠ b; omega)⟩
  have hfin := ((((HR6.out.other (b := w.heap.size + 1 + 1) (by omega) 3 (.slice (some ⟨g, 0, none⟩) n n)).set 0 (by simp) (.int .i64 d)).set 1 (by simp) (.int .i64 p)).set 2 (by simp) (.int .i64 k)).set 3 (by simp) (.slice (some ⟨g, 0, none⟩) n n)
  refine bodyPost_ret (v := .agg (codL d p k (.slice (some ⟨g, 0, none⟩) n n)).toArray) (lb_result (p := 2) (fn := Try.f16) rfl _ rfl hfin.b Try.underlying33 rfl Try.infoCode) rfl ⟨g, rfl, by have := HGQ.out.1; omega, ?_, ?_⟩
  · exact ((((HB6.out.setCell (p := ⟨w.heap.size + 1 + 1, 3, none⟩) (by show w.heap.size ≤ w.heap.size + 1 + 1; omega) _).setCell (p := ⟨w.heap.size + 1, 0, none⟩) (by show w.heap.size ≤ w.heap.size + 1; omega) _).setCell (p := ⟨w.heap.size + 1, 1, none⟩) (by show w.heap.size ≤ w.heap.size + 1; omega) _).setCell (p := ⟨w.heap.size + 1, 2, none⟩) (by show w.heap.size ≤ w.heap.size + 1; omega) _).setCell (p := ⟨w.heap.size + 1, 3, none⟩) (by show w.heap.size ≤ w.heap.size + 1; omega) _
  · have h := HM.out.chg ((((hc w6 (w.heap.size + 1 + 1) 3 (.slice (some ⟨g, 0, none⟩) n n) (Nat.le_refl _)).trans (hc _ (w.heap.size + 1) 0 (.int .i64 d) (by omega))).trans (hc _ (w.heap.size + 1) 1 (.int .i64 p) (by omega))).trans ((hc _ (w.heap.size + 1) 2 (.int .i64 k) (by omega)).trans (hc _ (w.heap.size + 1) 3 (.slice (some ⟨g, 0, none⟩) n n) (by omega)))) (.inr (by omega))
    simp only [size_setCell_]
    exact h.wide (by omega)

set_option maxHeartbeats 400000 in
theorem eqField_same' (d p : Int) (w : World) :
    Calls Try.prog 72 #[.agg #[.int .i64 d, .int .i64 p], .agg #[.int .i64 d, .int .i64 p]] w fun e w' => e = .returned (.bool true) ∧ Below w.heap.size w w' := by
  have hb := below_alloc2 w (.cells #[.int .i64 d, .int .i64 p] 31) (.cells #[.int .i64 d, .int .i64 p] 31)
  go_enter Try.func72, Try.ntmps72
  go_wp2
  go_ret
  exact ⟨rfl, hb⟩

set_option maxRecDepth 100000 in
set_option maxHeartbeats 1600000 in
theorem eqCode_rr {w : World} (d p k : Int) {v v' : Value} {rows : List (List Int)} (h : RR w v rows) (h' : RR w v' rows) :
    Calls Try.prog 20 #[.agg (codL d p k v).toArray, .agg (codL d p k v').toArray] w fun e w' => e = .returned (.bool true) ∧ Below w.heap.size w w' := by
  obtain ⟨A, cap, rfl⟩ := h.is
  obtain ⟨A', cap', rfl⟩ := h'.is
  obtain ⟨n, hn⟩ : ∃ n, rows.length = n := ⟨_, rfl⟩
  rw [hn] at h h' ⊢
  clear hn
  have hG := G2.start w (codL d p k (.slice A n cap)) (codL d p k (.slice A' n cap')) 33 33
  have R1 := h.next (below_alloc2 w (.cells (codL d p k (.slice A n cap)).toArray 33) (.cells (codL d p k (.slice A' n cap')).toArray 33))
  have R2 := h'.next (below_alloc2 w (.cells (codL d p k (.slice A n cap)).toArray 33) (.cells (codL d p k (.slice A' n cap')).toArray 33))
  clear h h'
  go_enter Try.func20, Try.ntmps20
  go_wp2_with fail
  refine (eqField_same' d p _).mono ?_
  rintro e w3 ⟨rfl, hb⟩
  have hG3 := hG.next hb
  have R13 := R1.next hb; have R23 := R2.next hb
  clear hb hG R1 R2
  have x2 := hG3.x.cell 2 _ rfl; have y2 := hG3.y.cell 2 _ rfl; have x3 := hG3.x.cell 3 _ rfl; have y3 := hG3.y.cell 3 _ rfl
  go_wp2_with fail
  refine (eqSS_rr R13 R23).mono ?_
  rintro e w4 ⟨rfl, hb⟩
  have HB4 := Lib.hid (hG3.next hb).b
  clear hb hG3 R13 R23 x2 y2 x3 y3
  go_wp2_with fail
  go_ret
  exact ⟨rfl, HB4.out⟩

set_option maxHeartbeats 800000 in
theorem markCode_rs {w : World} {B T : Nat} (d p k : Int) {v : Value} {rows : List (List Int)} (h : RS w B T v rows) (k0 : Nat) (hk0 : k0 + total rows ≤ 1048577) :
    Calls Try.prog 21 #[.agg (codL d p k v).toArray, .int .i64 k0] w fun e w' => e = .returned (.int .i64 ((k0 + total rows : Nat) : Int)) ∧ Chg B T w w' ∧ RS w' B T v (marksS k0 rows) := by
  obtain ⟨A, cap, rfl⟩ := h.is
  obtain ⟨n, hn⟩ : ∃ n, rows.length = n := ⟨_, rfl⟩
  rw [hn] at h ⊢
  clear hn
  go_enter Try.func21, Try.ntmps21
  go_wp2_with fail
  refine (markSS_rs (h.next (below_alloc1 _ _)) k0 hk0).mono ?_
  rintro e w1 ⟨rfl, hC, hR⟩
  have HC := Lib.hid ((Chg.of (below_alloc1 w _)).trans hC)
  have HR := Lib.hid hR
  clear hC hR
  obtain ⟨s, hs⟩ : ∃ s : Nat, k0 + total rows = s := ⟨_, rfl⟩
  rw [hs]
  rw [hs] at hk0
  have HS := Lib.hid hs
  clear hs
  go_wp2_with fail
  go_ret
  exact ⟨by rw [HS.out]; rfl, HC.out, HR.out⟩

set_option maxHeartbeats 800000 in
theorem heldCode_rs {w : World} {B T : Nat} (d p k : Int) {v : Value} {rows : List (List Int)} (k0 : Nat) (h : RS w B T v (marksS k0 rows)) (hk0 : k0 + total rows ≤ 1048577) :
    Calls Try.prog 33 #[.agg (codL d p k v).toArray, .int .i64 k0] w fun e w' => e = .returned (.int .i64 ((k0 + total rows : Nat) : Int)) ∧ Below w.heap.size w w' := by
  obtain ⟨A, cap, rfl⟩ := h.is
  obtain ⟨n, hn⟩ : ∃ n, (marksS k0 rows).length = n := ⟨_, rfl⟩
  rw [hn] at h ⊢
  clear hn
  have hb1 := below_alloc1 w (.cells (codL d p k (.slice A n cap)).toArray 33)
  go_enter Try.func33, Try.ntmps33
  go_wp2_with fail
  refine (heldSS_rs k0 (h.next hb1) hk0).mono ?_
  rintro e w1 ⟨rfl, hb⟩
  have HB := Lib.hid (hb1.trans (hb.mono hb1.size))
  clear hb hb1 h
  obtain ⟨s, hs⟩ : ∃ s : Nat, k0 + total rows = s := ⟨_, rfl⟩
  rw [hs]
  rw [hs] at hk0
  have HS := Lib.hid hs
  clear hs
  go_wp2_with fail
  go_ret
  exact ⟨by rw [HS.out]; rfl, HB.out⟩

set_option maxRecDepth 100000 in
theorem code_open {H : Type} {enc : TypeId × Value → H} {W : World} {r : Reach} {b0 base : Nat} {spare : Nat → Bool} {held : Bool} {v : Value} {d : DataW H} {ps : List MemPlace} (hv : Value.okWide Try.prog W r b0 26 v)
    (h : DataW.Trod enc Try.prog W base spare held 26 v d ps) : ∃ (d0 p0 k : Int) (A : Option Addr) (n cap : Nat) (zs : List (List Int)), v = .agg (codL d0 p0 k (.slice A n cap)).toArray ∧ (Lit.int .i64 d0).wf = true ∧ (Lit.int .i64 p0).wf = true ∧ (Lit.int .i64 k).wf = true ∧ ArgS W A n zs := by
  have hC : Try.prog.cellsOf 26 = 4 := by kernel_rfl
  have hC0 : Try.prog.cellsOf 23 = 2 := by kernel_rfl
  have hC1 : Try.prog.cellsOf 24 = 1 := by kernel_rfl
  have hC2 : Try.prog.cellsOf 2 = 1 := by kernel_rfl
  obtain ⟨cs, rfl, hsz⟩ := okWide_struct Try.underlying26 hv
  obtain ⟨c0, c1, c2, c3, rfl⟩ := array4 (hsz.trans hC)
  obtain ⟨fuel, hf⟩ := h
  obtain ⟨y0, y1, y2, n, hx, _, h0, h1, h2⟩ := trod_struct3 Try.underlying26 hf
  simp only [Value.cells, hC0, hC1, hC2, List.drop_zero] at h0 h1 h2
  have h0' : DataW.trod enc Try.prog W base spare held n 23 [c0, c1] = some y0 := h0
  have h1' : DataW.trod enc Try.prog W base spare held n 2 [c2] = some y1 := h1
  have h2' : DataW.trod enc Try.prog W base spare held n 24 [c3] = some y2 := h2
  obtain ⟨u0, u1, n', _, _, g0, g1⟩ := trod_struct2 Try.underlying23 h0'
  simp only [hC2, List.drop_zero] at g0 g1
  have g0' : DataW.trod enc Try.prog W base spare held n' 2 [c0] = some u0 := g0
  have g1' : DataW.trod enc Try.prog W base spare held n' 2 [c1] = some u1 := g1
  obtain ⟨x0, e0, _, w0⟩ := DataW.trod_int Try.underlying2 g0'
  obtain ⟨x1, e1, _, w1⟩ := DataW.trod_int Try.underlying2 g1'
  obtain ⟨x3, e3, _, w3⟩ := DataW.trod_int Try.underlying2 h1'
  obtain ⟨A, m, cap, zs, rfl, hA⟩ := args_open h2'
  simp at e0 e1 e3
  subst e0 e1 e3
  exact ⟨x0, x1, x3, A, m, cap, zs, rfl, w0, w1, w3, hA⟩
end Go.Proofs.Ytljaabmemjehpaa
