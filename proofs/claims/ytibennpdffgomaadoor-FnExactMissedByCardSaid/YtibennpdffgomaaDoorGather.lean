/- Gatherings as values: what a law's own functions do with them. · A gathering among the arguments, opened. -/
import Derived.Test.YtibennpdffgomaaDoorLB
import Derived.Test.YtibennpdffgomaaDoorArg
import Derived.Test.YtibennpdffgomaaDoorThird
import Derived.Test.YtibennpdffgomaaDoorRow
import Derived.Test.YtibennpdffgomaaDoorMtRes
import Derived.Test.YtibennpdffgomaaDoorOut
import Derived.Deep.RegionLaw
namespace Go.Proofs.YtibennpdffgomaaDoor
open Go.RowKit Go.Joins Go.ChangeShapes Go.WideShapes Go.Deep
set_option linter.unusedVariables false

/-- A gathering's five values. -/
abbrev gatL (p l : Int) (v : Value) (r c : Int) : List Value := [.int .i64 p, .int .i64 l, v, .int .i64 r, .int .i64 c]
theorem Tryd.infoGather : (Tryd.prog.info? 60).map (·.size) = some 5 := by kernel_rfl

set_option maxHeartbeats 800000 in
theorem szGather_any (p l r c : Int) (A : Option Addr) (n cap : Nat) (hn : n ≤ 9223372036854775807) (b : Int) (hl0 : 0 ≤ b) (hl1 : b ≤ 1048576) (w : World) :
    Calls Tryd.prog 26 #[.agg (gatL p l (.slice A n cap) r c).toArray, .int .i64 b] w fun e w' => (((n : Int) ≤ b ∧ e = .returned (.int .i64 (b - (n : Int)))) ∨ (b < (n : Int) ∧ e = .returned (.int .i64 (-1)))) ∧ Below w.heap.size w w' := by
  have hb := below_alloc1 w (.cells (gatL p l (.slice A n cap) r c).toArray 56)
  by_cases h : (n : Int) ≤ b
  · go_enter Tryd.func26, Tryd.ntmps26
    go_wp2_with (go_at_call 38; refine (szInt64S_ok A n cap b hl1 h _).mono ?_; rintro e w' ⟨rfl, rfl⟩)
    go_ret
    exact ⟨.inl ⟨h, rfl⟩, hb⟩
  · go_enter Tryd.func26, Tryd.ntmps26
    go_wp2_with (go_at_call 38; refine (szInt64S_no A n cap hn b hl0 hl1 (by omega) _).mono ?_; rintro e w' ⟨rfl, rfl⟩)
    go_ret
    exact ⟨.inr ⟨by omega, rfl⟩, hb⟩

set_option maxRecDepth 100000 in
set_option maxHeartbeats 3200000 in
theorem toGather_any (p l r c : Int) (A : Option Addr) (n cap : Nat) (xs : List Int) (w : World) (hA : Arg w A n xs) (hn : n ≤ 1048576) :
    Calls Tryd.prog 28 #[.agg (gatL p l (.slice A n cap) r c).toArray] w fun e w' => ∃ g, e = .returned (.agg (gatL p l (.slice (some ⟨g, 0, none⟩) n n) r c).toArray) ∧ w.heap.size ≤ g ∧ Below w.heap.size w w' ∧ Mt w' g n xs := by
  have hb1 := below_alloc1 w (.cells (gatL p l (.slice A n cap) r c).toArray 56)
  have hX1 := LB.one w (gatL p l (.slice A n cap) r c) 56
  have hb2 := below_alloc1 (w.alloc (.cells (gatL p l (.slice A n cap) r c).toArray 56)) (.cells (gatL 0 0 (.slice none 0 0) 0 0).toArray 60)
  have hR2 := LF.start (w.alloc (.cells (gatL p l (.slice A n cap) r c).toArray 56)) (gatL 0 0 (.slice none 0 0) 0 0) 60
  have hb3 := below_alloc1 ((w.alloc (.cells (gatL p l (.slice A n cap) r c).toArray 56)).alloc (.cells (gatL 0 0 (.slice none 0 0) 0 0).toArray 60)) (.cells (gatL p l (.slice none 0 0) 0 0).toArray 60)
  have hO3 := LF.start ((w.alloc (.cells (gatL p l (.slice A n cap) r c).toArray 56)).alloc (.cells (gatL 0 0 (.slice none 0 0) 0 0).toArray 60)) (gatL p l (.slice none 0 0) 0 0) 60
  have hX3 := (hX1.next hb2).next hb3
  have hR3 : LF _ _ _ := hR2.next hb3
  rw [World.size_alloc] at hR3
  rw [World.size_alloc, World.size_alloc] at hO3
  have HB3 := Lib.hid ((hb1.trans (hb2.mono hb1.size)).trans (hb3.mono (by simp; omega)))
  have HZ3 := Lib.hid hO3.b.lt
  clear hb1 hb2 hb3 hX1 hR2
  have HX3 := Lib.hid hX3; have HR3 := Lib.hid hR3; have HO3 := Lib.hid hO3
  clear hX3 hR3 hO3
  go_enter Tryd.func28, Tryd.ntmps28
  go_wp2_with fail
  have hO5 := HO3.out
  have hR5 := HR3.out
  have hX5 := HX3.out
  have hB5 := HB3.out
  clear HX3 HR3 HO3 HB3 HZ3
  generalize (((w.alloc (.cells (gatL p l (.slice A n cap) r c).toArray 56)).alloc (.cells (gatL 0 0 (.slice none 0 0) 0 0).toArray 60)).alloc (.cells (gatL p l (.slice none 0 0) 0 0).toArray 60)) = W5 at hO5 hR5 hX5 hB5 ⊢
  refine (toInt64S_any A n cap xs W5 (hA.below hB5) hn).mono ?_
  rintro e w6 ⟨g, rfl, hge, hb, hM⟩
  have hR6 := hR5.next hb
  have hO6 := hO5.next hb
  have hX6 := hX5.next hb
  have hB6 := hB5.trans (hb.mono hB5.size)
  have hz5 : w.heap.size + 1 + 1 < W5.heap.size := hO5.b.lt
  have HB6 := Lib.hid hB6
  have HM := Lib.hid hM
  clear hb hR5 hO5 hX5 hM hB6
  have o0 := hO6.b.cell 0 _ rfl; have o1 := hO6.b.cell 1 _ rfl; have o2 := hO6.b.cell 2 _ rfl; have o3 := hO6.b.cell 3 _ rfl; have o4 := hO6.b.cell 4 _ rfl
  have f2 := hO6.free 2 (by simp); have f3 := hO6.free 3 (by simp); have f4 := hO6.free 4 (by simp)
  have d3 := hX6.cell 3 _ rfl; have d4 := hX6.cell 4 _ rfl
  have r0 := hR6.b.cell 0 _ rfl; have r1 := hR6.b.cell 1 _ rfl; have r2 := hR6.b.cell 2 _ rfl; have r3 := hR6.b.cell 3 _ rfl; have r4 := hR6.b.cell 4 _ rfl
  have g0 := hR6.free 0 (by simp); have g1 := hR6.free 1 (by simp); have g2 := hR6.free 2 (by simp); have g3 := hR6.free 3 (by simp); have g4 := hR6.free 4 (by simp)
  have HR6 := Lib.hid hR6
  have HGQ := Lib.hid (And.intro (show w.heap.size + 1 + 1 < g by omega) hz5)
  clear hO6 hR6 hX6 hz5 hge
  go_wp2_with fail
  have hc : ∀ (W : World) (b i : Nat) (x : Value), b ≤ w.heap.size + 1 + 1 → Chg 0 (w.heap.size + 1 + 1 + 1) W (W.setCell ⟨b, i, none⟩ x) := fun W b i x hb => ⟨rfl, rfl, rfl, Nat.le_of_eq (size_setCell_ ..).symm, fun k hk ho => Below.heap_setCell W ⟨b, i, none⟩ x k (by show k ≠ b; omega)⟩
  have hB : ∀ (W : World) (b i : Nat) (x : Value), Below w.heap.size w W → w.heap.size ≤ b → Below w.heap.size w (W.setCell ⟨b, i, none⟩ x) := fun W b i x h h1 => h.setCell (p := ⟨b, i, none⟩) h1 x
  have hfin := (((((((HR6.out.other (b := w.heap.size + 1 + 1) (by omega) 2 (.slice (some ⟨g, 0, none⟩) n n)).other (b := w.heap.size + 1 + 1) (by omega) 3 (.int .i64 r)).other (b := w.heap.size + 1 + 1) (by omega) 4 (.int .i64 c)).set 0 (by simp) (.int .i64 p)).set 1 (by simp) (.int .i64 l)).set 2 (by simp) (.slice (some ⟨g, 0, none⟩) n n)).set 3 (by simp) (.int .i64 r)).set 4 (by simp) (.int .i64 c)
  refine bodyPost_ret (v := .agg (gatL p l (.slice (some ⟨g, 0, none⟩) n n) r c).toArray) (lb_result (p := 2) (fn := Tryd.f28) rfl _ rfl hfin.b Tryd.underlying60 rfl Tryd.infoGather) rfl ⟨g, rfl, by have := HGQ.out.1; omega, ?_, ?_⟩
  · exact hB _ _ _ _ (hB _ _ _ _ (hB _ _ _ _ (hB _ _ _ _ (hB _ _ _ _ (hB _ _ _ _ (hB _ _ _ _ (hB _ _ _ _ HB6.out (by omega)) (by omega)) (by omega)) (by omega)) (by omega)) (by omega)) (by omega)) (by omega)
  · have hz5 := HGQ.out.2
    have hz6 := HGQ.out.1
    have hs : ∀ (W : World) (b i : Nat) (x : Value), Mt W g n xs → b ≤ w.heap.size + 1 + 1 → Mt (W.setCell ⟨b, i, none⟩ x) g n xs := fun W b i x h hb => h.at (Below.heap_setCell W ⟨b, i, none⟩ x g (by show g ≠ b; omega)) (Nat.le_of_eq (size_setCell_ ..).symm)
    exact hs _ _ _ _ (hs _ _ _ _ (hs _ _ _ _ (hs _ _ _ _ (hs _ _ _ _ (hs _ _ _ _ (hs _ _ _ _ (hs _ _ _ _ HM.out (by omega)) (by omega)) (by omega)) (by omega)) (by omega)) (by omega)) (by omega)) (by omega)

set_option maxRecDepth 100000 in
set_option maxHeartbeats 1600000 in
theorem eqGather_res {w : World} {B T B' T' : Nat} (p l r c : Int) {v v' : Value} {xs : List Int} (h : Res w B T v xs) (h' : Res w B' T' v' xs) :
    Calls Tryd.prog 31 #[.agg (gatL p l v r c).toArray, .agg (gatL p l v' r c).toArray] w fun e w' => e = .returned (.bool true) ∧ Below w.heap.size w w' := by
  obtain ⟨A, n, cap, rfl⟩ := h.form
  obtain ⟨A', n', cap', rfl⟩ := h'.form
  have hG := G2.start w (gatL p l (.slice A n cap) r c) (gatL p l (.slice A' n' cap') r c) 60 60
  have R1 := h.next (below_alloc2 w (.cells (gatL p l (.slice A n cap) r c).toArray 60) (.cells (gatL p l (.slice A' n' cap') r c).toArray 60))
  have R2 := h'.next (below_alloc2 w (.cells (gatL p l (.slice A n cap) r c).toArray 60) (.cells (gatL p l (.slice A' n' cap') r c).toArray 60))
  clear h h'
  go_enter Tryd.func31, Tryd.ntmps31
  go_wp2_with fail
  refine (eq_res R1 R2).mono ?_
  rintro e w3 ⟨rfl, hb⟩
  have hG3 := hG.next hb
  clear hb hG R1 R2
  have x3 := hG3.x.cell 3 _ rfl; have y3 := hG3.y.cell 3 _ rfl; have x4 := hG3.x.cell 4 _ rfl; have y4 := hG3.y.cell 4 _ rfl
  go_wp2_with fail
  go_ret
  exact ⟨rfl, hG3.b⟩

set_option maxHeartbeats 800000 in

theorem five {α : Type} {cs : Array α} (h : cs.size = 5) : ∃ c0 c1 c2 c3 c4, cs = #[c0, c1, c2, c3, c4] := by
  obtain ⟨l⟩ := cs
  match l, h with
  | [c0, c1, c2, c3, c4], _ => exact ⟨c0, c1, c2, c3, c4, rfl⟩
theorem fields5g {H : Type} {enc : TypeId × Value → H} {P : Program} {w : World} {base : Nat} {spare : Nat → Bool} {held : Bool} {t : TypeId} {f0 f1 f2 f3 f4 : Field} {fuel : Nat} {cs : List Value} {x : DataW H × List MemPlace}
    (ht : P.underlying t = some (.struct #[f0, f1, f2, f3, f4])) (h : DataW.trod enc P w base spare held fuel t cs = some x) :
    ∃ (y : Nat → DataW H × List MemPlace) (n : Nat), ∀ j f, [f0, f1, f2, f3, f4][j]? = some f → DataW.trod enc P w base spare held n f.type ((cs.drop f.offset).take (P.cellsOf f.type)) = some (y j) := by
  obtain ⟨xs, n, _, rfl, hl, hlen, hf⟩ := DataW.trod_struct ht h
  match xs, hlen with
  | [y0, y1, y2, y3, y4], _ =>
    refine ⟨fun j => [y0, y1, y2, y3, y4].getD j y0, n, fun j f hj => ?_⟩
    match j, hj with
    | 0, hj => simp at hj; subst hj; simpa using hf 0 _ rfl
    | 1, hj => simp at hj; subst hj; simpa using hf 1 _ rfl
    | 2, hj => simp at hj; subst hj; simpa using hf 2 _ rfl
    | 3, hj => simp at hj; subst hj; simpa using hf 3 _ rfl
    | 4, hj => simp at hj; subst hj; simpa using hf 4 _ rfl
    | j + 5, hj => simp at hj
set_option maxRecDepth 100000 in
theorem gather_open {H : Type} {enc : TypeId × Value → H} {W : World} {r : Reach} {b0 base : Nat} {spare : Nat → Bool} {held : Bool} {v : Value} {d : DataW H} {ps : List MemPlace} (hv : Value.okWide Tryd.prog W r b0 56 v)
    (h : DataW.Trod enc Tryd.prog W base spare held 56 v d ps) : ∃ (p0 l0 r0 c0 : Int) (A : Option Addr) (n cap : Nat) (zs : List Int), v = .agg (gatL p0 l0 (.slice A n cap) r0 c0).toArray ∧ (Lit.int .i64 p0).wf = true ∧ (Lit.int .i64 l0).wf = true ∧ (Lit.int .i64 r0).wf = true ∧ (Lit.int .i64 c0).wf = true ∧ Arg W A n zs := by
  have hC : Tryd.prog.cellsOf 56 = 5 := by kernel_rfl
  have hC1 : Tryd.prog.cellsOf 24 = 1 := by kernel_rfl
  have hC2 : Tryd.prog.cellsOf 2 = 1 := by kernel_rfl
  obtain ⟨cs, rfl, hsz⟩ := okWide_struct Tryd.underlying56 hv
  obtain ⟨c0, c1, c2, c3, c4, rfl⟩ := five (hsz.trans hC)
  obtain ⟨fuel, hf⟩ := h
  obtain ⟨yy, n, hy⟩ := fields5g Tryd.underlying56 hf
  have h0 := hy 0 _ rfl
  have h1 := hy 1 _ rfl
  have h2 := hy 2 _ rfl
  have h3 := hy 3 _ rfl
  have h4 := hy 4 _ rfl
  simp only [Value.cells, hC1, hC2, List.drop_zero] at h0 h1 h2 h3 h4
  have h0' : DataW.trod enc Tryd.prog W base spare held n 2 [c0] = some (yy 0) := h0
  have h1' : DataW.trod enc Tryd.prog W base spare held n 2 [c1] = some (yy 1) := h1
  have h2' : DataW.trod enc Tryd.prog W base spare held n 24 [c2] = some (yy 2) := h2
  have h3' : DataW.trod enc Tryd.prog W base spare held n 2 [c3] = some (yy 3) := h3
  have h4' : DataW.trod enc Tryd.prog W base spare held n 2 [c4] = some (yy 4) := h4
  obtain ⟨x0, e0, _, w0⟩ := DataW.trod_int Tryd.underlying2 h0'
  obtain ⟨x1, e1, _, w1⟩ := DataW.trod_int Tryd.underlying2 h1'
  obtain ⟨x3, e3, _, w3⟩ := DataW.trod_int Tryd.underlying2 h3'
  obtain ⟨x4, e4, _, w4⟩ := DataW.trod_int Tryd.underlying2 h4'
  obtain ⟨A, m, cap, zs, rfl, hA⟩ := arg_open h2'
  simp at e0 e1 e3 e4
  subst e0 e1 e3 e4
  exact ⟨x0, x1, x3, x4, A, m, cap, zs, rfl, w0, w1, w3, w4, hA⟩
end Go.Proofs.YtibennpdffgomaaDoor
