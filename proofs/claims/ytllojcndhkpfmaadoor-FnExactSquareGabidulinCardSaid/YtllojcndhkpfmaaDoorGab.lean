/- Gabidulin codes as values: what a law's own functions do with them. -/
import Derived.Test.YtllojcndhkpfmaaDoorThird
import Derived.Test.YtllojcndhkpfmaaDoorMtRes
import Derived.Test.YtllojcndhkpfmaaDoorRes
import Derived.Test.YtllojcndhkpfmaaDoorToField
import Derived.Deep.MidRow
namespace Go.Proofs.YtllojcndhkpfmaaDoor
open Go.RowKit Go.Joins
set_option linter.unusedVariables false

/-- Four values that lie at the block q. -/
structure Box4 (W : World) (q : Nat) (a b c d : Value) : Prop where
  c0 : W.cell? ⟨q, 0, none⟩ = some a
  c1 : W.cell? ⟨q, 1, none⟩ = some b
  c2 : W.cell? ⟨q, 2, none⟩ = some c
  c3 : W.cell? ⟨q, 3, none⟩ = some d
  lt : q < W.heap.size
theorem Box4.next {W W' : World} {q : Nat} {a b c d : Value} (h : Box4 W q a b c d) (hb : Below W.heap.size W W') : Box4 W' q a b c d :=
  ⟨(hb.cell (p := ⟨q, 0, none⟩) h.lt).trans h.c0, (hb.cell (p := ⟨q, 1, none⟩) h.lt).trans h.c1, (hb.cell (p := ⟨q, 2, none⟩) h.lt).trans h.c2, (hb.cell (p := ⟨q, 3, none⟩) h.lt).trans h.c3, Nat.lt_of_lt_of_le h.lt hb.size⟩
theorem Box4.chg {W W' : World} {q B T : Nat} {a b c d : Value} (h : Box4 W q a b c d) (hb : Chg B T W W') (hq : q < B ∨ T ≤ q) : Box4 W' q a b c d := by
  have hg : W'.heap[q]? = W.heap[q]? := hb.block q h.lt hq
  exact ⟨(World.cell?_of_block (w := W) (a := ⟨q, 0, none⟩) hg).trans h.c0, (World.cell?_of_block (w := W) (a := ⟨q, 1, none⟩) hg).trans h.c1, (World.cell?_of_block (w := W) (a := ⟨q, 2, none⟩) hg).trans h.c2, (World.cell?_of_block (w := W) (a := ⟨q, 3, none⟩) hg).trans h.c3, Nat.lt_of_lt_of_le h.lt hb.size⟩
theorem Box4.one (w : World) (a b c d : Value) (T : TypeId) : Box4 (w.alloc (.cells #[a, b, c, d] T)) w.heap.size a b c d := ⟨by simp [World.cell?_alloc_at], by simp [World.cell?_alloc_at], by simp [World.cell?_alloc_at], by simp [World.cell?_alloc_at], by simp⟩
theorem Box4.drewN {W : World} {q : Nat} {a b c d : Value} (h : Box4 W q a b c d) (k : Nat) : Box4 (W.drewN k) q a b c d := ⟨h.c0, h.c1, h.c2, h.c3, h.lt⟩
/-- A Gabidulin code's four values. -/
abbrev gabC (d p : Int) (v : Value) (k : Int) : Array Value := #[.int .i64 d, .int .i64 p, v, .int .i64 k]

theorem Tryd.infoGab : (Tryd.prog.info? 30).map (·.size) = some 4 := by kernel_rfl
theorem gab_load {W : World} {q : Nat} {a b c d : Value} (h : Box4 W q a b c d) : (loadVar 30 ⟨q, 0, none⟩).run Tryd.prog W = .ok (.agg #[a, b, c, d]) W := by
  have := run_loadVar_mid (P := Tryd.prog) W q 0 30 [a, b, c, d] _ (fun j v hv => by
    rw [Nat.zero_add]
    match j, hv with
    | 0, hv => simp at hv; subst hv; exact h.c0
    | 1, hv => simp at hv; subst hv; exact h.c1
    | 2, hv => simp at hv; subst hv; exact h.c2
    | 3, hv => simp at hv; subst hv; exact h.c3
    | j + 4, hv => simp at hv) Tryd.underlying30 rfl Tryd.infoGab
  simpa using this
theorem gab_result {fn : Func} {p : Tmp} (h : fn.results = #[.cell p 30]) (tmps : Array Value) {W : World} {q : Nat} {a b c d : Value}
    (hp : tmps.getD p undef = .pointer (some ⟨q, 0, none⟩)) (hG : Box4 W q a b c d) : (results fn tmps).run Tryd.prog W = .ok (.agg #[a, b, c, d]) W := by
  have hp' : tmps[p]?.getD undef = .pointer (some ⟨q, 0, none⟩) := by simpa using hp
  simp [results, h, hp', asAddr, gab_load hG]

set_option maxHeartbeats 800000 in
theorem szInt64S_ok' (A : Option Addr) (n cap : Nat) (l : Int) (hl : l ≤ 1048576) (h : (n : Int) ≤ l) (w : World) :
    Calls Tryd.prog 11 #[.slice A n cap, .int .i64 l] w fun e w' => e = .returned (.int .i64 (l - n)) ∧ w = w' := by
  go_enter Tryd.func11, Tryd.ntmps11
  go_wp2
  go_ret
  exact ⟨rfl, rfl⟩
set_option maxHeartbeats 800000 in
theorem szInt64S_no' (A : Option Addr) (n cap : Nat) (hn : n ≤ 9223372036854775807) (l : Int) (h0 : 0 ≤ l) (hl : l ≤ 1048576) (h : l < (n : Int)) (w : World) :
    Calls Tryd.prog 11 #[.slice A n cap, .int .i64 l] w fun e w' => e = .returned (.int .i64 (-1)) ∧ w = w' := by
  go_enter Tryd.func11, Tryd.ntmps11
  go_wp2
  go_ret
  exact ⟨rfl, rfl⟩
set_option maxHeartbeats 800000 in
theorem szGab_ok (d p k : Int) (A : Option Addr) (n cap : Nat) (l : Int) (hl : l ≤ 1048576) (h : (n : Int) ≤ l) (w : World) :
    Calls Tryd.prog 4 #[.agg (gabC d p (.slice A n cap) k), .int .i64 l] w fun e w' => e = .returned (.int .i64 (l - n)) ∧ Below w.heap.size w w' := by
  have hb := below_alloc1 w (.cells (gabC d p (.slice A n cap) k) 26)
  go_enter Tryd.func4, Tryd.ntmps4
  go_wp2_with (go_at_call 11; refine (szInt64S_ok' A n cap l hl h _).mono ?_; rintro e w' ⟨rfl, rfl⟩)
  go_ret
  exact ⟨rfl, hb⟩
set_option maxHeartbeats 800000 in
theorem szGab_no (d p k : Int) (A : Option Addr) (n cap : Nat) (hn : n ≤ 9223372036854775807) (l : Int) (h0 : 0 ≤ l) (hl : l ≤ 1048576) (h : l < (n : Int)) (w : World) :
    Calls Tryd.prog 4 #[.agg (gabC d p (.slice A n cap) k), .int .i64 l] w fun e w' => e = .returned (.int .i64 (-1)) ∧ Below w.heap.size w w' := by
  have hb := below_alloc1 w (.cells (gabC d p (.slice A n cap) k) 26)
  go_enter Tryd.func4, Tryd.ntmps4
  go_wp2_with (go_at_call 11; refine (szInt64S_no' A n cap hn l h0 hl h _).mono ?_; rintro e w' ⟨rfl, rfl⟩)
  go_ret
  exact ⟨rfl, hb⟩
/-- Some values that lie at the block q and may be overwritten. -/
structure FB (W : World) (q : Nat) (vs : List Value) : Prop where
  cell : ∀ j v, vs[j]? = some v → W.cell? ⟨q, j, none⟩ = some v
  free : ∀ j, j < vs.length → W.frozen? ⟨q, j, none⟩ = false
  lt : q < W.heap.size
theorem FB.below {W W' : World} {q : Nat} {vs : List Value} (h : FB W q vs) (hb : Below W.heap.size W W') : FB W' q vs :=
  ⟨fun j v hv => (hb.cell (p := ⟨q, j, none⟩) h.lt).trans (h.cell j v hv), fun j hj => (hb.frozen (p := ⟨q, j, none⟩) h.lt).trans (h.free j hj), Nat.lt_of_lt_of_le h.lt hb.size⟩
theorem FB.set {W : World} {q : Nat} {vs : List Value} (h : FB W q vs) (i : Nat) (hi : i < vs.length) (v : Value) : FB (W.setCell ⟨q, i, none⟩ v) q (vs.set i v) := by
  refine ⟨fun j u hu => ?_, fun j hj => by rw [World.frozen?_setCell]; exact h.free j (by simpa using hj), by rw [size_setCell_]; exact h.lt⟩
  by_cases e : j = i
  · subst e
    rw [List.getElem?_set_self hi] at hu
    injection hu with hu
    subst hu
    exact World.cell?_setCell_same' _ _ _ (by rw [h.cell j _ (List.getElem?_eq_getElem hi)]; rfl)
  · rw [List.getElem?_set_ne (fun h => e h.symm)] at hu
    rw [World.cell?_setCell_other _ ⟨q, i, none⟩ ⟨q, j, none⟩ _ (fun h => e (by injection h with _ h _; omega))]
    exact h.cell j u hu
theorem FB.other {W : World} {q b : Nat} {vs : List Value} (h : FB W q vs) (hb : q ≠ b) (i : Nat) (v : Value) : FB (W.setCell ⟨b, i, none⟩ v) q vs := by
  refine ⟨fun j u hu => ?_, fun j hj => by rw [World.frozen?_setCell]; exact h.free j hj, by rw [size_setCell_]; exact h.lt⟩
  rw [World.cell?_setCell_other _ ⟨b, i, none⟩ ⟨q, j, none⟩ _ (fun e => hb (by injection e with e _ _; omega))]
  exact h.cell j u hu
theorem FB.start (w : World) (vs : List Value) (T : TypeId) : FB (w.alloc (.cells vs.toArray T)) w.heap.size vs :=
  ⟨fun j v hv => by rw [World.cell?_alloc_at _ _ _ _ rfl]; simpa using hv, fun j hj => by rw [World.frozen?_alloc_at _ _ _ _ rfl], by simp⟩
theorem FB.box {W : World} {q : Nat} {a b c d : Value} (h : FB W q [a, b, c, d]) : Box4 W q a b c d := ⟨h.cell 0 _ rfl, h.cell 1 _ rfl, h.cell 2 _ rfl, h.cell 3 _ rfl, h.lt⟩
theorem Box4.other {W : World} {q b : Nat} {a0 a1 a2 a3 : Value} (h : Box4 W q a0 a1 a2 a3) (hb : q ≠ b) (i : Nat) (v : Value) : Box4 (W.setCell ⟨b, i, none⟩ v) q a0 a1 a2 a3 := by
  have e : ∀ j, (⟨b, i, none⟩ : Addr) ≠ ⟨q, j, none⟩ := fun j e => hb (by injection e with e _ _; omega)
  exact ⟨by rw [World.cell?_setCell_other _ _ _ _ (e 0).symm.symm]; exact h.c0, by rw [World.cell?_setCell_other _ _ _ _ (e 1)]; exact h.c1, by rw [World.cell?_setCell_other _ _ _ _ (e 2)]; exact h.c2, by rw [World.cell?_setCell_other _ _ _ _ (e 3)]; exact h.c3, by rw [size_setCell_]; exact h.lt⟩
set_option maxRecDepth 100000 in
set_option maxHeartbeats 3200000 in
theorem toGab_any (d p k : Int) (A : Option Addr) (n cap : Nat) (xs : List Int) (w : World) (hA : Arg w A n xs) (hn : n ≤ 1048576) :
    Calls Tryd.prog 6 #[.agg (gabC d p (.slice A n cap) k)] w fun e w' => ∃ b, e = .returned (.agg (gabC d p (.slice (some ⟨b, 0, none⟩) n n) k)) ∧ w.heap.size ≤ b ∧ Below w.heap.size w w' ∧ Mt w' b n xs := by
  have hb1 := below_alloc1 w (.cells (gabC d p (.slice A n cap) k) 26)
  have hX1 := Box4.one w (.int .i64 d) (.int .i64 p) (.slice A n cap) (.int .i64 k) 26
  have hb2 := below_alloc1 (w.alloc (.cells (gabC d p (.slice A n cap) k) 26)) (.cells (gabC 0 0 (.slice none 0 0) 0) 30)
  have hR2 := FB.start (w.alloc (.cells (gabC d p (.slice A n cap) k) 26)) [.int .i64 0, .int .i64 0, .slice none 0 0, .int .i64 0] 30
  have hb3 := below_alloc1 ((w.alloc (.cells (gabC d p (.slice A n cap) k) 26)).alloc (.cells (gabC 0 0 (.slice none 0 0) 0) 30)) (.cells (gabC 0 0 (.slice none 0 0) 0) 30)
  have hO3 := FB.start ((w.alloc (.cells (gabC d p (.slice A n cap) k) 26)).alloc (.cells (gabC 0 0 (.slice none 0 0) 0) 30)) [.int .i64 0, .int .i64 0, .slice none 0 0, .int .i64 0] 30
  have hX3 := (hX1.next hb2).next hb3
  have hR3 : FB _ _ _ := hR2.below hb3
  rw [World.size_alloc] at hR3
  rw [World.size_alloc, World.size_alloc] at hO3
  have HB3 := Lib.hid ((hb1.trans (hb2.mono hb1.size)).trans (hb3.mono (by simp; omega)))
  clear hb1 hb2 hb3 hX1 hR2
  have d0 := hX3.c0; have d1 := hX3.c1
  go_enter Tryd.func6, Tryd.ntmps6
  go_wp2_with fail
  refine (toField_any d p _).mono ?_
  rintro e w4 ⟨rfl, hb⟩
  have hX4 := hX3.next hb
  have hR4 := hR3.below hb
  have hO4 := hO3.below hb
  have HB4 := Lib.hid (HB3.out.trans (hb.mono (by simp; omega)))
  clear hb hX3 hR3 hO3 d0 d1 HB3
  have d2 := hX4.c2
  have o0 := hO4.cell 0 _ rfl; have o1 := hO4.cell 1 _ rfl
  have f0 := hO4.free 0 (by simp); have f1 := hO4.free 1 (by simp)
  go_wp2_with fail
  have hO5 : FB ((w4.setCell ⟨w.heap.size + 1 + 1, 0, none⟩ (.int .i64 d)).setCell ⟨w.heap.size + 1 + 1, 1, none⟩ (.int .i64 p)) (w.heap.size + 1 + 1) [.int .i64 d, .int .i64 p, .slice none 0 0, .int .i64 0] := (hO4.set 0 (by simp) (.int .i64 d)).set 1 (by simp) (.int .i64 p)
  have hR5 := (hR4.other (b := w.heap.size + 1 + 1) (by omega) 0 (.int .i64 d)).other (b := w.heap.size + 1 + 1) (by omega) 1 (.int .i64 p)
  have hX5 := (hX4.other (b := w.heap.size + 1 + 1) (by omega) 0 (.int .i64 d)).other (b := w.heap.size + 1 + 1) (by omega) 1 (.int .i64 p)
  have hB5 := (HB4.out.setCell (p := ⟨w.heap.size + 1 + 1, 0, none⟩) (by show w.heap.size ≤ w.heap.size + 1 + 1; omega) (.int .i64 d)).setCell (p := ⟨w.heap.size + 1 + 1, 1, none⟩) (by show w.heap.size ≤ w.heap.size + 1 + 1; omega) (.int .i64 p)
  clear hO4 hR4 hX4 HB4 d2 o0 o1 f0 f1
  generalize (w4.setCell ⟨w.heap.size + 1 + 1, 0, none⟩ (.int .i64 d)).setCell ⟨w.heap.size + 1 + 1, 1, none⟩ (.int .i64 p) = W5 at hO5 hR5 hX5 hB5 ⊢
  refine (toInt64S_any A n cap xs W5 (hA.from hB5) hn).mono ?_
  rintro e w6 ⟨b, rfl, hge, hb, hM⟩
  have hX6 := hX5.next hb
  have hR6 := hR5.below hb
  have hO6 := hO5.below hb
  have hB6 := hB5.trans (hb.mono hB5.size)
  have hz5 : w.heap.size + 1 + 1 < W5.heap.size := hO5.lt
  have HB6 := Lib.hid hB6
  have HM := Lib.hid hM
  clear hb hX5 hR5 hO5 hM hB6
  have d3 := hX6.c3
  have o0 := hO6.cell 0 _ rfl; have o1 := hO6.cell 1 _ rfl; have o2 := hO6.cell 2 _ rfl; have o3 := hO6.cell 3 _ rfl
  have f2 := hO6.free 2 (by simp); have f3 := hO6.free 3 (by simp)
  have r0 := hR6.cell 0 _ rfl; have r1 := hR6.cell 1 _ rfl; have r2 := hR6.cell 2 _ rfl; have r3 := hR6.cell 3 _ rfl
  have g0 := hR6.free 0 (by simp); have g1 := hR6.free 1 (by simp); have g2 := hR6.free 2 (by simp); have g3 := hR6.free 3 (by simp)
  have HR6 := Lib.hid hR6
  have hbq : w.heap.size + 1 + 1 < b := by omega
  have HBQ := Lib.hid hbq
  clear hX6 hO6 hR6 hbq
  go_wp2_with fail
  have hfin := (((((HR6.out.other (b := w.heap.size + 1 + 1) (by omega) 2 (.slice (some ⟨b, 0, none⟩) n n)).other (b := w.heap.size + 1 + 1) (by omega) 3 (.int .i64 k)).set 0 (by simp) (.int .i64 d)).set 1 (by simp) (.int .i64 p)).set 2 (by simp) (.slice (some ⟨b, 0, none⟩) n n)).set 3 (by simp) (.int .i64 k)
  refine bodyPost_ret (v := .agg (gabC d p (.slice (some ⟨b, 0, none⟩) n n) k)) (gab_result (p := 2) (fn := Tryd.f6) rfl _ rfl hfin.box) rfl ⟨b, rfl, by have := HBQ.out; omega, ?_, ?_⟩
  · exact (((((HB6.out.setCell (p := ⟨w.heap.size + 1 + 1, 2, none⟩) (by show w.heap.size ≤ w.heap.size + 1 + 1; omega) _).setCell (p := ⟨w.heap.size + 1 + 1, 3, none⟩) (by show w.heap.size ≤ w.heap.size + 1 + 1; omega) _).setCell (p := ⟨w.heap.size + 1, 0, none⟩) (by show w.heap.size ≤ w.heap.size + 1; omega) _).setCell (p := ⟨w.heap.size + 1, 1, none⟩) (by show w.heap.size ≤ w.heap.size + 1; omega) _).setCell (p := ⟨w.heap.size + 1, 2, none⟩) (by show w.heap.size ≤ w.heap.size + 1; omega) _).setCell (p := ⟨w.heap.size + 1, 3, none⟩) (by show w.heap.size ≤ w.heap.size + 1; omega) _
  · have := HBQ.out
    exact (((((HM.out.setCell (p := ⟨w.heap.size + 1 + 1, 2, none⟩) (by show b ≠ w.heap.size + 1 + 1; omega) _).setCell (p := ⟨w.heap.size + 1 + 1, 3, none⟩) (by show b ≠ w.heap.size + 1 + 1; omega) _).setCell (p := ⟨w.heap.size + 1, 0, none⟩) (by show b ≠ w.heap.size + 1; omega) _).setCell (p := ⟨w.heap.size + 1, 1, none⟩) (by show b ≠ w.heap.size + 1; omega) _).setCell (p := ⟨w.heap.size + 1, 2, none⟩) (by show b ≠ w.heap.size + 1; omega) _).setCell (p := ⟨w.heap.size + 1, 3, none⟩) (by show b ≠ w.heap.size + 1; omega) _

set_option maxHeartbeats 400000 in
theorem eqField_same (d p : Int) (w : World) :
    Calls Tryd.prog 21 #[.agg #[.int .i64 d, .int .i64 p], .agg #[.int .i64 d, .int .i64 p]] w fun e w' => e = .returned (.bool true) ∧ Below w.heap.size w w' := by
  have hb := below_alloc2 w (.cells #[.int .i64 d, .int .i64 p] 28) (.cells #[.int .i64 d, .int .i64 p] 28)
  go_enter Tryd.func21, Tryd.ntmps21
  go_wp2
  go_ret
  exact ⟨rfl, hb⟩
set_option maxHeartbeats 1600000 in
theorem eqGab_res {w : World} {B T B' T' : Nat} (d p k : Int) {v v' : Value} {xs : List Int} (h : Res w B T v xs) (h' : Res w B' T' v' xs) :
    Calls Tryd.prog 8 #[.agg (gabC d p v k), .agg (gabC d p v' k)] w fun e w' => e = .returned (.bool true) ∧ Below w.heap.size w w' := by
  obtain ⟨ao, m, cp, rfl⟩ := h.form
  obtain ⟨ao', m', cp', rfl⟩ := h'.form
  have hb1 := below_alloc1 w (.cells (gabC d p (.slice ao m cp) k) 30)
  have hb2 := below_alloc1 (w.alloc (.cells (gabC d p (.slice ao m cp) k) 30)) (.cells (gabC d p (.slice ao' m' cp') k) 30)
  have hX := (Box4.one w (.int .i64 d) (.int .i64 p) (.slice ao m cp) (.int .i64 k) 30).next hb2
  have hY := Box4.one (w.alloc (.cells (gabC d p (.slice ao m cp) k) 30)) (.int .i64 d) (.int .i64 p) (.slice ao' m' cp') (.int .i64 k) 30
  rw [World.size_alloc] at hY
  have R1 := (h.next hb1).next hb2
  have R2 := (h'.next hb1).next hb2
  have hB := hb1.trans (hb2.mono hb1.size)
  clear hb1 hb2
  go_enter Tryd.func8, Tryd.ntmps8
  go_wp2_with fail
  refine (eqField_same d p _).mono ?_
  rintro e w3 ⟨rfl, hb⟩
  have hX3 := hX.next hb; have hY3 := hY.next hb
  have R13 := R1.next hb; have R23 := R2.next hb
  have HB3 := Lib.hid (hB.trans (hb.mono hB.size))
  clear hb hX hY R1 R2 hB
  have x2 := hX3.c2; have y2 := hY3.c2
  go_wp2_with fail
  refine (eq_res R13 R23).mono ?_
  rintro e w4 ⟨rfl, hb⟩
  have hX4 := hX3.next hb; have hY4 := hY3.next hb
  have HB4 := Lib.hid (HB3.out.trans (hb.mono HB3.out.size))
  clear hb hX3 hY3 R13 R23 x2 y2
  have x3 := hX4.c3; have y3 := hY4.c3
  go_wp2_with fail
  go_ret
  exact ⟨rfl, HB4.out⟩
/-- The copy of a Gabidulin code among the arguments, in the call's first block. -/
structure G4 (w0 : World) (d p : Int) (v : Value) (k : Int) (W : World) : Prop where
  b : Below w0.heap.size w0 W
  x : Box4 W w0.heap.size (.int .i64 d) (.int .i64 p) v (.int .i64 k)
theorem G4.start (w : World) (d p : Int) (v : Value) (k : Int) (T : TypeId) : G4 w d p v k (w.alloc (.cells (gabC d p v k) T)) := ⟨below_alloc1 w _, Box4.one w _ _ _ _ T⟩
theorem G4.z {w0 W : World} {d p : Int} {v : Value} {k : Int} (h : G4 w0 d p v k W) : w0.heap.size + 1 ≤ W.heap.size := h.x.lt
theorem G4.next {w0 W W' : World} {d p : Int} {v : Value} {k : Int} (h : G4 w0 d p v k W) (hb : Below W.heap.size W W') : G4 w0 d p v k W' := ⟨h.b.trans (hb.mono (by have := h.z; omega)), h.x.next hb⟩
theorem G4.drew {w0 W : World} {d p : Int} {v : Value} {k : Int} (h : G4 w0 d p v k W) : G4 w0 d p v k W.drew := ⟨h.b.drew, h.x.next (Below.refl _ W).drew⟩
end Go.Proofs.YtllojcndhkpfmaaDoor
