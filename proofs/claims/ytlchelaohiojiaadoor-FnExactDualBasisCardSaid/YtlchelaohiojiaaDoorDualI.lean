/- DualBasis: the program's where there is one. -/
import Derived.Test.YtlchelaohiojiaaDoorDualM
import Derived.Test.YtlchelaohiojiaaDoorOnes
import Derived.Test.YtlchelaohiojiaaDoorTz64
import Derived.Test.YtlchelaohiojiaaDoorQuo
import Derived.OwnWalkIn
import Derived.Stop.RegionWithIn
import Derived.Shelf.RegionOpen
namespace Go.Proofs.YtlchelaohiojiaaDoor
open Go.RowKit Go.Shelf Go.Joins
attribute [local go_sem] Oper.semAt_some
set_option linter.unusedVariables false

/-- What is known of a dual basis when some elements have come. -/
def duk (P m n : Nat) (q : List Nat) (pre : List (El n)) (j : Nat) : Nat := if dul P m n q j ∈ pre.map (·.1) then dul P m n q j else 0
theorem duk_nil (P m n : Nat) (q : List Nat) (j : Nat) : duk P m n q [] j = 0 := by simp [duk]
theorem duk_all {m P n : Nat} (hF : Fld m P n) {q : List Nat} (hB : Bas m q) (hq : ∀ j, nth q j < n) {j : Nat} (hj : j < m) : duk P m n q (elems n n) j = dul P m n q j := by
  have h := (dul_spec hF hB hq hj).1
  unfold duk
  exact if_pos (List.mem_map.2 ⟨(⟨dul P m n q j, h⟩ : El n), elems_mem n (Nat.le_refl _) ⟨dul P m n q j, h⟩ h, rfl⟩)
/-- The element y is none of the dual basis. -/
theorem duk_skip {m P n : Nat} (hF : Fld m P n) {q : List Nat} (hB : Bas m q) (hq : ∀ j, nth q j < n) (pre : List (El n)) (y : El n) (h : ones5 (trm P m q y.1 m) ≠ 1) {j : Nat} (hj : j < m) : duk P m n q (pre ++ [y]) j = duk P m n q pre j := by
  have hne : dul P m n q j ≠ y.1 := fun e => h (by
    have hm5 := hF.m5
    have e2 := (dul_iff hF hB hq hj y.2).2 e.symm
    have hlt : trm P m q y.1 m < 32 := by
      have := trm_lt hF hq y.2 m
      have h32 := hF.n32
      rw [hF.n] at this; omega
    exact (ones5_one ⟨trm P m q y.1 m, hlt⟩).2 ⟨⟨j, by omega⟩, e2⟩)
  simp [duk, hne]
/-- The element y is the number i of the dual basis. -/
theorem duk_put {m P n : Nat} (hF : Fld m P n) {q : List Nat} (hB : Bas m q) (hq : ∀ j, nth q j < n) (pre : List (El n)) (y : El n) {i : Nat} (hi : i < m) (h : trm P m q y.1 m = 2 ^ i) {j : Nat} (hj : j < m) : duk P m n q (pre ++ [y]) j = if j = i then y.1 else duk P m n q pre j := by
  have e1 := (dul_iff hF hB hq hi y.2).1 h
  by_cases e : j = i
  · subst e
    simp [duk, ← e1]
  · rw [if_neg e]
    have hne : dul P m n q j ≠ y.1 := fun e2 => e (by
      have e3 := (dul_iff hF hB hq hj y.2).2 e2.symm
      rw [h] at e3
      rcases Nat.lt_trichotomy i j with k | k | k
      · have := Nat.pow_lt_pow_right (a := 2) (by omega) k; omega
      · exact k.symm
      · have := Nat.pow_lt_pow_right (a := 2) (by omega) k; omega)
    simp [duk, hne]
/-- A number of one bit: which. -/
theorem ones_bit {m P n : Nat} (hF : Fld m P n) {q : List Nat} (hq : ∀ j, nth q j < n) {y : Nat} (hy : y < n) (h : ones5 (trm P m q y m) = 1) : ∃ i, i < m ∧ trm P m q y m = 2 ^ i := by
  have hl := trm_lt hF hq hy m
  have h32 := hF.n32
  have hlt : trm P m q y m < 32 := by have := hl; rw [hF.n] at this; omega
  obtain ⟨i, hi⟩ := (ones5_one ⟨trm P m q y m, hlt⟩).1 h
  refine ⟨i.val, ?_, hi⟩
  rw [show trm P m q y m = 2 ^ i.val from hi] at hl
  exact (Nat.pow_lt_pow_iff_right (by omega : 1 < 2)).1 hl

theorem made_listD (K : IntKind) (n : Nat) : (madeCells (Value.int K 0).cells (n * 1)).toList = List.replicate n (Value.int K 0) := by
  apply List.ext_getElem?
  intro j
  by_cases h : j < n
  · rw [made_get K n j h, List.getElem?_replicate, if_pos h]
  · rw [List.getElem?_eq_none (by rw [Array.length_toList, size_madeCells]; omega), List.getElem?_eq_none (by rw [List.length_replicate]; omega)]
/-- The block of a row that has just been made. -/

theorem wpListIn_make_full' {F : Fence} {n : Nat} {P : Program} (w : World) {ops : Array Oper} {rest : List Oper} {o : Oper} {a : Act} {Q : Exit → Act → World → Prop} (hg : o.guard = none) (l : Operand) (t : TypeId) (hop : o.op = Op.makeSlice t l l)
    (e : TypeId) (i : TypeInfo) (z : Value) (size : Nat) (h1 : P.underlying t = some (.slice e)) (h2 : P.info? e = some i) (h3 : i.zero = some z) (h4 : i.size = size) (k : IntKind) (c : Nat) (hl : a.eval l = .int k (c : Nat)) (b2 : i.bytes * c ≤ 281474976710656) (b3 : c ≤ maxLen)
    (hK : ∀ w', w'.ownsRow w.heap.size e size (.slice (some ⟨w.heap.size, 0, none⟩) c c) c (madeCells z.cells (c * size)).toList → w.grownBy w' none → wpListIn F n P ops Q rest (a.put o.dst (.slice (some ⟨w.heap.size, 0, none⟩) c c)) w') : wpListIn F n P ops Q (o :: rest) a w := by
  refine wpListIn_plain hg fun K hK' => ?_
  obtain ⟨w', hrun, r1, r2⟩ := run_make_full (P := P) w w.heap.size t e i z size h1 h2 h3 h4 k k c b2 b3 (Nat.le_refl _)
  unfold Oper.wpIn
  refine ⟨by simp [Oper.about, hop], ?_⟩
  rw [Oper.semAt_plain F _ _ (by rw [hop]; intro c hc'; cases hc')]
  simp only [execOp, hop, hl]
  simp [hrun, Result.andThen]
  exact hK' _ _ (hK w' r1 r2)

set_option maxRecDepth 100000 in
set_option maxHeartbeats 4000000 in
theorem implDual_C (m P n : Nat) (hF : Fld m P n) (b len cap : Nat) (zs : List Int) (w : World) (hM : Mt w b len zs) (hi : allIn n zs = true) (hs : basB m (nats zs) = true) (hT : Tab64 w) :
    CallsIn Fence.wide 9 Tryd.prog 12 #[.agg #[.int .i64 m, .int .i64 P], .slice (some ⟨b, 0, none⟩) len cap] w fun e w' => ∃ v, e = .returned (.tuple #[v, .int .i64 0]) ∧ Below w.heap.size w w' ∧ Res w' w.heap.size w'.heap.size v (ints (dus P m n (nats zs) m)) := by
  obtain ⟨i0, hinf, hz0, hz1, hz2⟩ := info_parts Tryd.infoI
  have hm5 := hF.m5
  have h32 := hF.n32
  have hn2 := hF.n2
  have hsm := hM.small
  have HM := Lib.hid hM
  obtain rfl : len = m := by have := hM.len; have h2 := (basB_bas hs).len; rw [nats_length] at h2; omega
  have HB0 := Lib.hid (below_alloc2 w (.cells #[.int .i64 len, .int .i64 P] 25) (.cells #[.slice (some ⟨b, 0, none⟩) len cap] 28))
  have HI := Lib.hid hi
  have HR := Lib.hid (hM.rl hi)
  have HC := Lib.hid (fun c w hC hR => coordinates_any c len P _ hF (some ⟨b, 0, none⟩) len cap (nats zs) (nats_lt hi (by have := hF.n2; omega)) hsm w hC hR)
  rw [hs] at HC
  have HX := Lib.hid (nats_lt hi (by have := hF.n2; omega))
  have HBas := Lib.hid (basB_bas hs)
  have hk0 : ((w.alloc (.cells #[.int .i64 len, .int .i64 P] 25)).alloc (.cells #[.slice (some ⟨b, 0, none⟩) len cap] 28)).cell? ⟨w.heap.size + 1, 0, none⟩ = some (.slice (some ⟨b, 0, none⟩) len cap) := by simp [World.cell?_alloc_at]
  have hlt0 : w.heap.size + 1 < ((w.alloc (.cells #[.int .i64 len, .int .i64 P] 25)).alloc (.cells #[.slice (some ⟨b, 0, none⟩) len cap] 28)).heap.size := by simp
  have HK0 := Lib.hid hk0
  have HL0 := Lib.hid hlt0
  have HT := Lib.hid hT
  clear hi hM hs hk0 hlt0 hT
  refine callsIn_of_wp_marks Tryd.func12 rfl trivial ?_ rfl
  simp only [Tryd.ntmps12, List.size_toArray, List.length_cons, List.length_nil, Nat.reduceAdd, Nat.reduceSub, Array.replicate_succ, Array.replicate_zero, List.push_toArray, List.append_toArray, List.nil_append, List.cons_append]
  gi_wp2_with fail
  refine ⟨trivial, ?_⟩
  refine (callsIn_wide.2 (calculatorFor_C len P _ hF _ _ len cap zs (HM.out.below HB0.out).arg (by omega) HI.out)).mono ?_
  rintro e w1 ⟨c, rfl, hb, hC, hc⟩
  have HB1 := Lib.hid (HB0.out.trans (hb.mono HB0.out.size))
  have hz := HB1.out.size
  have hk1 : w1.cell? ⟨w.heap.size + 1, 0, none⟩ = some (.slice (some ⟨b, 0, none⟩) len cap) := (hb.cell (p := ⟨w.heap.size + 1, 0, none⟩) HL0.out).trans HK0.out
  have hlt1 : w.heap.size + 1 < w1.heap.size := Nat.lt_of_lt_of_le HL0.out hb.size
  have HC1 := Lib.hid hC
  clear hb hC hc
  gi_wp2_with fail
  have hba := below_alloc1 w1 (.cells #[.pointer (some ⟨c, 0, none⟩)] 64)
  refine ⟨trivial, ?_⟩
  refine (callsIn_wide.2 (HC.out c _ (HC1.out.below HC1.out.lt hba) (HR.out.below (HB1.out.trans (hba.mono HB1.out.size))))).mono ?_
  rintro e w2 ⟨f, rfl, hb, _⟩
  have hb12 : Below w1.heap.size w1 w2 := hba.trans (hb.mono (by simp))
  have HB2 := Lib.hid (HB1.out.trans (hb12.mono HB1.out.size))
  have hzz := HB2.out.size
  have hk2 : w2.cell? ⟨w.heap.size + 1, 0, none⟩ = some (.slice (some ⟨b, 0, none⟩) len cap) := (hb12.cell (p := ⟨w.heap.size + 1, 0, none⟩) hlt1).trans hk1
  have hp2 : w2.cell? ⟨w1.heap.size, 0, none⟩ = some (.pointer (some ⟨c, 0, none⟩)) := (hb.cell (p := ⟨w1.heap.size, 0, none⟩) (by simp)).trans (cell_new_l w1 (.pointer (some ⟨c, 0, none⟩)) 64).1
  have hs12 : w1.heap.size + 1 ≤ w2.heap.size := by have := hb.size; simpa using this
  have HC2 := Lib.hid (HC1.out.below HC1.out.lt hb12)
  clear hb hba hb12 hk1
  obtain ⟨W3, hst, hA3, hB3⟩ := arr_put w2 f
  have hst' : Sem.run Tryd.prog (storeCells ⟨w2.heap.size, 0, none⟩ (arrC f).toList) (w2.alloc (.cells #[.int .i64 0, .int .i64 0, .int .i64 0, .int .i64 0, .int .i64 0, .int .i64 0, .int .i64 0, .int .i64 0, .int .i64 0, .int .i64 0, .int .i64 0, .int .i64 0, .int .i64 0, .int .i64 0, .int .i64 0, .int .i64 0, .int .i64 0, .int .i64 0, .int .i64 0, .int .i64 0, .int .i64 0, .int .i64 0, .int .i64 0, .int .i64 0, .int .i64 0, .int .i64 0, .int .i64 0, .int .i64 0, .int .i64 0, .int .i64 0, .int .i64 0, .int .i64 0] 67)) = .ok () W3 := hst
  have hk3 := (hB3.cell (p := ⟨w.heap.size + 1, 0, none⟩) (by show w.heap.size + 1 < w2.heap.size; omega)).trans hk2
  have hp3 := (hB3.cell (p := ⟨w1.heap.size, 0, none⟩) (by show w1.heap.size < w2.heap.size; omega)).trans hp2
  have HB3 := Lib.hid (HB2.out.trans (hB3.mono HB2.out.size))
  have HC3 := Lib.hid (HC2.out.below HC2.out.lt hB3)
  have hs3 := hB3.size
  clear hst hk2 hp2 hB3 hA3
  gi_wp2_with (gi_at_make; refine wpListIn_make_full' _ rfl _ 28 rfl 2 i0 (.int .i64 0) 1 Tryd.underlying28 hinf hz0 hz1 .i64 len rfl (by rw [hz2]; omega) (by unfold maxLen; omega) ?_; intro W4 hO4 hg4; have hb4 : Below W3.heap.size W3 W4 := ⟨hg4.os, hg4.tape, hg4.output, hg4.size, fun k hk => hg4.block k hk (by simp)⟩; have hp4 : (W4.alloc (.cells #[.slice (some ⟨W3.heap.size, 0, none⟩) len len] 28)).cell? ⟨w1.heap.size, 0, none⟩ = some (.pointer (some ⟨c, 0, none⟩)) := cell_alloc_l _ ((hb4.cell (p := ⟨w1.heap.size, 0, none⟩) (by show w1.heap.size < W3.heap.size; omega)).trans hp3); have HO4 := Lib.hid hO4; have HB4 := Lib.hid hb4; have hs4 := hg4.size; clear hO4 hg4 hb4)
  refine ⟨trivial, ?_⟩
  refine (callsIn_wide.2 (elements_any (.pointer (some ⟨c, 0, none⟩)) _ c rfl)).mono ?_
  rintro e w' ⟨rfl, rfl⟩
  have hz5 : ((W4.alloc (.cells #[.slice (some ⟨W3.heap.size, 0, none⟩) len len] 28)).alloc (.cells #[.pointer (some ⟨c, 0, none⟩)] 64)).heap.size = W4.heap.size + 2 := by simp
  have hb5 : Below W4.heap.size W4 ((W4.alloc (.cells #[.slice (some ⟨W3.heap.size, 0, none⟩) len len] 28)).alloc (.cells #[.pointer (some ⟨c, 0, none⟩)] 64)) := below_alloc2 W4 _ _
  have hbox : ((W4.alloc (.cells #[.slice (some ⟨W3.heap.size, 0, none⟩) len len] 28)).alloc (.cells #[.pointer (some ⟨c, 0, none⟩)] 64)).cell? ⟨W4.heap.size, 0, none⟩ = some (.slice (some ⟨W3.heap.size, 0, none⟩) len len) := cell_alloc_l _ (cell_new_l W4 _ _).1
  have hel := (cell_new_l (W4.alloc (.cells #[.slice (some ⟨W3.heap.size, 0, none⟩) len len] 28)) (.pointer (some ⟨c, 0, none⟩)) 64).1
  rw [World.size_alloc] at hel
  have hrow : ∀ j, j < len → ((W4.alloc (.cells #[.slice (some ⟨W3.heap.size, 0, none⟩) len len] 28)).alloc (.cells #[.pointer (some ⟨c, 0, none⟩)] 64)).cell? ⟨W3.heap.size, j, none⟩ = some (.int .i64 0) ∧ ((W4.alloc (.cells #[.slice (some ⟨W3.heap.size, 0, none⟩) len len] 28)).alloc (.cells #[.pointer (some ⟨c, 0, none⟩)] 64)).frozen? ⟨W3.heap.size, j, none⟩ = false := fun j hj => by
    have h1 := HO4.out.cellAt j (by omega)
    have h2 := (HO4.out.lt W3.heap.size rfl).2
    refine ⟨(hb5.cell (p := ⟨W3.heap.size, j, none⟩) h2).trans (h1.trans ?_), (hb5.frozen (p := ⟨W3.heap.size, j, none⟩) h2).trans (HO4.out.frozenAt j)⟩
    rw [made_listD]
    rw [List.getElem?_replicate, if_pos hj]
  have hb35 : Below W3.heap.size W3 ((W4.alloc (.cells #[.slice (some ⟨W3.heap.size, 0, none⟩) len len] 28)).alloc (.cells #[.pointer (some ⟨c, 0, none⟩)] 64)) := HB4.out.trans (hb5.mono HB4.out.size)
  gi_wp2_with fail
  generalize ((W4.alloc (.cells #[.slice (some ⟨W3.heap.size, 0, none⟩) len len] 28)).alloc (.cells #[.pointer (some ⟨c, 0, none⟩)] 64)) = W5 at hz5 hb5 hbox hel hrow hb35 ⊢
  have hcd := HC3.out.deg
  have hclt := HC3.out.lt
  refine wpIn_rangeFunc_ownG (α := El n) rfl (by omega) (gf := 78) (lb := #[.pointer (some ⟨W4.heap.size + 1, 0, none⟩)]) rfl trivial (enters_of Tryd.func78 (by kernel_rfl) rfl)
    (elements_stops len P n hF (W4.heap.size + 1) c W5 hel (by omega) ((hb35.cell (p := ⟨c, 0, none⟩) hclt).trans hcd) (by have := hb35.size; omega)) (fun _ _ => trivial) (fun _ _ _ _ _ _ _ _ => trivial) (Below.refl _ _) (fun _ => rfl)
    (fun pre V => ((∀ j, j < len → V.cell? ⟨W3.heap.size, j, none⟩ = some (.int .i64 (duk P len n (nats zs) pre j : Nat)) ∧ V.frozen? ⟨W3.heap.size, j, none⟩ = false) ∧ V.cell? ⟨W4.heap.size, 0, none⟩ = some (.slice (some ⟨W3.heap.size, 0, none⟩) len len)) ∧ Below W3.heap.size W3 V)
    (fun _ _ _ => False)
    (OwnFrom.and (Own.from (fun s A B row hs hg hr => ⟨fun j hj => ⟨cell_kept (hs.1 j hj).1 hg hr, (frozen_kept (hs.1 j hj).1 hg hr).trans (hs.1 j hj).2⟩, cell_kept hs.2 hg hr⟩) _) (ownFrom_below (Nat.le_refl _) hb35.size))
    (fun _ _ _ _ _ hs _ _ => hs)
    ⟨⟨fun j hj => by rw [duk_nil]; exact hrow j hj, hbox⟩, hb35⟩
    (fun x => { tmps := #[.agg #[.int .i64 len, .int .i64 P], .slice (some ⟨b, 0, none⟩) len cap, .pointer (some ⟨w.heap.size, 0, none⟩), .pointer (some ⟨w.heap.size + 1, 0, none⟩), .slice none 0 0, .int .i64 0, .pointer (some ⟨w1.heap.size, 0, none⟩), .int .i64 0, .pointer (some ⟨w2.heap.size, 0, none⟩), .bool true, .pointer (some ⟨W4.heap.size, 0, none⟩), .int .u8 x.1, undef, .tuple #[.pointer (some ⟨c, 0, none⟩), .int .i64 0], .agg #[.int .i64 len, .int .i64 P], .slice (some ⟨b, 0, none⟩) len cap, .tuple #[.pointer (some ⟨c, 0, none⟩), .int .i64 0], .pointer (some ⟨c, 0, none⟩), .int .i64 0, .int .i64 0, .bool false, undef, .tuple #[.agg (arrC f), .bool true], .pointer (some ⟨c, 0, none⟩), .slice (some ⟨b, 0, none⟩) len cap, .tuple #[.agg (arrC f), .bool true], .agg (arrC f), .bool true, .bool true, .bool false, .slice (some ⟨b, 0, none⟩) len cap, .int .i64 len, .slice (some ⟨W3.heap.size, 0, none⟩) len len, .pointer (some ⟨c, 0, none⟩), .func (.func 78) #[] #[.pointer (some ⟨W4.heap.size + 1, 0, none⟩)], .int .u8 x.1, undef, undef, undef, undef, undef, undef, undef, undef, undef, undef, undef, undef, undef, undef], defers := [] }) ?assign ?body ?done ?stop
  case assign =>
    intro l x W K hK
    gi_wp2
    exact hK
  case body =>
    rintro l pre x V ⟨⟨hrowV, hboxV⟩, hB⟩ hlt2
    have hxn := x.2
    have hcp := (hB.cell (p := ⟨w1.heap.size, 0, none⟩) (by show w1.heap.size < W3.heap.size; omega)).trans hp3
    have hbp := (hB.cell (p := ⟨w.heap.size + 1, 0, none⟩) (by show w.heap.size + 1 < W3.heap.size; omega)).trans hk3
    have HBV := Lib.hid hB
    have HTR := Lib.hid (tracesWith_any c len P n hF (some ⟨b, 0, none⟩) len cap (nats zs) HX.out (by omega) x.1 hxn V (HC3.out.below hclt hB) (HR.out.below (HB3.out.trans (hB.mono HB3.out.size))))
    have hvlt : trm P len (nats zs) x.1 len < 32 := by have := trm_lt hF HX.out hxn len; rw [hF.n] at this; omega
    have HSK := Lib.hid (fun (h : ones5 (trm P len (nats zs) x.1 len) ≠ 1) j (hj : j < len) => duk_skip hF HBas.out HX.out pre x h hj)
    have HPU := Lib.hid (fun i (hi : i < len) (h : trm P len (nats zs) x.1 len = 2 ^ i) j (hj : j < len) => duk_put hF HBas.out HX.out pre x hi h hj)
    have HBI := Lib.hid (fun (h : ones5 (trm P len (nats zs) x.1 len) = 1) => ones_bit hF HX.out hxn h)
    have HRV := Lib.hid hrowV
    clear hB hrowV
    generalize trm P len (nats zs) x.1 len = v at HTR hvlt HSK HPU HBI
    have HON := Lib.hid (fun W => onesCount_any v hvlt W)
    by_cases h1 : ones5 v = 1
    · obtain ⟨i, hi, hvi⟩ := HBI.out h1
      have HTZ := Lib.hid (fun (W : World) (hT : Tab64 W) => show Calls Tryd.prog 46 #[.int .u64 (v : Nat)] W fun e w' => e = .returned (.int .i64 (i : Nat)) ∧ w' = W by rw [hvi]; exact tz64_any i (by omega) W hT)
      have HP1 := Lib.hid (HPU.out i hi hvi)
      obtain ⟨r0, r1⟩ := HRV.out i hi
      have HTV := Lib.hid (HT.out.below (HB3.out.trans (HBV.out.mono HB3.out.size)))
      rw [h1] at HON
      clear h1 hvi HSK HPU HBI
      gi_wp2_with (first | (refine ⟨trivial, ?_⟩; gi_at_call 44; refine (CallsIn.inRound l (callsIn_wide.2 HTR.out)).mono ?_; rintro e w' ⟨rfl, rfl⟩) | (refine ⟨trivial, ?_⟩; gi_at_call 45; refine (CallsIn.inRound l (callsIn_wide.2 (HON.out _))).mono ?_; rintro e w' ⟨rfl, rfl⟩))
      have hmo : Tryd.prog.follows .mixedOrders = true := by kernel_rfl
      have HTD : Hid (Tab64 V.drew) := Lib.hid HTV.out
      gi_region_with_o (first | (refine ⟨trivial, ?_⟩; gi_at_call 46; refine (CallsIn.inRound l (callsIn_wide.2 (HTZ.out _ HTD.out))).mono ?_; rintro e w' ⟨rfl, rfl⟩) | (gi_at_call 46; refine (CallsIn.inRound l (callsIn_wide.2 (HTZ.out _ HTD.out))).mono ?_; rintro e w' ⟨rfl, rfl⟩))
      all_goals gi_wp2
      all_goals
        have hwr : IntKind.i64.wrap (x.1 : Int) = x.1 := wrapNat x.1 (by omega)
        have hk := KeepsOthers.setCell V ⟨W3.heap.size, i, none⟩ (.int .i64 (IntKind.i64.wrap (x.1 : Int)))
        have h34 := (HO4.out.lt W3.heap.size rfl).2
        refine ⟨(⟨hk.size, hk.same⟩ : KeepsOthers V (V.setCell ⟨W3.heap.size, i, none⟩ (.int .i64 (IntKind.i64.wrap (x.1 : Int)))).drew).from _, trivial, ⟨fun j hj => ⟨?_, ?_⟩, ?_⟩, (HBV.out.setCell (p := ⟨W3.heap.size, i, none⟩) (Nat.le_refl _) _).drew⟩
        · show (V.setCell ⟨W3.heap.size, i, none⟩ (.int .i64 (IntKind.i64.wrap (x.1 : Int)))).cell? ⟨W3.heap.size, j, none⟩ = _
          rw [HP1.out j hj, hwr]
          by_cases e : j = i
          · subst e
            rw [if_pos rfl]
            exact World.cell?_setCell_same' _ _ _ (by rw [r0]; rfl)
          · rw [if_neg e, World.cell?_setCell_other _ ⟨W3.heap.size, i, none⟩ ⟨W3.heap.size, j, none⟩ _ (fun h => e (by injection h with _ h _; omega))]
            exact (HRV.out j hj).1
        · show (V.setCell ⟨W3.heap.size, i, none⟩ (.int .i64 (IntKind.i64.wrap (x.1 : Int)))).frozen? ⟨W3.heap.size, j, none⟩ = _
          rw [World.frozen?_setCell]
          exact (HRV.out j hj).2
        · show (V.setCell ⟨W3.heap.size, i, none⟩ (.int .i64 (IntKind.i64.wrap (x.1 : Int)))).cell? ⟨W4.heap.size, 0, none⟩ = _
          rw [World.cell?_setCell_other _ ⟨W3.heap.size, i, none⟩ ⟨W4.heap.size, 0, none⟩ _ (fun h => by injection h with h _ _; omega)]
          exact hboxV
    · have h1i : ((ones5 v : Int) == 1) = false := by simp; omega
      have HS1 := Lib.hid (HSK.out h1)
      gi_wp2_with (first | (refine ⟨trivial, ?_⟩; gi_at_call 44; refine (CallsIn.inRound l (callsIn_wide.2 HTR.out)).mono ?_; rintro e w' ⟨rfl, rfl⟩) | (refine ⟨trivial, ?_⟩; gi_at_call 45; refine (CallsIn.inRound l (callsIn_wide.2 (HON.out _))).mono ?_; rintro e w' ⟨rfl, rfl⟩))
      exact ⟨KeepsFrom.refl _ _, trivial, ⟨fun j hj => by rw [HS1.out j hj]; exact HRV.out j hj, hboxV⟩, HBV.out⟩
  case done =>
    rintro D ys V hD rfl ⟨⟨hrowV, hboxV⟩, hB⟩ hK
    have HBV := Lib.hid hB
    have HRV := Lib.hid hrowV
    clear hB hrowV
    gi_wp2
    refine ⟨by simp, .inl ⟨_, _, rfl, run_takeDeferred hK, ?_⟩⟩
    have hDW : W5.heap.size ≤ D := hD
    have hb9 := HBV.out.trans (belowK_b (w := W5) hb35.size V D _ (.deferred none) hD hK rfl rfl)
    have h34 := (HO4.out.lt W3.heap.size rfl).2
    refine ⟨_, results_tmp2 rfl _ _ _, .slice (some ⟨W3.heap.size, 0, none⟩) len len, rfl, HB3.out.trans (hb9.mono HB3.out.size), ?_⟩
    have hh : (V.putObj D (.deferred none)).heap[W3.heap.size]? = V.heap[W3.heap.size]? := World.putObj_heap_other (by omega)
    have hz9 := hb9.size
    have hz5' := HBV.out.size
    have hsz9 : (V.putObj D (.deferred none)).heap.size = V.heap.size := World.putObj_size
    have hVD := (Array.getElem?_eq_some_iff.1 hK).1
    refine .row W3.heap.size len len _ (by omega) (by omega) (Nat.le_refl _) (by rw [ints_length, dus_len]) (by omega) (fun j hj => ?_) (fun j hj => ?_)
    · rw [World.cell?_of_block (w := V) (a := ⟨W3.heap.size, j, none⟩) hh, (HRV.out j hj).1, duk_all hF HBas.out HX.out hj]
      simp [ints, dus, hj]
    · exact (World.frozen?_of_block (w := V) (a := ⟨W3.heap.size, j, none⟩) hh).trans (HRV.out j hj).2
  case stop =>
    rintro D cc pre V hD _ h
    exact h.elim

theorem fDual_C {m P n : Nat} (hF : Fld m P n) {zs : List Int} (hi : allIn n zs = true) (hs : basB m (nats zs) = true) : fDualBasis m P zs = (ints (dus P m n (nats zs) m), 0) := by
  rw [fDualBasis, if_neg (by rw [fldI_of hF.f]; simp), if_neg (by rw [Int.toNat_natCast, hF.n, hi]; simp), if_neg (by rw [Int.toNat_natCast, hs]; simp), Int.toNat_natCast, Int.toNat_natCast, hF.n]
  rfl
theorem fDual_yes {d p : Int} {zs : List Int} (h : (fDualBasis d p zs).2 = 0) : ∃ m P n : Nat, d = m ∧ p = P ∧ Fld m P n ∧ allIn n zs = true ∧ basB m (nats zs) = true := by
  unfold fDualBasis at h
  cases hf : fldI d p with
  | false => rw [if_pos hf] at h; cases h
  | true =>
    obtain ⟨m, P, rfl, rfl, hF⟩ := fldI_nat hf
    rw [if_neg (by rw [hf]; simp)] at h
    rw [Int.toNat_natCast] at h
    cases hi : allIn (2 ^ m) zs with
    | false => rw [if_pos hi] at h; cases h
    | true =>
      rw [if_neg (by rw [hi]; simp)] at h
      cases hs : basB m (nats zs) with
      | false => rw [if_pos hs] at h; cases h
      | true => exact ⟨m, P, 2 ^ m, rfl, rfl, Fld.of hF, hi, hs⟩
theorem fDual_no {d p : Int} {zs : List Int} (h : (fDualBasis d p zs).2 ≠ 0) : (fDualBasis d p zs).1 = [] := by
  unfold fDualBasis at h ⊢
  split
  · rfl
  · rename_i h1
    rw [if_neg h1] at h
    split
    · rfl
    · rename_i h2
      rw [if_neg h2] at h
      split
      · rfl
      · rename_i h3
        rw [if_neg h3] at h
        exact absurd rfl h

theorem specDualBasis_any (d p : Int) (b len cap : Nat) (zs : List Int) (w : World) (hM : Mt w b len zs) :
    Calls Tryd.prog 22 #[.agg #[.int .i64 d, .int .i64 p], .slice (some ⟨b, 0, none⟩) len cap] w fun e w' => ∃ v, e = .returned (.tuple #[v, .int .i64 (fDualBasis d p zs).2]) ∧ Below w.heap.size w w' ∧ Res w' w.heap.size w'.heap.size v (fDualBasis d p zs).1 := by
  by_cases h : (fDualBasis d p zs).2 = 0
  · obtain ⟨m, P, n, rfl, rfl, hF, hi, hs⟩ := fDual_yes h
    rw [fDual_C hF hi hs]
    exact specDual_C m P n hF b len cap zs w hM hi hs
  · rw [fDual_no h]
    exact specDual_no d p b len cap zs w hM _ rfl h
theorem implDualBasis_any (d p : Int) (b len cap : Nat) (zs : List Int) (w : World) (hl : -9223372036854775808 ≤ p) (hh : p ≤ 9223372036854775807) (hM : Mt w b len zs) (hT : Tab64 w) :
    Calls Tryd.prog 12 #[.agg #[.int .i64 d, .int .i64 p], .slice (some ⟨b, 0, none⟩) len cap] w fun e w' => ∃ v, e = .returned (.tuple #[v, .int .i64 (fDualBasis d p zs).2]) ∧ Below w.heap.size w w' ∧ Res w' w.heap.size w'.heap.size v (fDualBasis d p zs).1 := by
  by_cases h : (fDualBasis d p zs).2 = 0
  · obtain ⟨m, P, n, rfl, rfl, hF, hi, hs⟩ := fDual_yes h
    rw [fDual_C hF hi hs]
    exact (callsIn_wide (n := 9)).1 (implDual_C m P n hF b len cap zs w hM hi hs hT)
  · rw [fDual_no h]
    exact implDual_no d p hl hh b len cap zs w hM _ rfl h
end Go.Proofs.YtlchelaohiojiaaDoor
