/- The program's irreducible polynomials: what its function returns. -/
import Derived.Test.YtejpjcdnhboooaaDoorIter
import Derived.Test.YtejpjcdnhboooaaDoorSpecIrr
import Derived.RangeFuncFrom
namespace Go.Proofs.YtejpjcdnhboooaaDoor
open Go.RowKit Go.Shelf
attribute [local go_sem] Oper.semAt_some
set_option linter.unusedVariables false

theorem noDiv_iff (p : Nat) : ∀ q, noDiv p q = true ↔ ∀ d, 2 ≤ d → d < q → prest p d ≠ 0 := by
  intro q
  induction q with
  | zero => simp [noDiv]
  | succ q ih =>
    simp only [noDiv, Bool.and_eq_true, ih, Bool.or_eq_true, decide_eq_true_eq, bne_iff_ne]
    constructor
    · rintro ⟨h1, h2⟩ d hd hq
      by_cases e : d = q
      · subst e; exact h2.resolve_left (by omega)
      · exact h1 d hd (by omega)
    · intro h
      refine ⟨fun d hd hq => h d hd (by omega), ?_⟩
      by_cases h2 : q < 2
      · exact .inl h2
      · exact .inr (h q (by omega) (by omega))
theorem noDiv_yes {p q : Nat} (h : ∀ d, 2 ≤ d → d < q → prest p d ≠ 0) : noDiv p q = true := (noDiv_iff p q).2 h
theorem noDiv_no {p q d : Nat} (hd : 2 ≤ d) (hq : d < q) (h : prest p d = 0) : noDiv p q = false := by
  cases e : noDiv p q with
  | false => rfl
  | true => exact absurd h ((noDiv_iff p q).1 e d hd hq)
theorem irr_d1 : ∀ p : Fin 64, nb p.val = 2 → irr p.val = true := by decide +kernel
theorem irr_d2 : ∀ p : Fin 64, nb p.val = 3 → irr p.val = noDiv p.val 4 := by decide +kernel
theorem irr_d3 : ∀ p : Fin 64, nb p.val = 4 → irr p.val = noDiv p.val 4 := by decide +kernel
theorem irr_d4 : ∀ p : Fin 64, nb p.val = 5 → irr p.val = noDiv p.val 8 := by decide +kernel
theorem irr_d5 : ∀ p : Fin 64, nb p.val = 6 → irr p.val = noDiv p.val 8 := by decide +kernel
theorem cell_of_box {W : World} {B : Nat} {v : Value} {t : TypeId} (h : W.heap[B]? = some (.cells #[v] t (0, 0))) : W.cell? ⟨B, 0, none⟩ = some v ∧ W.frozen? ⟨B, 0, none⟩ = false := by
  constructor <;> simp [World.cell?, World.frozen?, h]
theorem cell_new_l (W : World) (v : Value) (t : TypeId) : (W.alloc (.cells #[v] t)).cell? ⟨W.heap.size, 0, none⟩ = some v ∧ (W.alloc (.cells #[v] t)).frozen? ⟨W.heap.size, 0, none⟩ = false :=
  cell_of_box (World.alloc_heap_new W _)
theorem cell_alloc_l {W : World} {a : Addr} {v : Value} (o : Obj) (h : W.cell? a = some v) : (W.alloc o).cell? a = some v := cell_kept h (World.grownBy_alloc W o none) (fun r e => by cases e)
theorem frozen_alloc_l {W : World} {a : Addr} {v : Value} (o : Obj) (h : W.cell? a = some v) (hf : W.frozen? a = false) : (W.alloc o).frozen? a = false := (frozen_kept h (World.grownBy_alloc W o none) (fun r e => by cases e)).trans hf
theorem ownFrom_heap {β : Type} {B D : Nat} {o : Obj} (h : D < B) : OwnFrom B (fun (_ : β) (W : World) => W.heap[D]? = some o) := by
  intro s W W' row hs hg hr
  refine (hg.block D (Array.getElem?_eq_some_iff.1 hs).1 ?_).trans hs
  intro e
  have := (hr D e.symm).1
  omega

set_option maxRecDepth 100000 in
set_option maxHeartbeats 2000000 in
theorem isIrreducible_1 (p : Nat) (hp : p < 64) (hd : nb p = 2) (w : World) :
    CallsIn Fence.wide 9 Tryd.prog 70 #[.int .i64 p] w fun e W' => e = .returned (.bool true) ∧ Below w.heap.size w W' := by
  refine callsIn_of_wp_marks Tryd.func70 rfl trivial ?_ rfl
  simp only [Tryd.ntmps70, List.size_toArray, List.length_cons, List.length_nil, Nat.reduceAdd, Nat.reduceSub, Array.replicate_succ, Array.replicate_zero, List.push_toArray, List.append_toArray, List.nil_append, List.cons_append]
  gi_wp2_with (refine ⟨trivial, ?_⟩; gi_at_call 71; refine (callsIn_wide.2 (polyDegree_nat _ (by omega) _)).mono ?_; rintro e w' ⟨rfl, rfl⟩)
  refine wpIn_loop_rounds 1 ?_
  rw [roundsIn_succ]
  gi_wp2
  refine ⟨.bool true, ?_, rfl, ((Below.refl _ w).alloc (Nat.le_refl _) _).alloc (by simp) _⟩
  simp [results, Tryd.f70, go_sem]

set_option maxRecDepth 100000 in
set_option maxHeartbeats 4000000 in
theorem isIrreducible_2 (p : Nat) (hp : p < 64) (hd : nb p = 3) (w : World) :
    CallsIn Fence.wide 9 Tryd.prog 70 #[.int .i64 p] w fun e W' => e = .returned (.bool (noDiv p 4)) ∧ Below w.heap.size w W' := by
  refine callsIn_of_wp_marks Tryd.func70 rfl trivial ?_ rfl
  simp only [Tryd.ntmps70, List.size_toArray, List.length_cons, List.length_nil, Nat.reduceAdd, Nat.reduceSub, Array.replicate_succ, Array.replicate_zero, List.push_toArray, List.append_toArray, List.nil_append, List.cons_append]
  gi_wp2_with (refine ⟨trivial, ?_⟩; gi_at_call 71; refine (callsIn_wide.2 (polyDegree_nat _ (by omega) _)).mono ?_; rintro e w' ⟨rfl, rfl⟩)
  refine wpIn_loop_rounds 2 ?_
  rw [roundsIn_succ]
  gi_wp2_with (refine ⟨trivial, ?_⟩; gi_at_call 74; refine (callsIn_wide.2 (polysOf_any _ _)).mono ?_; rintro e w' ⟨rfl, rfl⟩)
  have c0 := cell_new_l w (.int .i64 p) 2
  have c1 := cell_new_l (w.alloc (.cells #[.int .i64 p] 2)) (.bool false) 4
  have c2 := cell_new_l ((w.alloc (.cells #[.int .i64 p] 2)).alloc (.cells #[.bool false] 4)) (.int .i64 1) 2
  simp only [World.size_alloc] at c1 c2
  have hB0 : Below w.heap.size w (((w.alloc (.cells #[.int .i64 p] 2)).alloc (.cells #[.bool false] 4)).alloc (.cells #[.int .i64 1] 2)) := (((Below.refl _ w).alloc (Nat.le_refl _) _).alloc (by simp) _).alloc (by simp; omega) _
  refine wpIn_rangeFunc_ownF (α := PolyOf 1) rfl (by omega) (gf := 76) (lb := #[.pointer (some ⟨w.heap.size + 1 + 1, 0, none⟩)]) rfl trivial (enters_of Tryd.func76 (by kernel_rfl) rfl)
    (polysOf_stops Fence.wide 8 trivial rfl (by omega) (w.heap.size + 1 + 1) 1 2 (by omega) rfl _ c2.1 (by simp)) (fun _ _ => trivial) (fun _ _ _ _ _ _ _ _ => trivial) (Below.refl _ _) (fun _ => rfl)
    (fun pre W => ((∀ d ∈ pre, prest p d.1 ≠ 0) ∧ W.cell? ⟨w.heap.size, 0, none⟩ = some (.int .i64 p) ∧ W.cell? ⟨w.heap.size + 1, 0, none⟩ = some (.bool false) ∧ W.frozen? ⟨w.heap.size + 1, 0, none⟩ = false) ∧ Below w.heap.size w W)
    (fun c pre W => (c = .ret ∧ (∃ d ∈ pre, prest p d.1 = 0) ∧ W.cell? ⟨w.heap.size + 1, 0, none⟩ = some (.bool false)) ∧ Below w.heap.size w W)
    (OwnFrom.and (Own.from (fun s A B row hs hg hr => ⟨hs.1, cell_kept hs.2.1 hg hr, cell_kept hs.2.2.1 hg hr, (frozen_kept hs.2.2.1 hg hr).trans hs.2.2.2⟩) _) (ownFrom_below (Nat.le_refl _) (by simp; omega)))
    (fun c => OwnFrom.and (Own.from (fun s A B row hs hg hr => ⟨hs.1, hs.2.1, cell_kept hs.2.2 hg hr⟩) _) (ownFrom_below (Nat.le_refl _) (by simp; omega)))
    ⟨⟨by simp, cell_alloc_l _ (cell_alloc_l _ c0.1), cell_alloc_l _ c1.1, frozen_alloc_l _ c1.1 c1.2⟩, hB0⟩
    (fun x => { tmps := #[.int .i64 p, .pointer (some ⟨w.heap.size, 0, none⟩), .pointer (some ⟨w.heap.size + 1, 0, none⟩), .int .i64 2, .int .i64 1, .int .i64 x.1, .int .i64 p, .int .i64 2, .int .i64 2, .bool false, .bool false, .int .i64 2, .bool false, .bool false, .int .i64 1, .int .i64 2, .int .i64 2, .bool true, undef, undef, .int .i64 1, .func (.func 76) #[] #[.pointer (some ⟨w.heap.size + 1 + 1, 0, none⟩)], .int .i64 x.1, undef, undef, undef, undef], defers := [] }) ?assign ?body ?done ?stop
  case assign =>
    intro l x W K hK
    gi_wp2
    exact hK
  case body =>
    rintro l pre x W ⟨⟨hpre, hcw, hcr, hfr⟩, hB⟩ _
    have hx1 := x.2.1
    have hx2 := x.2.2
    gi_wp2_with (refine ⟨trivial, ?_⟩; gi_at_call 61; refine (CallsIn.inRound l (callsIn_wide.2 (polyRest_any _ _ (by omega) (by omega) (by omega) _))).mono ?_; rintro e w' ⟨rfl, rfl⟩)
    · rename_i hx
      exact ⟨KeepsOthers.setCell _ _ _, ⟨rfl, ⟨x, List.mem_append.2 (.inr (by simp)), by simpa using hx⟩, World.cell?_setCell_same' _ _ _ (by rw [hcr]; rfl)⟩, hB.setCell (p := ⟨w.heap.size + 1, 0, none⟩) (by simp) _⟩
    · rename_i hx
      exact ⟨KeepsOthers.refl _, trivial, ⟨fun y hy => (List.mem_append.1 hy).elim (hpre y) (fun e => by simp at e; subst e; simpa using hx), hcw, hcr, hfr⟩, hB⟩
  case done =>
    rintro D ys W hD rfl ⟨⟨hne, hcw, hcr, hfr⟩, hB⟩ hK
    gi_wp2
    rw [roundsIn_succ]
    gi_wp2
    have hK' := (KeepsOthers.setCell W ⟨w.heap.size + 1, 0, none⟩ (.bool true)).same D _ hK rfl
    refine ⟨by simp, .inl ⟨_, _, rfl, run_takeDeferred hK', ?_⟩⟩
    have hc5 := cell_kept (World.cell?_setCell_same' W ⟨w.heap.size + 1, 0, none⟩ (.bool true) (by rw [hcr]; rfl)) (grownBy_putObj' _ D (.deferred none)) (fun r e => by cases e; exact ⟨_, hK', rfl⟩)
    refine ⟨.bool true, ?_, ret_bool (noDiv_yes (fun d h1 h2 => hne ⟨d, by omega⟩ (polys_mem 2 (by omega) _ (by simp; omega)))).symm, (hB.setCell (p := ⟨w.heap.size + 1, 0, none⟩) (by simp) _).trans (belowK_b (w := w) (Nat.le_refl _) _ D _ _ (by simp at hD; omega) hK' rfl rfl)⟩
    simp [results, Tryd.f70, go_sem, hc5]
  case stop =>
    rintro D c pre W hD hpre ⟨⟨rfl, hin, hcr⟩, hB⟩ hK
    gi_wp2
    refine ⟨by simp, .inl ⟨_, _, rfl, run_takeDeferred hK, ?_⟩⟩
    have hc5 := cell_kept hcr (grownBy_putObj' _ D (.deferred none)) (fun r e => by cases e; exact ⟨_, hK, rfl⟩)
    obtain ⟨d, _, hd0⟩ := hin
    refine ⟨.bool false, ?_, ret_bool (noDiv_no (d := d.1) (by have := d.2.1; omega) (by have := d.2.2; omega) hd0).symm, hB.trans (belowK_b (w := w) (Nat.le_refl _) W D _ _ (by simp at hD; omega) hK rfl rfl)⟩
    simp [results, Tryd.f70, go_sem, hc5]
set_option maxRecDepth 100000 in
set_option maxHeartbeats 4000000 in
theorem isIrreducible_3 (p : Nat) (hp : p < 64) (hd : nb p = 4) (w : World) :
    CallsIn Fence.wide 9 Tryd.prog 70 #[.int .i64 p] w fun e W' => e = .returned (.bool (noDiv p 4)) ∧ Below w.heap.size w W' := by
  refine callsIn_of_wp_marks Tryd.func70 rfl trivial ?_ rfl
  simp only [Tryd.ntmps70, List.size_toArray, List.length_cons, List.length_nil, Nat.reduceAdd, Nat.reduceSub, Array.replicate_succ, Array.replicate_zero, List.push_toArray, List.append_toArray, List.nil_append, List.cons_append]
  gi_wp2_with (refine ⟨trivial, ?_⟩; gi_at_call 71; refine (callsIn_wide.2 (polyDegree_nat _ (by omega) _)).mono ?_; rintro e w' ⟨rfl, rfl⟩)
  refine wpIn_loop_rounds 2 ?_
  rw [roundsIn_succ]
  gi_wp2_with (refine ⟨trivial, ?_⟩; gi_at_call 74; refine (callsIn_wide.2 (polysOf_any _ _)).mono ?_; rintro e w' ⟨rfl, rfl⟩)
  have c0 := cell_new_l w (.int .i64 p) 2
  have c1 := cell_new_l (w.alloc (.cells #[.int .i64 p] 2)) (.bool false) 4
  have c2 := cell_new_l ((w.alloc (.cells #[.int .i64 p] 2)).alloc (.cells #[.bool false] 4)) (.int .i64 1) 2
  simp only [World.size_alloc] at c1 c2
  have hB0 : Below w.heap.size w (((w.alloc (.cells #[.int .i64 p] 2)).alloc (.cells #[.bool false] 4)).alloc (.cells #[.int .i64 1] 2)) := (((Below.refl _ w).alloc (Nat.le_refl _) _).alloc (by simp) _).alloc (by simp; omega) _
  refine wpIn_rangeFunc_ownF (α := PolyOf 1) rfl (by omega) (gf := 76) (lb := #[.pointer (some ⟨w.heap.size + 1 + 1, 0, none⟩)]) rfl trivial (enters_of Tryd.func76 (by kernel_rfl) rfl)
    (polysOf_stops Fence.wide 8 trivial rfl (by omega) (w.heap.size + 1 + 1) 1 2 (by omega) rfl _ c2.1 (by simp)) (fun _ _ => trivial) (fun _ _ _ _ _ _ _ _ => trivial) (Below.refl _ _) (fun _ => rfl)
    (fun pre W => ((∀ d ∈ pre, prest p d.1 ≠ 0) ∧ W.cell? ⟨w.heap.size, 0, none⟩ = some (.int .i64 p) ∧ W.cell? ⟨w.heap.size + 1, 0, none⟩ = some (.bool false) ∧ W.frozen? ⟨w.heap.size + 1, 0, none⟩ = false) ∧ Below w.heap.size w W)
    (fun c pre W => (c = .ret ∧ (∃ d ∈ pre, prest p d.1 = 0) ∧ W.cell? ⟨w.heap.size + 1, 0, none⟩ = some (.bool false)) ∧ Below w.heap.size w W)
    (OwnFrom.and (Own.from (fun s A B row hs hg hr => ⟨hs.1, cell_kept hs.2.1 hg hr, cell_kept hs.2.2.1 hg hr, (frozen_kept hs.2.2.1 hg hr).trans hs.2.2.2⟩) _) (ownFrom_below (Nat.le_refl _) (by simp; omega)))
    (fun c => OwnFrom.and (Own.from (fun s A B row hs hg hr => ⟨hs.1, hs.2.1, cell_kept hs.2.2 hg hr⟩) _) (ownFrom_below (Nat.le_refl _) (by simp; omega)))
    ⟨⟨by simp, cell_alloc_l _ (cell_alloc_l _ c0.1), cell_alloc_l _ c1.1, frozen_alloc_l _ c1.1 c1.2⟩, hB0⟩
    (fun x => { tmps := #[.int .i64 p, .pointer (some ⟨w.heap.size, 0, none⟩), .pointer (some ⟨w.heap.size + 1, 0, none⟩), .int .i64 3, .int .i64 1, .int .i64 x.1, .int .i64 p, .int .i64 3, .int .i64 3, .bool false, .bool false, .int .i64 3, .bool false, .bool false, .int .i64 1, .int .i64 2, .int .i64 3, .bool true, undef, undef, .int .i64 1, .func (.func 76) #[] #[.pointer (some ⟨w.heap.size + 1 + 1, 0, none⟩)], .int .i64 x.1, undef, undef, undef, undef], defers := [] }) ?assign ?body ?done ?stop
  case assign =>
    intro l x W K hK
    gi_wp2
    exact hK
  case body =>
    rintro l pre x W ⟨⟨hpre, hcw, hcr, hfr⟩, hB⟩ _
    have hx1 := x.2.1
    have hx2 := x.2.2
    gi_wp2_with (refine ⟨trivial, ?_⟩; gi_at_call 61; refine (CallsIn.inRound l (callsIn_wide.2 (polyRest_any _ _ (by omega) (by omega) (by omega) _))).mono ?_; rintro e w' ⟨rfl, rfl⟩)
    · rename_i hx
      exact ⟨KeepsOthers.setCell _ _ _, ⟨rfl, ⟨x, List.mem_append.2 (.inr (by simp)), by simpa using hx⟩, World.cell?_setCell_same' _ _ _ (by rw [hcr]; rfl)⟩, hB.setCell (p := ⟨w.heap.size + 1, 0, none⟩) (by simp) _⟩
    · rename_i hx
      exact ⟨KeepsOthers.refl _, trivial, ⟨fun y hy => (List.mem_append.1 hy).elim (hpre y) (fun e => by simp at e; subst e; simpa using hx), hcw, hcr, hfr⟩, hB⟩
  case done =>
    rintro D ys W hD rfl ⟨⟨hne, hcw, hcr, hfr⟩, hB⟩ hK
    gi_wp2
    rw [roundsIn_succ]
    gi_wp2
    have hK' := (KeepsOthers.setCell W ⟨w.heap.size + 1, 0, none⟩ (.bool true)).same D _ hK rfl
    refine ⟨by simp, .inl ⟨_, _, rfl, run_takeDeferred hK', ?_⟩⟩
    have hc5 := cell_kept (World.cell?_setCell_same' W ⟨w.heap.size + 1, 0, none⟩ (.bool true) (by rw [hcr]; rfl)) (grownBy_putObj' _ D (.deferred none)) (fun r e => by cases e; exact ⟨_, hK', rfl⟩)
    refine ⟨.bool true, ?_, ret_bool (noDiv_yes (fun d h1 h2 => hne ⟨d, by omega⟩ (polys_mem 2 (by omega) _ (by simp; omega)))).symm, (hB.setCell (p := ⟨w.heap.size + 1, 0, none⟩) (by simp) _).trans (belowK_b (w := w) (Nat.le_refl _) _ D _ _ (by simp at hD; omega) hK' rfl rfl)⟩
    simp [results, Tryd.f70, go_sem, hc5]
  case stop =>
    rintro D c pre W hD hpre ⟨⟨rfl, hin, hcr⟩, hB⟩ hK
    gi_wp2
    refine ⟨by simp, .inl ⟨_, _, rfl, run_takeDeferred hK, ?_⟩⟩
    have hc5 := cell_kept hcr (grownBy_putObj' _ D (.deferred none)) (fun r e => by cases e; exact ⟨_, hK, rfl⟩)
    obtain ⟨d, _, hd0⟩ := hin
    refine ⟨.bool false, ?_, ret_bool (noDiv_no (d := d.1) (by have := d.2.1; omega) (by have := d.2.2; omega) hd0).symm, hB.trans (belowK_b (w := w) (Nat.le_refl _) W D _ _ (by simp at hD; omega) hK rfl rfl)⟩
    simp [results, Tryd.f70, go_sem, hc5]
set_option maxRecDepth 100000 in
set_option maxHeartbeats 4000000 in
theorem isIrreducible_4 (p : Nat) (hp : p < 64) (hd : nb p = 5) (w : World) :
    CallsIn Fence.wide 9 Tryd.prog 70 #[.int .i64 p] w fun e W' => e = .returned (.bool (noDiv p 8)) ∧ Below w.heap.size w W' := by
  refine callsIn_of_wp_marks Tryd.func70 rfl trivial ?_ rfl
  simp only [Tryd.ntmps70, List.size_toArray, List.length_cons, List.length_nil, Nat.reduceAdd, Nat.reduceSub, Array.replicate_succ, Array.replicate_zero, List.push_toArray, List.append_toArray, List.nil_append, List.cons_append]
  gi_wp2_with (refine ⟨trivial, ?_⟩; gi_at_call 71; refine (callsIn_wide.2 (polyDegree_nat _ (by omega) _)).mono ?_; rintro e w' ⟨rfl, rfl⟩)
  refine wpIn_loop_rounds 3 ?_
  rw [roundsIn_succ]
  gi_wp2_with (refine ⟨trivial, ?_⟩; gi_at_call 74; refine (callsIn_wide.2 (polysOf_any _ _)).mono ?_; rintro e w' ⟨rfl, rfl⟩)
  have c0 := cell_new_l w (.int .i64 p) 2
  have c1 := cell_new_l (w.alloc (.cells #[.int .i64 p] 2)) (.bool false) 4
  have c2 := cell_new_l ((w.alloc (.cells #[.int .i64 p] 2)).alloc (.cells #[.bool false] 4)) (.int .i64 1) 2
  simp only [World.size_alloc] at c1 c2
  have hB0 : Below w.heap.size w (((w.alloc (.cells #[.int .i64 p] 2)).alloc (.cells #[.bool false] 4)).alloc (.cells #[.int .i64 1] 2)) := (((Below.refl _ w).alloc (Nat.le_refl _) _).alloc (by simp) _).alloc (by simp; omega) _
  refine wpIn_rangeFunc_ownF (α := PolyOf 1) rfl (by omega) (gf := 76) (lb := #[.pointer (some ⟨w.heap.size + 1 + 1, 0, none⟩)]) rfl trivial (enters_of Tryd.func76 (by kernel_rfl) rfl)
    (polysOf_stops Fence.wide 8 trivial rfl (by omega) (w.heap.size + 1 + 1) 1 2 (by omega) rfl _ c2.1 (by simp)) (fun _ _ => trivial) (fun _ _ _ _ _ _ _ _ => trivial) (Below.refl _ _) (fun _ => rfl)
    (fun pre W => ((∀ d ∈ pre, prest p d.1 ≠ 0) ∧ W.cell? ⟨w.heap.size, 0, none⟩ = some (.int .i64 p) ∧ W.cell? ⟨w.heap.size + 1, 0, none⟩ = some (.bool false) ∧ W.frozen? ⟨w.heap.size + 1, 0, none⟩ = false) ∧ Below w.heap.size w W)
    (fun c pre W => (c = .ret ∧ (∃ d ∈ pre, prest p d.1 = 0) ∧ W.cell? ⟨w.heap.size + 1, 0, none⟩ = some (.bool false)) ∧ Below w.heap.size w W)
    (OwnFrom.and (Own.from (fun s A B row hs hg hr => ⟨hs.1, cell_kept hs.2.1 hg hr, cell_kept hs.2.2.1 hg hr, (frozen_kept hs.2.2.1 hg hr).trans hs.2.2.2⟩) _) (ownFrom_below (Nat.le_refl _) (by simp; omega)))
    (fun c => OwnFrom.and (Own.from (fun s A B row hs hg hr => ⟨hs.1, hs.2.1, cell_kept hs.2.2 hg hr⟩) _) (ownFrom_below (Nat.le_refl _) (by simp; omega)))
    ⟨⟨by simp, cell_alloc_l _ (cell_alloc_l _ c0.1), cell_alloc_l _ c1.1, frozen_alloc_l _ c1.1 c1.2⟩, hB0⟩
    (fun x => { tmps := #[.int .i64 p, .pointer (some ⟨w.heap.size, 0, none⟩), .pointer (some ⟨w.heap.size + 1, 0, none⟩), .int .i64 4, .int .i64 1, .int .i64 x.1, .int .i64 p, .int .i64 4, .int .i64 4, .bool false, .bool false, .int .i64 4, .bool false, .bool false, .int .i64 1, .int .i64 2, .int .i64 4, .bool true, undef, undef, .int .i64 1, .func (.func 76) #[] #[.pointer (some ⟨w.heap.size + 1 + 1, 0, none⟩)], .int .i64 x.1, undef, undef, undef, undef], defers := [] }) ?assign ?body ?done ?stop
  case assign =>
    intro l x W K hK
    gi_wp2
    exact hK
  case body =>
    rintro l pre x W ⟨⟨hpre, hcw, hcr, hfr⟩, hB⟩ _
    have hx1 := x.2.1
    have hx2 := x.2.2
    gi_wp2_with (refine ⟨trivial, ?_⟩; gi_at_call 61; refine (CallsIn.inRound l (callsIn_wide.2 (polyRest_any _ _ (by omega) (by omega) (by omega) _))).mono ?_; rintro e w' ⟨rfl, rfl⟩)
    · rename_i hx
      exact ⟨KeepsOthers.setCell _ _ _, ⟨rfl, ⟨x, List.mem_append.2 (.inr (by simp)), by simpa using hx⟩, World.cell?_setCell_same' _ _ _ (by rw [hcr]; rfl)⟩, hB.setCell (p := ⟨w.heap.size + 1, 0, none⟩) (by simp) _⟩
    · rename_i hx
      exact ⟨KeepsOthers.refl _, trivial, ⟨fun y hy => (List.mem_append.1 hy).elim (hpre y) (fun e => by simp at e; subst e; simpa using hx), hcw, hcr, hfr⟩, hB⟩
  case done =>
    rintro D ys W hD rfl ⟨⟨hne, hcw, hcr, hfr⟩, hB⟩ hK
    have hDW : D < W.heap.size := (Array.getElem?_eq_some_iff.1 hK).1
    have hwD : w.heap.size + 1 + 1 + 1 ≤ D := by simpa using hD
    clear hD c0 c1 c2 hB0
    gi_wp2
    rw [roundsIn_succ]
    gi_wp2_with (refine ⟨trivial, ?_⟩; gi_at_call 74; refine (callsIn_wide.2 (polysOf_any _ _)).mono ?_; rintro e w' ⟨rfl, rfl⟩)
    have c2 := cell_new_l W (.int .i64 2) 2
    have hB1 : Below w.heap.size w (W.alloc (.cells #[.int .i64 2] 2)) := hB.trans ((Below.refl _ W).alloc (by omega) _)
    refine wpIn_rangeFunc_ownF (α := PolyOf 2) rfl (by omega) (gf := 76) (lb := #[.pointer (some ⟨W.heap.size, 0, none⟩)]) rfl trivial (enters_of Tryd.func76 (by kernel_rfl) rfl)
      (polysOf_stops Fence.wide 8 trivial rfl (by omega) W.heap.size 2 4 (by omega) rfl _ c2.1 (by simp)) (fun _ _ => trivial) (fun _ _ _ _ _ _ _ _ => trivial) (Below.refl _ _) (fun _ => rfl)
      (fun pre W => ((∀ d ∈ pre, prest p d.1 ≠ 0) ∧ W.cell? ⟨w.heap.size, 0, none⟩ = some (.int .i64 p) ∧ W.cell? ⟨w.heap.size + 1, 0, none⟩ = some (.bool false) ∧ W.frozen? ⟨w.heap.size + 1, 0, none⟩ = false) ∧ (W.heap[D]? = some (.deferred (some [])) ∧ Below w.heap.size w W))
      (fun c pre W => (c = .ret ∧ (∃ d ∈ pre, prest p d.1 = 0) ∧ W.cell? ⟨w.heap.size + 1, 0, none⟩ = some (.bool false)) ∧ (W.heap[D]? = some (.deferred (some [])) ∧ Below w.heap.size w W))
      (OwnFrom.and (Own.from (fun s A B row hs hg hr => ⟨hs.1, cell_kept hs.2.1 hg hr, cell_kept hs.2.2.1 hg hr, (frozen_kept hs.2.2.1 hg hr).trans hs.2.2.2⟩) _) (OwnFrom.and (ownFrom_heap (by simp; omega)) (ownFrom_below (Nat.le_refl _) (by simp; omega))))
      (fun c => OwnFrom.and (Own.from (fun s A B row hs hg hr => ⟨hs.1, hs.2.1, cell_kept hs.2.2 hg hr⟩) _) (OwnFrom.and (ownFrom_heap (by simp; omega)) (ownFrom_below (Nat.le_refl _) (by simp; omega))))
      ⟨⟨by simp, cell_alloc_l _ hcw, cell_alloc_l _ hcr, frozen_alloc_l _ hcr hfr⟩, (KeepsOthers.alloc W _).same D _ hK rfl, hB1⟩
      (fun x => { tmps := #[.int .i64 p, .pointer (some ⟨w.heap.size, 0, none⟩), .pointer (some ⟨w.heap.size + 1, 0, none⟩), .int .i64 4, .int .i64 2, .int .i64 x.1, .int .i64 p, .int .i64 4, .int .i64 4, .bool false, .bool false, .int .i64 4, .bool false, .bool false, .int .i64 2, .int .i64 4, .int .i64 4, .bool true, .int .i64 1, .int .i64 2, .int .i64 2, .func (.func 76) #[] #[.pointer (some ⟨W.heap.size, 0, none⟩)], .int .i64 x.1, undef, undef, undef, undef], defers := [] }) ?assign2 ?body2 ?done2 ?stop2
    case assign2 =>
      intro l x W K hK
      gi_wp2
      exact hK
    case body2 =>
      rintro l pre x W ⟨⟨hpre, hcw, hcr, hfr⟩, hK, hB⟩ _
      have hx1 := x.2.1
      have hx2 := x.2.2
      gi_wp2_with (refine ⟨trivial, ?_⟩; gi_at_call 61; refine (CallsIn.inRound l (callsIn_wide.2 (polyRest_any _ _ (by omega) (by omega) (by omega) _))).mono ?_; rintro e w' ⟨rfl, rfl⟩)
      · rename_i hx
        exact ⟨KeepsOthers.setCell _ _ _, ⟨rfl, ⟨x, List.mem_append.2 (.inr (by simp)), by simpa using hx⟩, World.cell?_setCell_same' _ _ _ (by rw [hcr]; rfl)⟩, (KeepsOthers.setCell _ _ _).same D _ hK rfl, hB.setCell (p := ⟨w.heap.size + 1, 0, none⟩) (by simp) _⟩
      · rename_i hx
        exact ⟨KeepsOthers.refl _, trivial, ⟨fun y hy => (List.mem_append.1 hy).elim (hpre y) (fun e => by simp at e; subst e; simpa using hx), hcw, hcr, hfr⟩, hK, hB⟩
    case done2 =>
      rintro D2 ys W2 hD2 rfl ⟨⟨hne2, hcw, hcr, hfr⟩, hK, hB⟩ hK2
      have hDD : D ≠ D2 := by simp at hD2; omega
      gi_wp2
      rw [roundsIn_succ]
      gi_wp2
      have hK' := (KeepsOthers.setCell W2 ⟨w.heap.size + 1, 0, none⟩ (.bool true)).same D _ hK rfl
      have hK2' := (KeepsOthers.setCell W2 ⟨w.heap.size + 1, 0, none⟩ (.bool true)).same D2 _ hK2 rfl
      refine ⟨by simp, .inl ⟨_, _, rfl, run_takeDeferred hK2', ?_⟩⟩
      have hK'' := (World.putObj_heap_other (o := .deferred none) hDD).trans hK'
      refine ⟨by simp, .inl ⟨_, _, rfl, run_takeDeferred hK'', ?_⟩⟩
      have hc5 := cell_kept (World.cell?_setCell_same' W2 ⟨w.heap.size + 1, 0, none⟩ (.bool true) (by rw [hcr]; rfl)) (grownBy_putObj' _ D2 (.deferred none)) (fun r e => by cases e; exact ⟨_, hK2', rfl⟩)
      have hc6 := cell_kept hc5 (grownBy_putObj' _ D (.deferred none)) (fun r e => by cases e; exact ⟨_, hK'', rfl⟩)
      have hB2 := (hB.setCell (p := ⟨w.heap.size + 1, 0, none⟩) (by simp) (.bool true)).trans (belowK_b (w := w) (Nat.le_refl _) _ D2 _ (.deferred none) (by simp at hD2; omega) hK2' rfl rfl)
      refine ⟨.bool true, ?_, ret_bool (noDiv_yes (fun d h1 h2 => ?_)).symm, hB2.trans (belowK_b (w := w) (Nat.le_refl _) _ D _ _ (by omega) hK'' rfl rfl)⟩
      · simp [results, Tryd.f70, go_sem, hc6]
      · by_cases h4 : d < 4
        · exact hne ⟨d, by omega⟩ (polys_mem 2 (by omega) _ (by simp; omega))
        · exact hne2 ⟨d, by omega⟩ (polys_mem 4 (by omega) _ (by simp; omega))
    case stop2 =>
      rintro D2 c pre W2 hD2 hpre ⟨⟨rfl, hin, hcr⟩, hK, hB⟩ hK2
      have hDD : D ≠ D2 := by simp at hD2; omega
      gi_wp2
      refine ⟨by simp, .inl ⟨_, _, rfl, run_takeDeferred hK2, ?_⟩⟩
      have hK'' := (World.putObj_heap_other (o := .deferred none) hDD).trans hK
      refine ⟨by simp, .inl ⟨_, _, rfl, run_takeDeferred hK'', ?_⟩⟩
      have hc5 := cell_kept hcr (grownBy_putObj' _ D2 (.deferred none)) (fun r e => by cases e; exact ⟨_, hK2, rfl⟩)
      have hc6 := cell_kept hc5 (grownBy_putObj' _ D (.deferred none)) (fun r e => by cases e; exact ⟨_, hK'', rfl⟩)
      obtain ⟨d, _, hd0⟩ := hin
      have hB2 := hB.trans (belowK_b (w := w) (Nat.le_refl _) W2 D2 _ (.deferred none) (by simp at hD2; omega) hK2 rfl rfl)
      refine ⟨.bool false, ?_, ret_bool (noDiv_no (d := d.1) (by have := d.2.1; omega) (by have := d.2.2; omega) hd0).symm, hB2.trans (belowK_b (w := w) (Nat.le_refl _) _ D _ _ (by omega) hK'' rfl rfl)⟩
      simp [results, Tryd.f70, go_sem, hc6]
  case stop =>
    rintro D c pre W hD hpre ⟨⟨rfl, hin, hcr⟩, hB⟩ hK
    gi_wp2
    refine ⟨by simp, .inl ⟨_, _, rfl, run_takeDeferred hK, ?_⟩⟩
    have hc5 := cell_kept hcr (grownBy_putObj' _ D (.deferred none)) (fun r e => by cases e; exact ⟨_, hK, rfl⟩)
    obtain ⟨d, _, hd0⟩ := hin
    refine ⟨.bool false, ?_, ret_bool (noDiv_no (d := d.1) (by have := d.2.1; omega) (by have := d.2.2; omega) hd0).symm, hB.trans (belowK_b (w := w) (Nat.le_refl _) W D _ _ (by simp at hD; omega) hK rfl rfl)⟩
    simp [results, Tryd.f70, go_sem, hc5]
set_option maxRecDepth 100000 in
set_option maxHeartbeats 4000000 in
theorem isIrreducible_5 (p : Nat) (hp : p < 64) (hd : nb p = 6) (w : World) :
    CallsIn Fence.wide 9 Tryd.prog 70 #[.int .i64 p] w fun e W' => e = .returned (.bool (noDiv p 8)) ∧ Below w.heap.size w W' := by
  refine callsIn_of_wp_marks Tryd.func70 rfl trivial ?_ rfl
  simp only [Tryd.ntmps70, List.size_toArray, List.length_cons, List.length_nil, Nat.reduceAdd, Nat.reduceSub, Array.replicate_succ, Array.replicate_zero, List.push_toArray, List.append_toArray, List.nil_append, List.cons_append]
  gi_wp2_with (refine ⟨trivial, ?_⟩; gi_at_call 71; refine (callsIn_wide.2 (polyDegree_nat _ (by omega) _)).mono ?_; rintro e w' ⟨rfl, rfl⟩)
  refine wpIn_loop_rounds 3 ?_
  rw [roundsIn_succ]
  gi_wp2_with (refine ⟨trivial, ?_⟩; gi_at_call 74; refine (callsIn_wide.2 (polysOf_any _ _)).mono ?_; rintro e w' ⟨rfl, rfl⟩)
  have c0 := cell_new_l w (.int .i64 p) 2
  have c1 := cell_new_l (w.alloc (.cells #[.int .i64 p] 2)) (.bool false) 4
  have c2 := cell_new_l ((w.alloc (.cells #[.int .i64 p] 2)).alloc (.cells #[.bool false] 4)) (.int .i64 1) 2
  simp only [World.size_alloc] at c1 c2
  have hB0 : Below w.heap.size w (((w.alloc (.cells #[.int .i64 p] 2)).alloc (.cells #[.bool false] 4)).alloc (.cells #[.int .i64 1] 2)) := (((Below.refl _ w).alloc (Nat.le_refl _) _).alloc (by simp) _).alloc (by simp; omega) _
  refine wpIn_rangeFunc_ownF (α := PolyOf 1) rfl (by omega) (gf := 76) (lb := #[.pointer (some ⟨w.heap.size + 1 + 1, 0, none⟩)]) rfl trivial (enters_of Tryd.func76 (by kernel_rfl) rfl)
    (polysOf_stops Fence.wide 8 trivial rfl (by omega) (w.heap.size + 1 + 1) 1 2 (by omega) rfl _ c2.1 (by simp)) (fun _ _ => trivial) (fun _ _ _ _ _ _ _ _ => trivial) (Below.refl _ _) (fun _ => rfl)
    (fun pre W => ((∀ d ∈ pre, prest p d.1 ≠ 0) ∧ W.cell? ⟨w.heap.size, 0, none⟩ = some (.int .i64 p) ∧ W.cell? ⟨w.heap.size + 1, 0, none⟩ = some (.bool false) ∧ W.frozen? ⟨w.heap.size + 1, 0, none⟩ = false) ∧ Below w.heap.size w W)
    (fun c pre W => (c = .ret ∧ (∃ d ∈ pre, prest p d.1 = 0) ∧ W.cell? ⟨w.heap.size + 1, 0, none⟩ = some (.bool false)) ∧ Below w.heap.size w W)
    (OwnFrom.and (Own.from (fun s A B row hs hg hr => ⟨hs.1, cell_kept hs.2.1 hg hr, cell_kept hs.2.2.1 hg hr, (frozen_kept hs.2.2.1 hg hr).trans hs.2.2.2⟩) _) (ownFrom_below (Nat.le_refl _) (by simp; omega)))
    (fun c => OwnFrom.and (Own.from (fun s A B row hs hg hr => ⟨hs.1, hs.2.1, cell_kept hs.2.2 hg hr⟩) _) (ownFrom_below (Nat.le_refl _) (by simp; omega)))
    ⟨⟨by simp, cell_alloc_l _ (cell_alloc_l _ c0.1), cell_alloc_l _ c1.1, frozen_alloc_l _ c1.1 c1.2⟩, hB0⟩
    (fun x => { tmps := #[.int .i64 p, .pointer (some ⟨w.heap.size, 0, none⟩), .pointer (some ⟨w.heap.size + 1, 0, none⟩), .int .i64 5, .int .i64 1, .int .i64 x.1, .int .i64 p, .int .i64 5, .int .i64 5, .bool false, .bool false, .int .i64 5, .bool false, .bool false, .int .i64 1, .int .i64 2, .int .i64 5, .bool true, undef, undef, .int .i64 1, .func (.func 76) #[] #[.pointer (some ⟨w.heap.size + 1 + 1, 0, none⟩)], .int .i64 x.1, undef, undef, undef, undef], defers := [] }) ?assign ?body ?done ?stop
  case assign =>
    intro l x W K hK
    gi_wp2
    exact hK
  case body =>
    rintro l pre x W ⟨⟨hpre, hcw, hcr, hfr⟩, hB⟩ _
    have hx1 := x.2.1
    have hx2 := x.2.2
    gi_wp2_with (refine ⟨trivial, ?_⟩; gi_at_call 61; refine (CallsIn.inRound l (callsIn_wide.2 (polyRest_any _ _ (by omega) (by omega) (by omega) _))).mono ?_; rintro e w' ⟨rfl, rfl⟩)
    · rename_i hx
      exact ⟨KeepsOthers.setCell _ _ _, ⟨rfl, ⟨x, List.mem_append.2 (.inr (by simp)), by simpa using hx⟩, World.cell?_setCell_same' _ _ _ (by rw [hcr]; rfl)⟩, hB.setCell (p := ⟨w.heap.size + 1, 0, none⟩) (by simp) _⟩
    · rename_i hx
      exact ⟨KeepsOthers.refl _, trivial, ⟨fun y hy => (List.mem_append.1 hy).elim (hpre y) (fun e => by simp at e; subst e; simpa using hx), hcw, hcr, hfr⟩, hB⟩
  case done =>
    rintro D ys W hD rfl ⟨⟨hne, hcw, hcr, hfr⟩, hB⟩ hK
    have hDW : D < W.heap.size := (Array.getElem?_eq_some_iff.1 hK).1
    have hwD : w.heap.size + 1 + 1 + 1 ≤ D := by simpa using hD
    clear hD c0 c1 c2 hB0
    gi_wp2
    rw [roundsIn_succ]
    gi_wp2_with (refine ⟨trivial, ?_⟩; gi_at_call 74; refine (callsIn_wide.2 (polysOf_any _ _)).mono ?_; rintro e w' ⟨rfl, rfl⟩)
    have c2 := cell_new_l W (.int .i64 2) 2
    have hB1 : Below w.heap.size w (W.alloc (.cells #[.int .i64 2] 2)) := hB.trans ((Below.refl _ W).alloc (by omega) _)
    refine wpIn_rangeFunc_ownF (α := PolyOf 2) rfl (by omega) (gf := 76) (lb := #[.pointer (some ⟨W.heap.size, 0, none⟩)]) rfl trivial (enters_of Tryd.func76 (by kernel_rfl) rfl)
      (polysOf_stops Fence.wide 8 trivial rfl (by omega) W.heap.size 2 4 (by omega) rfl _ c2.1 (by simp)) (fun _ _ => trivial) (fun _ _ _ _ _ _ _ _ => trivial) (Below.refl _ _) (fun _ => rfl)
      (fun pre W => ((∀ d ∈ pre, prest p d.1 ≠ 0) ∧ W.cell? ⟨w.heap.size, 0, none⟩ = some (.int .i64 p) ∧ W.cell? ⟨w.heap.size + 1, 0, none⟩ = some (.bool false) ∧ W.frozen? ⟨w.heap.size + 1, 0, none⟩ = false) ∧ (W.heap[D]? = some (.deferred (some [])) ∧ Below w.heap.size w W))
      (fun c pre W => (c = .ret ∧ (∃ d ∈ pre, prest p d.1 = 0) ∧ W.cell? ⟨w.heap.size + 1, 0, none⟩ = some (.bool false)) ∧ (W.heap[D]? = some (.deferred (some [])) ∧ Below w.heap.size w W))
      (OwnFrom.and (Own.from (fun s A B row hs hg hr => ⟨hs.1, cell_kept hs.2.1 hg hr, cell_kept hs.2.2.1 hg hr, (frozen_kept hs.2.2.1 hg hr).trans hs.2.2.2⟩) _) (OwnFrom.and (ownFrom_heap (by simp; omega)) (ownFrom_below (Nat.le_refl _) (by simp; omega))))
      (fun c => OwnFrom.and (Own.from (fun s A B row hs hg hr => ⟨hs.1, hs.2.1, cell_kept hs.2.2 hg hr⟩) _) (OwnFrom.and (ownFrom_heap (by simp; omega)) (ownFrom_below (Nat.le_refl _) (by simp; omega))))
      ⟨⟨by simp, cell_alloc_l _ hcw, cell_alloc_l _ hcr, frozen_alloc_l _ hcr hfr⟩, (KeepsOthers.alloc W _).same D _ hK rfl, hB1⟩
      (fun x => { tmps := #[.int .i64 p, .pointer (some ⟨w.heap.size, 0, none⟩), .pointer (some ⟨w.heap.size + 1, 0, none⟩), .int .i64 5, .int .i64 2, .int .i64 x.1, .int .i64 p, .int .i64 5, .int .i64 5, .bool false, .bool false, .int .i64 5, .bool false, .bool false, .int .i64 2, .int .i64 4, .int .i64 5, .bool true, .int .i64 1, .int .i64 2, .int .i64 2, .func (.func 76) #[] #[.pointer (some ⟨W.heap.size, 0, none⟩)], .int .i64 x.1, undef, undef, undef, undef], defers := [] }) ?assign2 ?body2 ?done2 ?stop2
    case assign2 =>
      intro l x W K hK
      gi_wp2
      exact hK
    case body2 =>
      rintro l pre x W ⟨⟨hpre, hcw, hcr, hfr⟩, hK, hB⟩ _
      have hx1 := x.2.1
      have hx2 := x.2.2
      gi_wp2_with (refine ⟨trivial, ?_⟩; gi_at_call 61; refine (CallsIn.inRound l (callsIn_wide.2 (polyRest_any _ _ (by omega) (by omega) (by omega) _))).mono ?_; rintro e w' ⟨rfl, rfl⟩)
      · rename_i hx
        exact ⟨KeepsOthers.setCell _ _ _, ⟨rfl, ⟨x, List.mem_append.2 (.inr (by simp)), by simpa using hx⟩, World.cell?_setCell_same' _ _ _ (by rw [hcr]; rfl)⟩, (KeepsOthers.setCell _ _ _).same D _ hK rfl, hB.setCell (p := ⟨w.heap.size + 1, 0, none⟩) (by simp) _⟩
      · rename_i hx
        exact ⟨KeepsOthers.refl _, trivial, ⟨fun y hy => (List.mem_append.1 hy).elim (hpre y) (fun e => by simp at e; subst e; simpa using hx), hcw, hcr, hfr⟩, hK, hB⟩
    case done2 =>
      rintro D2 ys W2 hD2 rfl ⟨⟨hne2, hcw, hcr, hfr⟩, hK, hB⟩ hK2
      have hDD : D ≠ D2 := by simp at hD2; omega
      gi_wp2
      rw [roundsIn_succ]
      gi_wp2
      have hK' := (KeepsOthers.setCell W2 ⟨w.heap.size + 1, 0, none⟩ (.bool true)).same D _ hK rfl
      have hK2' := (KeepsOthers.setCell W2 ⟨w.heap.size + 1, 0, none⟩ (.bool true)).same D2 _ hK2 rfl
      refine ⟨by simp, .inl ⟨_, _, rfl, run_takeDeferred hK2', ?_⟩⟩
      have hK'' := (World.putObj_heap_other (o := .deferred none) hDD).trans hK'
      refine ⟨by simp, .inl ⟨_, _, rfl, run_takeDeferred hK'', ?_⟩⟩
      have hc5 := cell_kept (World.cell?_setCell_same' W2 ⟨w.heap.size + 1, 0, none⟩ (.bool true) (by rw [hcr]; rfl)) (grownBy_putObj' _ D2 (.deferred none)) (fun r e => by cases e; exact ⟨_, hK2', rfl⟩)
      have hc6 := cell_kept hc5 (grownBy_putObj' _ D (.deferred none)) (fun r e => by cases e; exact ⟨_, hK'', rfl⟩)
      have hB2 := (hB.setCell (p := ⟨w.heap.size + 1, 0, none⟩) (by simp) (.bool true)).trans (belowK_b (w := w) (Nat.le_refl _) _ D2 _ (.deferred none) (by simp at hD2; omega) hK2' rfl rfl)
      refine ⟨.bool true, ?_, ret_bool (noDiv_yes (fun d h1 h2 => ?_)).symm, hB2.trans (belowK_b (w := w) (Nat.le_refl _) _ D _ _ (by omega) hK'' rfl rfl)⟩
      · simp [results, Tryd.f70, go_sem, hc6]
      · by_cases h4 : d < 4
        · exact hne ⟨d, by omega⟩ (polys_mem 2 (by omega) _ (by simp; omega))
        · exact hne2 ⟨d, by omega⟩ (polys_mem 4 (by omega) _ (by simp; omega))
    case stop2 =>
      rintro D2 c pre W2 hD2 hpre ⟨⟨rfl, hin, hcr⟩, hK, hB⟩ hK2
      have hDD : D ≠ D2 := by simp at hD2; omega
      gi_wp2
      refine ⟨by simp, .inl ⟨_, _, rfl, run_takeDeferred hK2, ?_⟩⟩
      have hK'' := (World.putObj_heap_other (o := .deferred none) hDD).trans hK
      refine ⟨by simp, .inl ⟨_, _, rfl, run_takeDeferred hK'', ?_⟩⟩
      have hc5 := cell_kept hcr (grownBy_putObj' _ D2 (.deferred none)) (fun r e => by cases e; exact ⟨_, hK2, rfl⟩)
      have hc6 := cell_kept hc5 (grownBy_putObj' _ D (.deferred none)) (fun r e => by cases e; exact ⟨_, hK'', rfl⟩)
      obtain ⟨d, _, hd0⟩ := hin
      have hB2 := hB.trans (belowK_b (w := w) (Nat.le_refl _) W2 D2 _ (.deferred none) (by simp at hD2; omega) hK2 rfl rfl)
      refine ⟨.bool false, ?_, ret_bool (noDiv_no (d := d.1) (by have := d.2.1; omega) (by have := d.2.2; omega) hd0).symm, hB2.trans (belowK_b (w := w) (Nat.le_refl _) _ D _ _ (by omega) hK'' rfl rfl)⟩
      simp [results, Tryd.f70, go_sem, hc6]
  case stop =>
    rintro D c pre W hD hpre ⟨⟨rfl, hin, hcr⟩, hB⟩ hK
    gi_wp2
    refine ⟨by simp, .inl ⟨_, _, rfl, run_takeDeferred hK, ?_⟩⟩
    have hc5 := cell_kept hcr (grownBy_putObj' _ D (.deferred none)) (fun r e => by cases e; exact ⟨_, hK, rfl⟩)
    obtain ⟨d, _, hd0⟩ := hin
    refine ⟨.bool false, ?_, ret_bool (noDiv_no (d := d.1) (by have := d.2.1; omega) (by have := d.2.2; omega) hd0).symm, hB.trans (belowK_b (w := w) (Nat.le_refl _) W D _ _ (by simp at hD; omega) hK rfl rfl)⟩
    simp [results, Tryd.f70, go_sem, hc5]

/-- How a number that may be negative counts: its bits as an unsigned number. -/
theorem nb_neg {p : Int} (h : p < 0) (hl : -9223372036854775808 ≤ p) : 63 < nb (p % 18446744073709551616).toNat := by
  have h1 : 2 ^ 63 ≤ (p % 18446744073709551616).toNat := by omega
  rcases Nat.lt_or_ge 63 (nb (p % 18446744073709551616).toNat) with h2 | h2
  · exact h2
  · have := nb_lt (p := (p % 18446744073709551616).toNat)
    have : 2 ^ nb (p % 18446744073709551616).toNat ≤ 2 ^ 63 := Nat.pow_le_pow_right (by omega) h2
    omega
theorem nb_big {p : Nat} (h : 64 ≤ p) : 6 < nb p := by
  rcases Nat.lt_or_ge 6 (nb p) with h2 | h2
  · exact h2
  · have := nb_lt (p := p)
    have : 2 ^ nb p ≤ 2 ^ 6 := Nat.pow_le_pow_right (by omega) h2
    omega

set_option maxRecDepth 100000 in
set_option maxHeartbeats 2000000 in
theorem isIrreducible_no (p : Int) (hl : -9223372036854775808 ≤ p) (hh : p ≤ 9223372036854775807) (hd : nb (p % 18446744073709551616).toNat < 2 ∨ 6 < nb (p % 18446744073709551616).toNat) (w : World) :
    CallsIn Fence.wide 9 Tryd.prog 70 #[.int .i64 p] w fun e W' => e = .returned (.bool false) ∧ Below w.heap.size w W' := by
  have hn := polyDegree_any p hl hh
  have hb : nb (p % 18446744073709551616).toNat ≤ 64 := nb_le_of_lt (by omega)
  generalize nb (p % 18446744073709551616).toNat = k at hd hb hn
  have HN := Lib.hid hn
  clear hn
  rcases hd with hd | hd
  · have g1 : decide ((k : Int) - 1 < 1) = true := by simp; omega
    refine callsIn_of_wp_marks Tryd.func70 rfl trivial ?_ rfl
    simp only [Tryd.ntmps70, List.size_toArray, List.length_cons, List.length_nil, Nat.reduceAdd, Nat.reduceSub, Array.replicate_succ, Array.replicate_zero, List.push_toArray, List.append_toArray, List.nil_append, List.cons_append]
    gi_wp2_with (refine ⟨trivial, ?_⟩; gi_at_call 71; refine (callsIn_wide.2 (HN.out _)).mono ?_; rintro e w' ⟨rfl, rfl⟩)
    refine ⟨.bool false, ?_, rfl, ((Below.refl _ w).alloc (Nat.le_refl _) _).alloc (by simp) _⟩
    simp [results, Tryd.f70, go_sem]
  · have g1 : decide ((k : Int) - 1 < 1) = false := by simp; omega
    have g2 : decide (5 < (k : Int) - 1) = true := by simp; omega
    refine callsIn_of_wp_marks Tryd.func70 rfl trivial ?_ rfl
    simp only [Tryd.ntmps70, List.size_toArray, List.length_cons, List.length_nil, Nat.reduceAdd, Nat.reduceSub, Array.replicate_succ, Array.replicate_zero, List.push_toArray, List.append_toArray, List.nil_append, List.cons_append]
    gi_wp2_with (refine ⟨trivial, ?_⟩; gi_at_call 71; refine (callsIn_wide.2 (HN.out _)).mono ?_; rintro e w' ⟨rfl, rfl⟩)
    refine ⟨.bool false, ?_, rfl, ((Below.refl _ w).alloc (Nat.le_refl _) _).alloc (by simp) _⟩
    simp [results, Tryd.f70, go_sem]

/-- IsIrreducible, at every number. -/
theorem isIrreducible_any (p : Int) (hl : -9223372036854775808 ≤ p) (hh : p ≤ 9223372036854775807) (w : World) :
    Calls Tryd.prog 70 #[.int .i64 p] w fun e W' => e = .returned (.bool (irrI p)) ∧ Below w.heap.size w W' := by
  by_cases h0 : 0 ≤ p
  · obtain ⟨n, rfl⟩ := Int.eq_ofNat_of_zero_le h0
    have e0 : ((n : Int) % 18446744073709551616).toNat = n := by omega
    by_cases h64 : n < 64
    · have hb : nb n ≤ 6 := nb_le_of_lt (by omega)
      have hi : irrI (n : Int) = irr n := by
        unfold irrI
        rw [decide_eq_true (p := ((n : Int) < 64)) (by omega)]
        by_cases hn : n = 0
        · subst hn; rfl
        · rw [decide_eq_true (p := (0 < (n : Int))) (by omega)]; simp
      rw [hi]
      rcases Nat.lt_or_ge (nb n) 2 with h2 | h2
      · rw [irr_false_of_nb (.inl h2)]
        exact callsIn_wide.1 (isIrreducible_no n hl hh (.inl (by rw [e0]; exact h2)) w)
      · have : nb n = 2 ∨ nb n = 3 ∨ nb n = 4 ∨ nb n = 5 ∨ nb n = 6 := by omega
        rcases this with h | h | h | h | h
        · rw [irr_d1 ⟨n, h64⟩ h]; exact callsIn_wide.1 (isIrreducible_1 n h64 h w)
        · rw [irr_d2 ⟨n, h64⟩ h]; exact callsIn_wide.1 (isIrreducible_2 n h64 h w)
        · rw [irr_d3 ⟨n, h64⟩ h]; exact callsIn_wide.1 (isIrreducible_3 n h64 h w)
        · rw [irr_d4 ⟨n, h64⟩ h]; exact callsIn_wide.1 (isIrreducible_4 n h64 h w)
        · rw [irr_d5 ⟨n, h64⟩ h]; exact callsIn_wide.1 (isIrreducible_5 n h64 h w)
    · have hi : irrI (n : Int) = false := by
        unfold irrI
        rw [decide_eq_false (p := ((n : Int) < 64)) (by omega)]; simp
      rw [hi]
      exact callsIn_wide.1 (isIrreducible_no n hl hh (.inr (by rw [e0]; exact nb_big (by omega))) w)
  · have hi : irrI p = false := by
      unfold irrI
      rw [decide_eq_false (p := (0 < p)) (by omega)]; simp
    rw [hi]
    exact callsIn_wide.1 (isIrreducible_no p hl hh (.inr (by have := nb_neg (p := p) (by omega) hl; omega)) w)

end Go.Proofs.YtejpjcdnhboooaaDoor
