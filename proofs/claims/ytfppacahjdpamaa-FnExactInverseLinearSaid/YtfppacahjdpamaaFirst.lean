/- The least element that passes a test: what the program's method returns. -/
import Derived.Test.YtfppacahjdpamaaElems
namespace Go.Proofs.Ytfppacahjdpamaa
open Go.RowKit Go.Shelf
attribute [local go_sem] Oper.semAt_some
set_option linter.unusedVariables false

/-- The least number below n that passes a test, and 0; or 0 and 6. -/
def FirstPost (t : Nat → Bool) (n : Nat) (e : Ending) : Prop :=
  (∃ k, k < n ∧ t k = true ∧ (∀ j, j < k → t j = false) ∧ e = .returned (.tuple #[.int .i64 (k : Int), .int .i64 0])) ∨
  ((∀ j, j < n → t j = false) ∧ e = .returned (.tuple #[.int .i64 0, .int .i64 6]))

set_option maxRecDepth 100000 in
set_option maxHeartbeats 4000000 in
theorem first_in (c m P n : Nat) (hF : Fld m P n) (w : World) (hC : Calc c m P n w) (pf : Nat) (lb : Array Value) (epf : ∀ args w, (callFunc pf args).run Try.prog w = .ok (.enter pf args) w) (t : Nat → Bool)
    (hT : ∀ W' : World, Below w.heap.size w W' → ∀ x, x < n → Calls Try.prog pf (#[.int .u8 (x : Int)] ++ lb) W' fun e w' => e = .returned (.bool (t x)) ∧ ∃ q, w' = W'.drewN q) :
    CallsIn Fence.wide 9 Try.prog 61 #[.pointer (some ⟨c, 0, none⟩), .func (.func pf) #[] lb] w fun e W' => FirstPost t n e ∧ Below w.heap.size w W' := by
  have hcl := hC.lt
  have h32 := hF.n32
  refine callsIn_of_wp_marks Try.func61 rfl trivial ?_ rfl
  simp only [Try.ntmps61, List.size_toArray, List.length_cons, List.length_nil, Nat.reduceAdd, Nat.reduceSub, Array.replicate_succ, Array.replicate_zero, List.push_toArray, List.append_toArray, List.nil_append, List.cons_append]
  gi_wp2_with (refine ⟨trivial, ?_⟩; gi_at_call 52; refine (callsIn_wide.2 (elements_any _ _ c rfl)).mono ?_; rintro e w' ⟨rfl, rfl⟩)
  have c0 := cell_new_l w (.func (.func pf) #[] lb) 90
  have c1 := cell_new_l (w.alloc (.cells #[.func (.func pf) #[] lb] 90)) (.int .i64 0) 2
  have c2 := cell_new_l ((w.alloc (.cells #[.func (.func pf) #[] lb] 90)).alloc (.cells #[.int .i64 0] 2)) (.int .i64 0) 2
  have c3 := cell_new_l (((w.alloc (.cells #[.func (.func pf) #[] lb] 90)).alloc (.cells #[.int .i64 0] 2)).alloc (.cells #[.int .i64 0] 2)) (.pointer (some ⟨c, 0, none⟩)) 68
  simp only [World.size_alloc] at c1 c2 c3
  have hB0 : Below w.heap.size w ((((w.alloc (.cells #[.func (.func pf) #[] lb] 90)).alloc (.cells #[.int .i64 0] 2)).alloc (.cells #[.int .i64 0] 2)).alloc (.cells #[.pointer (some ⟨c, 0, none⟩)] 68)) := ((((Below.refl _ w).alloc (Nat.le_refl _) _).alloc (by simp) _).alloc (by simp; omega) _).alloc (by simp; omega) _
  refine wpIn_rangeFunc_ownF (α := El n) rfl (by omega) (gf := 94) (lb := #[.pointer (some ⟨w.heap.size + 1 + 1 + 1, 0, none⟩)]) rfl trivial (enters_of Try.func94 (by kernel_rfl) rfl)
    (elements_stops m P n hF (w.heap.size + 1 + 1 + 1) c _ c3.1 (by simp) ((hB0.cell (p := ⟨c, 0, none⟩) hcl).trans hC.deg) (by simp; omega)) (fun _ _ => trivial) (fun _ _ _ _ _ _ _ _ => trivial) (Below.refl _ _) (fun _ => rfl)
    (fun pre W => ((∀ d ∈ pre, t d.1 = false) ∧ W.cell? ⟨w.heap.size, 0, none⟩ = some (.func (.func pf) #[] lb) ∧ (W.cell? ⟨w.heap.size + 1, 0, none⟩ = some (.int .i64 0) ∧ W.frozen? ⟨w.heap.size + 1, 0, none⟩ = false) ∧ W.cell? ⟨w.heap.size + 1 + 1, 0, none⟩ = some (.int .i64 0) ∧ W.frozen? ⟨w.heap.size + 1 + 1, 0, none⟩ = false) ∧ Below w.heap.size w W)
    (fun cc pre W => (cc = .ret ∧ ∃ (pre' : List (El n)) (d : El n), pre = pre' ++ [d] ∧ (∀ y ∈ pre', t y.1 = false) ∧ t d.1 = true ∧ W.cell? ⟨w.heap.size + 1, 0, none⟩ = some (.int .i64 d.1) ∧ W.cell? ⟨w.heap.size + 1 + 1, 0, none⟩ = some (.int .i64 0)) ∧ Below w.heap.size w W)
    (OwnFrom.and (Own.from (fun s A B row hs hg hr => ⟨hs.1, cell_kept hs.2.1 hg hr, ⟨cell_kept hs.2.2.1.1 hg hr, (frozen_kept hs.2.2.1.1 hg hr).trans hs.2.2.1.2⟩, cell_kept hs.2.2.2.1 hg hr, (frozen_kept hs.2.2.2.1 hg hr).trans hs.2.2.2.2⟩) _) (ownFrom_below (Nat.le_refl _) (by simp; omega)))
    (fun cc => OwnFrom.and (Own.from (fun s A B row hs hg hr => by
      obtain ⟨h1, pre', d, h2, h3, h4, h5, h6⟩ := hs
      exact ⟨h1, pre', d, h2, h3, h4, cell_kept h5 hg hr, cell_kept h6 hg hr⟩) _) (ownFrom_below (Nat.le_refl _) (by simp; omega)))
    ⟨⟨by simp, cell_alloc_l _ (cell_alloc_l _ (cell_alloc_l _ c0.1)), ⟨cell_alloc_l _ (cell_alloc_l _ c1.1), frozen_alloc_l _ (cell_alloc_l _ c1.1) (frozen_alloc_l _ c1.1 c1.2)⟩, cell_alloc_l _ c2.1, frozen_alloc_l _ c2.1 c2.2⟩, hB0⟩
    (fun x => { tmps := #[.pointer (some ⟨c, 0, none⟩), .func (.func pf) #[] lb, undef, .pointer (some ⟨w.heap.size, 0, none⟩), .pointer (some ⟨w.heap.size + 1, 0, none⟩), .pointer (some ⟨w.heap.size + 1 + 1, 0, none⟩), .int .u8 x.1, .pointer (some ⟨c, 0, none⟩), .func (.func 94) #[] #[.pointer (some ⟨w.heap.size + 1 + 1 + 1, 0, none⟩)], .int .u8 x.1, undef, undef, undef, undef, undef], defers := [] }) ?assign ?body ?done ?stop
  case assign =>
    intro l x W K hK
    gi_wp2
    exact hK
  case body =>
    rintro l pre x W ⟨⟨hpre, hcp, ⟨hc1, hf1⟩, hc2, hf2⟩, hB⟩ _
    gi_wp2_with fail
    refine ⟨trivial, ?_⟩
    refine (CallsIn.inRound l (callsIn_wide.2 (hT W hB x.1 x.2))).mono ?_
    rintro e w' ⟨rfl, q, rfl⟩
    have hko : KeepsOthers W (W.drewN q) := ⟨Nat.le_refl _, fun _ _ h _ => h⟩
    have hB2 := below_drewN hB q
    have hcp2 : (W.drewN q).cell? ⟨w.heap.size, 0, none⟩ = some (.func (.func pf) #[] lb) := hcp
    have hc12 : (W.drewN q).cell? ⟨w.heap.size + 1, 0, none⟩ = some (.int .i64 0) := hc1
    have hf12 : (W.drewN q).frozen? ⟨w.heap.size + 1, 0, none⟩ = false := hf1
    have hc22 : (W.drewN q).cell? ⟨w.heap.size + 1 + 1, 0, none⟩ = some (.int .i64 0) := hc2
    have hf22 : (W.drewN q).frozen? ⟨w.heap.size + 1 + 1, 0, none⟩ = false := hf2
    generalize W.drewN q = W2 at hko hB2 hcp2 hc12 hf12 hc22 hf22 ⊢
    clear hcp hc1 hf1 hc2 hf2 hB
    have hx := x.2
    cases ht : t x.1 with
    | false =>
      have HT := Lib.hid ht
      clear ht
      gi_wp2
      exact ⟨hko, trivial, ⟨fun y hy => (List.mem_append.1 hy).elim (hpre y) (fun e => by simp at e; subst e; exact HT.out), hcp2, ⟨hc12, hf12⟩, hc22, hf22⟩, hB2⟩
    | true =>
      have HT := Lib.hid ht
      clear ht
      gi_wp2
      refine ⟨(hko.trans (KeepsOthers.setCell _ _ _)).trans (KeepsOthers.setCell _ _ _), ⟨rfl, pre, x, rfl, hpre, HT.out, ?_, ?_⟩, (hB2.setCell (p := ⟨w.heap.size + 1, 0, none⟩) (by simp) _).setCell (p := ⟨w.heap.size + 1 + 1, 0, none⟩) (by simp; omega) _⟩
      · rw [World.cell?_setCell_other _ ⟨w.heap.size + 1 + 1, 0, none⟩ ⟨w.heap.size + 1, 0, none⟩ _ (by simp)]
        exact World.cell?_setCell_same' _ _ _ (by rw [hc12]; rfl)
      · exact World.cell?_setCell_same' _ _ _ (by rw [World.cell?_setCell_other _ ⟨w.heap.size + 1, 0, none⟩ ⟨w.heap.size + 1 + 1, 0, none⟩ _ (by simp), hc22]; rfl)
  case done =>
    rintro D ys W hD rfl ⟨⟨hne, hcp, ⟨hc1, hf1⟩, hc2, hf2⟩, hB⟩ hK
    gi_wp2
    have hK' := ((KeepsOthers.setCell W ⟨w.heap.size + 1, 0, none⟩ (.int .i64 0)).trans (KeepsOthers.setCell _ ⟨w.heap.size + 1 + 1, 0, none⟩ (.int .i64 6))).same D _ hK rfl
    have d1 : ((W.setCell ⟨w.heap.size + 1, 0, none⟩ (.int .i64 0)).setCell ⟨w.heap.size + 1 + 1, 0, none⟩ (.int .i64 6)).cell? ⟨w.heap.size + 1, 0, none⟩ = some (.int .i64 0) := by
      rw [World.cell?_setCell_other _ ⟨w.heap.size + 1 + 1, 0, none⟩ ⟨w.heap.size + 1, 0, none⟩ _ (by simp)]
      exact World.cell?_setCell_same' _ _ _ (by rw [hc1]; rfl)
    have d2 : ((W.setCell ⟨w.heap.size + 1, 0, none⟩ (.int .i64 0)).setCell ⟨w.heap.size + 1 + 1, 0, none⟩ (.int .i64 6)).cell? ⟨w.heap.size + 1 + 1, 0, none⟩ = some (.int .i64 6) :=
      World.cell?_setCell_same' _ _ _ (by rw [World.cell?_setCell_other _ ⟨w.heap.size + 1, 0, none⟩ ⟨w.heap.size + 1 + 1, 0, none⟩ _ (by simp), hc2]; rfl)
    have hB2 := (hB.setCell (p := ⟨w.heap.size + 1, 0, none⟩) (by simp) (.int .i64 0)).setCell (p := ⟨w.heap.size + 1 + 1, 0, none⟩) (by simp; omega) (.int .i64 6)
    generalize (W.setCell ⟨w.heap.size + 1, 0, none⟩ (.int .i64 0)).setCell ⟨w.heap.size + 1 + 1, 0, none⟩ (.int .i64 6) = W3 at hK' d1 d2 hB2 ⊢
    refine ⟨by simp, .inl ⟨_, _, rfl, run_takeDeferred hK', ?_⟩⟩
    have k1 := cell_kept d1 (grownBy_putObj' _ D (.deferred none)) (fun r e => by cases e; exact ⟨_, hK', rfl⟩)
    have k2 := cell_kept d2 (grownBy_putObj' _ D (.deferred none)) (fun r e => by cases e; exact ⟨_, hK', rfl⟩)
    refine ⟨.tuple #[.int .i64 0, .int .i64 6], ?_, .inr ⟨fun j hj => hne ⟨j, hj⟩ (elems_mem n (Nat.le_refl _) _ hj), rfl⟩, hB2.trans (belowK_b (w := w) (Nat.le_refl _) _ D _ _ (by simp at hD; omega) hK' rfl rfl)⟩
    simp [results, Try.f61, go_sem, k1, k2]
  case stop =>
    rintro D cc pre W hD hpre ⟨⟨rfl, pre', d, hpd, hne, htd, d1, d2⟩, hB⟩ hK
    gi_wp2
    refine ⟨by simp, .inl ⟨_, _, rfl, run_takeDeferred hK, ?_⟩⟩
    have k1 := cell_kept d1 (grownBy_putObj' _ D (.deferred none)) (fun r e => by cases e; exact ⟨_, hK, rfl⟩)
    have k2 := cell_kept d2 (grownBy_putObj' _ D (.deferred none)) (fun r e => by cases e; exact ⟨_, hK, rfl⟩)
    obtain ⟨k, hkn, hpk⟩ := hpre
    obtain ⟨e1, e2⟩ := elems_last hkn (hpd.symm.trans hpk)
    refine ⟨.tuple #[.int .i64 d.1, .int .i64 0], ?_, .inl ⟨d.1, d.2, htd, fun j hj => hne ⟨j, by have := d.2; omega⟩ (by rw [e1]; exact elems_mem d.1 (by have := d.2; omega) _ hj), rfl⟩, hB.trans (belowK_b (w := w) (Nat.le_refl _) W D _ _ (by simp at hD; omega) hK rfl rfl)⟩
    simp [results, Try.f61, go_sem, k1, k2]
end Go.Proofs.Ytfppacahjdpamaa
