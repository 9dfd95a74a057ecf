/- The least normal element: what the model's and the program's function return. -/
import Derived.Test.YtilghmfffdmnjaaQuo
import Derived.Test.YtilghmfffdmnjaaConj
import Derived.Test.YtilghmfffdmnjaaBasS
import Derived.Test.YtilghmfffdmnjaaBasI
import Derived.Test.YtilghmfffdmnjaaHeld2
import Derived.Test.YtilghmfffdmnjaaArg
import Derived.Deep.RegionLaw
import Derived.RangeFuncBox
namespace Go.Proofs.Ytilghmfffdmnjaa
open Go.RowKit Go.Shelf Go.Joins
attribute [local go_sem] Oper.semAt_some
set_option linter.unusedVariables false
set_option linter.unusedSimpArgs false

set_option maxRecDepth 100000 in
set_option maxHeartbeats 4000000 in
theorem first_in2 (c m P n : Nat) (hF : Fld m P n) (w : World) (hC : Calc c m P n w) (pf : Nat) (lb : Array Value) (epf : ∀ args w, (callFunc pf args).run Try.prog w = .ok (.enter pf args) w) (t : Nat → Bool)
    (hT : ∀ W' : World, Below w.heap.size w W' → ∀ x, x < n → Calls Try.prog pf (#[.int .u8 (x : Int)] ++ lb) W' fun e w' => e = .returned (.bool (t x)) ∧ Below W'.heap.size W' w') :
    CallsIn Fence.wide 9 Try.prog 51 #[.pointer (some ⟨c, 0, none⟩), .func (.func pf) #[] lb] w fun e W' => FirstPost t n e ∧ Below w.heap.size w W' := by
  have hcl := hC.lt
  have h32 := hF.n32
  refine callsIn_of_wp_marks Try.func51 rfl trivial ?_ rfl
  simp only [Try.ntmps51, List.size_toArray, List.length_cons, List.length_nil, Nat.reduceAdd, Nat.reduceSub, Array.replicate_succ, Array.replicate_zero, List.push_toArray, List.append_toArray, List.nil_append, List.cons_append]
  gi_wp2_with (refine ⟨trivial, ?_⟩; gi_at_call 91; refine (callsIn_wide.2 (elements_any _ _ c rfl)).mono ?_; rintro e w' ⟨rfl, rfl⟩)
  have c0 := cell_new_l w (.func (.func pf) #[] lb) 81
  have c1 := cell_new_l (w.alloc (.cells #[.func (.func pf) #[] lb] 81)) (.int .i64 0) 2
  have c2 := cell_new_l ((w.alloc (.cells #[.func (.func pf) #[] lb] 81)).alloc (.cells #[.int .i64 0] 2)) (.int .i64 0) 2
  have c3 := cell_new_l (((w.alloc (.cells #[.func (.func pf) #[] lb] 81)).alloc (.cells #[.int .i64 0] 2)).alloc (.cells #[.int .i64 0] 2)) (.pointer (some ⟨c, 0, none⟩)) 72
  simp only [World.size_alloc] at c1 c2 c3
  have hB0 : Below w.heap.size w ((((w.alloc (.cells #[.func (.func pf) #[] lb] 81)).alloc (.cells #[.int .i64 0] 2)).alloc (.cells #[.int .i64 0] 2)).alloc (.cells #[.pointer (some ⟨c, 0, none⟩)] 72)) := ((((Below.refl _ w).alloc (Nat.le_refl _) _).alloc (by simp) _).alloc (by simp; omega) _).alloc (by simp; omega) _
  refine wpIn_rangeFunc_ownF (α := El n) rfl (by omega) (gf := 117) (lb := #[.pointer (some ⟨w.heap.size + 1 + 1 + 1, 0, none⟩)]) rfl trivial (enters_of Try.func117 (by kernel_rfl) rfl)
    (elements_stops m P n hF (w.heap.size + 1 + 1 + 1) c _ c3.1 (by simp) ((hB0.cell (p := ⟨c, 0, none⟩) hcl).trans hC.deg) (by simp; omega)) (fun _ _ => trivial) (fun _ _ _ _ _ _ _ _ => trivial) (Below.refl _ _) (fun _ => rfl)
    (fun pre W => ((∀ d ∈ pre, t d.1 = false) ∧ W.cell? ⟨w.heap.size, 0, none⟩ = some (.func (.func pf) #[] lb) ∧ (W.cell? ⟨w.heap.size + 1, 0, none⟩ = some (.int .i64 0) ∧ W.frozen? ⟨w.heap.size + 1, 0, none⟩ = false) ∧ W.cell? ⟨w.heap.size + 1 + 1, 0, none⟩ = some (.int .i64 0) ∧ W.frozen? ⟨w.heap.size + 1 + 1, 0, none⟩ = false) ∧ Below w.heap.size w W)
    (fun cc pre W => (cc = .ret ∧ ∃ (pre' : List (El n)) (d : El n), pre = pre' ++ [d] ∧ (∀ y ∈ pre', t y.1 = false) ∧ t d.1 = true ∧ W.cell? ⟨w.heap.size + 1, 0, none⟩ = some (.int .i64 d.1) ∧ W.cell? ⟨w.heap.size + 1 + 1, 0, none⟩ = some (.int .i64 0)) ∧ Below w.heap.size w W)
    (OwnFrom.and (Own.from (fun s A B row hs hg hr => ⟨hs.1, cell_kept hs.2.1 hg hr, ⟨cell_kept hs.2.2.1.1 hg hr, (frozen_kept hs.2.2.1.1 hg hr).trans hs.2.2.1.2⟩, cell_kept hs.2.2.2.1 hg hr, (frozen_kept hs.2.2.2.1 hg hr).trans hs.2.2.2.2⟩) _) (ownFrom_below (Nat.le_refl _) (by simp; omega)))
    (fun cc => OwnFrom.and (Own.from (fun s A B row hs hg hr => by
      obtain ⟨h1, pre', d, h2, h3, h4, h5, h6⟩ := hs
      exact ⟨h1, pre', d, h2, h3, h4, cell_kept h5 hg hr, cell_kept h6 hg hr⟩) _) (ownFrom_below (Nat.le_refl _) (by simp; omega)))
    ⟨⟨by simp, cell_alloc_l _ (cell_alloc_l _ (cell_alloc_l _ c0.1)), ⟨cell_alloc_l _ (cell_alloc_l _ c1.1), frozen_alloc_l _ (cell_alloc_l _ c1.1) (frozen_alloc_l _ c1.1 c1.2)⟩, cell_alloc_l _ c2.1, frozen_alloc_l _ c2.1 c2.2⟩, hB0⟩
    (fun x => { tmps := #[.pointer (some ⟨c, 0, none⟩), .func (.func pf) #[] lb, undef, .pointer (some ⟨w.heap.size, 0, none⟩), .pointer (some ⟨w.heap.size + 1, 0, none⟩), .pointer (some ⟨w.heap.size + 1 + 1, 0, none⟩), .int .u8 x.1, .pointer (some ⟨c, 0, none⟩), .func (.func 117) #[] #[.pointer (some ⟨w.heap.size + 1 + 1 + 1, 0, none⟩)], .int .u8 x.1, undef, undef, undef, undef, undef], defers := [] }) ?assign ?body ?done ?stop
  case assign =>
    intro l x W K hK
    gi_wp2
    exact hK
  case body =>
    rintro l pre x W ⟨⟨hpre, hcp, ⟨hc1, hf1⟩, hc2, hf2⟩, hB⟩ _
    gi_wp2_with fail
    refine ⟨trivial, ?_⟩
    refine (CallsIn.inRound l (callsIn_wide.2 (hT W hB x.1 x.2))).mono ?_
    rintro e W2 ⟨rfl, hbT⟩
    have hko : KeepsOthers W W2 := ⟨hbT.size, fun k o hk _ => (hbT.block k (Array.getElem?_eq_some_iff.1 hk).1).trans hk⟩
    have hB2 := hB.trans (hbT.mono hB.size)
    have hcp2 : W2.cell? ⟨w.heap.size, 0, none⟩ = some (.func (.func pf) #[] lb) := (hbT.cell (p := ⟨w.heap.size, 0, none⟩) (block_of_cell hcp)).trans hcp
    have hc12 : W2.cell? ⟨w.heap.size + 1, 0, none⟩ = some (.int .i64 0) := (hbT.cell (p := ⟨w.heap.size + 1, 0, none⟩) (block_of_cell hc1)).trans hc1
    have hf12 : W2.frozen? ⟨w.heap.size + 1, 0, none⟩ = false := (hbT.frozen (p := ⟨w.heap.size + 1, 0, none⟩) (block_of_cell hc1)).trans hf1
    have hc22 : W2.cell? ⟨w.heap.size + 1 + 1, 0, none⟩ = some (.int .i64 0) := (hbT.cell (p := ⟨w.heap.size + 1 + 1, 0, none⟩) (block_of_cell hc2)).trans hc2
    have hf22 : W2.frozen? ⟨w.heap.size + 1 + 1, 0, none⟩ = false := (hbT.frozen (p := ⟨w.heap.size + 1 + 1, 0, none⟩) (block_of_cell hc2)).trans hf2
    clear hbT
    clear hcp hc1 hf1 hc2 hf2 hB
    have hx := x.2
    cases ht : t x.1 with
    | false =>
      have HT := Lib.hid ht
      clear ht
      gi_wp2
      exact ⟨hko, trivial, ⟨fun y hy => (List.mem_append.1 hy).elim (hpre y) (fun e => by simp at e; subst e; exact HT.out), hcp2, ⟨hc12, hf12⟩, hc22, hf22⟩, hB2⟩
    | true =>
      have HT := Lib.hid ht
      clear ht
      gi_wp2
      refine ⟨(hko.trans (KeepsOthers.setCell _ _ _)).trans (KeepsOthers.setCell _ _ _), ⟨rfl, pre, x, rfl, hpre, HT.out, ?_, ?_⟩, (hB2.setCell (p := ⟨w.heap.size + 1, 0, none⟩) (by simp) _).setCell (p := ⟨w.heap.size + 1 + 1, 0, none⟩) (by simp; omega) _⟩
      · rw [World.cell?_setCell_other _ ⟨w.heap.size + 1 + 1, 0, none⟩ ⟨w.heap.size + 1, 0, none⟩ _ (by simp)]
        exact World.cell?_setCell_same' _ _ _ (by rw [hc12]; rfl)
      · exact World.cell?_setCell_same' _ _ _ (by rw [World.cell?_setCell_other _ ⟨w.heap.size + 1, 0, none⟩ ⟨w.heap.size + 1 + 1, 0, none⟩ _ (by simp), hc22]; rfl)
  case done =>
    rintro D ys W hD rfl ⟨⟨hne, hcp, ⟨hc1, hf1⟩, hc2, hf2⟩, hB⟩ hK
    gi_wp2
    have hK' := ((KeepsOthers.setCell W ⟨w.heap.size + 1, 0, none⟩ (.int .i64 0)).trans (KeepsOthers.setCell _ ⟨w.heap.size + 1 + 1, 0, none⟩ (.int .i64 6))).same D _ hK rfl
    have d1 : ((W.setCell ⟨w.heap.size + 1, 0, none⟩ (.int .i64 0)).setCell ⟨w.heap.size + 1 + 1, 0, none⟩ (.int .i64 6)).cell? ⟨w.heap.size + 1, 0, none⟩ = some (.int .i64 0) := by
      rw [World.cell?_setCell_other _ ⟨w.heap.size + 1 + 1, 0, none⟩ ⟨w.heap.size + 1, 0, none⟩ _ (by simp)]
      exact World.cell?_setCell_same' _ _ _ (by rw [hc1]; rfl)
    have d2 : ((W.setCell ⟨w.heap.size + 1, 0, none⟩ (.int .i64 0)).setCell ⟨w.heap.size + 1 + 1, 0, none⟩ (.int .i64 6)).cell? ⟨w.heap.size + 1 + 1, 0, none⟩ = some (.int .i64 6) :=
      World.cell?_setCell_same' _ _ _ (by rw [World.cell?_setCell_other _ ⟨w.heap.size + 1, 0, none⟩ ⟨w.heap.size + 1 + 1, 0, none⟩ _ (by simp), hc2]; rfl)
    have hB2 := (hB.setCell (p := ⟨w.heap.size + 1, 0, none⟩) (by simp) (.int .i64 0)).setCell (p := ⟨w.heap.size + 1 + 1, 0, none⟩) (by simp; omega) (.int .i64 6)
    generalize (W.setCell ⟨w.heap.size + 1, 0, none⟩ (.int .i64 0)).setCell ⟨w.heap.size + 1 + 1, 0, none⟩ (.int .i64 6) = W3 at hK' d1 d2 hB2 ⊢
    refine ⟨by simp, .inl ⟨_, _, rfl, run_takeDeferred hK', ?_⟩⟩
    have k1 := cell_kept d1 (grownBy_putObj' _ D (.deferred none)) (fun r e => by cases e; exact ⟨_, hK', rfl⟩)
    have k2 := cell_kept d2 (grownBy_putObj' _ D (.deferred none)) (fun r e => by cases e; exact ⟨_, hK', rfl⟩)
    refine ⟨.tuple #[.int .i64 0, .int .i64 6], ?_, .inr ⟨fun j hj => hne ⟨j, hj⟩ (elems_mem n (Nat.le_refl _) _ hj), rfl⟩, hB2.trans (belowK_b (w := w) (Nat.le_refl _) _ D _ _ (by simp at hD; omega) hK' rfl rfl)⟩
    simp [results, Try.f51, go_sem, k1, k2]
  case stop =>
    rintro D cc pre W hD hpre ⟨⟨rfl, pre', d, hpd, hne, htd, d1, d2⟩, hB⟩ hK
    gi_wp2
    refine ⟨by simp, .inl ⟨_, _, rfl, run_takeDeferred hK, ?_⟩⟩
    have k1 := cell_kept d1 (grownBy_putObj' _ D (.deferred none)) (fun r e => by cases e; exact ⟨_, hK, rfl⟩)
    have k2 := cell_kept d2 (grownBy_putObj' _ D (.deferred none)) (fun r e => by cases e; exact ⟨_, hK, rfl⟩)
    obtain ⟨k, hkn, hpk⟩ := hpre
    obtain ⟨e1, e2⟩ := elems_last hkn (hpd.symm.trans hpk)
    refine ⟨.tuple #[.int .i64 d.1, .int .i64 0], ?_, .inl ⟨d.1, d.2, htd, fun j hj => hne ⟨j, by have := d.2; omega⟩ (by rw [e1]; exact elems_mem d.1 (by have := d.2; omega) _ hj), rfl⟩, hB.trans (belowK_b (w := w) (Nat.le_refl _) W D _ _ (by simp at hD; omega) hK rfl rfl)⟩
    simp [results, Try.f51, go_sem, k1, k2]

/-- The first k conjugates. -/
def cj (P a k : Nat) : List Nat := (List.range k).map fun j => sq P a j
theorem cj_ints (P a k : Nat) : ints (cj P a k) = conjL P a k := by simp [ints, cj, conjL]
theorem cj_len (P a k : Nat) : (cj P a k).length = k := by simp [cj]
theorem cj_nth {P a k j : Nat} (hj : j < k) : nth (cj P a k) j = sq P a j := by simp [nth, cj, hj]
theorem cj_lt {m P n a : Nat} (hF : Fld m P n) (ha : a < n) (k j : Nat) : nth (cj P a k) j < n := by
  by_cases hj : j < k
  · rw [cj_nth hj]; exact sq_lt hF ha j
  · rw [nth, List.getD_eq_getElem?_getD, List.getElem?_eq_none (by rw [cj_len]; omega)]; have := hF.n2; simp; omega
/-- Whether an element is normal. -/
def nrm (P m a : Nat) : Bool := basB m (cj P a m)
theorem nrm_orb {m P n a r : Nat} (hF : Fld m P n) (ho : Orb P a r) (hrm : r ≤ m) : basB m (cj P a r) = nrm P m a := by
  by_cases e : r = m
  · rw [e]; rfl
  · rw [basB_len (by rw [cj_len]; exact e), nrm]
    have hr := ho.r1
    have h2 : (2 : Nat) ^ r < 2 ^ m := Nat.pow_lt_pow_right (by omega) (by omega)
    have h1 : (2 : Nat) ^ 0 < 2 ^ r := Nat.pow_lt_pow_right (by omega) (by omega)
    refine (basB_twice (a := 2 ^ 0) (b := 2 ^ r) h1 h2 ?_).symm
    rw [tms_pow, tms_pow, if_pos (by omega), if_pos (by omega), cj_nth (by omega), cj_nth (by omega), ho.back]; rfl
theorem nrm_zero {m P n : Nat} (hF : Fld m P n) : nrm P m 0 = false := by
  have hm := hF.m1
  have h0 : sq P 0 0 = 0 := rfl
  refine basB_no (b := 2 ^ 0) (by omega) (Nat.pow_lt_pow_right (by omega) (by omega)) ?_
  rw [tms_pow, if_pos (by omega), cj_nth (by omega), h0]
theorem nrm_all : ∀ P : Fin 64, irr P.val = true → (List.range 32).any (fun a => decide (a < 2 ^ (nb P.val - 1)) && nrm P.val (nb P.val - 1) a) = true := by decide +kernel
theorem nrm_min {m P n : Nat} (hF : Fld m P n) : ∃ g, 0 < g ∧ g < n ∧ nrm P m g = true ∧ ∀ j, j < g → nrm P m j = false := by
  have h1 := fld_nb hF.f
  have h2 := nrm_all ⟨P, hF.P64⟩ (fld_irr hF.f)
  simp only [h1, Nat.add_sub_cancel, hF.n] at h2
  obtain ⟨g, _, hg⟩ := List.any_eq_true.1 h2
  simp at hg
  have : ∀ k, (∃ g, g < k ∧ nrm P m g = true) → ∃ g, g < k ∧ nrm P m g = true ∧ ∀ j, j < g → nrm P m j = false := by
    intro k
    induction k with
    | zero => rintro ⟨g, h, _⟩; omega
    | succ k ih =>
      rintro ⟨g, h, hg⟩
      by_cases hx : ∃ g, g < k ∧ nrm P m g = true
      · obtain ⟨g, a, b, c⟩ := ih hx; exact ⟨g, by omega, b, c⟩
      · refine ⟨g, h, hg, fun j hj => ?_⟩
        cases e : nrm P m j with
        | false => rfl
        | true => exact absurd ⟨j, by omega, e⟩ hx
  obtain ⟨g, a, b, c⟩ := this n ⟨g, hg.1, hg.2⟩
  refine ⟨g, ?_, a, b, c⟩
  rcases Nat.eq_zero_or_pos g with e | e
  · subst e; rw [nrm_zero hF] at b; cases b
  · exact e
theorem Res.rlN {W : World} {B T : Nat} {v : Value} {L : List Nat} (h : Res W B T v (ints L)) : ∃ A n cap, v = .slice A n cap ∧ Rl W .i64 A n L ∧ n = L.length := by
  generalize hxs : ints L = xs at h
  cases h with
  | nil A cap =>
    have : L = [] := by cases L <;> simp_all [ints]
    subst this
    exact ⟨A, 0, cap, rfl, ⟨rfl, fun h => by omega⟩, rfl⟩
  | row g n cap xs h1 h2 h3 h4 h5 h6 h7 =>
    have hl : L.length = n := by rw [← h4, ← hxs, ints_length]
    exact ⟨_, n, cap, rfl, ⟨hl, fun h0 => ⟨g, rfl, by omega, fun j hj => by rw [h6 j hj, ← hxs, ints_get]⟩⟩, hl.symm⟩

set_option maxHeartbeats 400000 in
theorem specFirstNormal_A (d p : Int) (hf : fldI d p = false) (w : World) :
    Calls Try.prog 17 #[.agg #[.int .i64 d, .int .i64 p]] w fun e w' => e = .returned (.tuple #[.int .i64 0, .int .i64 1]) ∧ Below w.heap.size w w' := by
  have HF := Lib.hid hf
  clear hf
  go_enter Try.func17, Try.ntmps17
  go_wp2_with (go_at_call 47; refine (l01Ok_eq _ _ _ HF.out _).mono ?_; rintro e w1 ⟨rfl, hb⟩)
  go_ret2
  exact ⟨rfl, ((Below.refl _ w).alloc (Nat.le_refl _) _).trans (hb.mono (by simp))⟩

set_option maxHeartbeats 4000000 in
theorem specFirstNormal_C (m P n : Nat) (hF : Fld m P n) (g : Nat) (hg0 : 0 < g) (hgn : g < n) (hg : nrm P m g = true) (hmin : ∀ j, j < g → nrm P m j = false) (w : World) :
    Calls Try.prog 17 #[.agg #[.int .i64 m, .int .i64 P]] w fun e w' => e = .returned (.tuple #[.int .i64 g, .int .i64 0]) ∧ Below w.heap.size w w' := by
  have HF := Lib.hid (fldI_of hF.f)
  have HG := Lib.hid hg
  have HM := Lib.hid hmin
  clear hg hmin
  have h32 := hF.n32
  have hn2 := hF.n2
  have hm5 := hF.m5
  go_enter Try.func17, Try.ntmps17
  have h0 := FAt.start w m P 23
  go_wp2_with fail
  refine (l01Ok_eq _ _ _ HF.out _).mono ?_
  rintro e w1 ⟨rfl, hb1⟩
  have h1 := h0.next hb1
  clear hb1 h0
  go_wp2
  go_loopw [4] (fun i wr => ∃ j : Nat, 0 < j ∧ j ≤ g ∧ i = .int .i64 j ∧ FAt w m P wr) (fun i _ => n - (intOf i).toNat)
  case atStart => exact ⟨1, by omega, by omega, rfl, h1⟩
  case round =>
    obtain ⟨j, hj0, hj, rfl, hA'⟩ := hrel
    have hA := hA'.drew
    have hjn : j < n := by omega
    obtain ⟨r, hrm, ho⟩ := orb_some hF hjn
    have hnb := nrm_orb hF ho hrm
    have KC : Hid (∀ W : World, Calls Try.prog 49 #[.agg #[.int .i64 m, .int .i64 P], .int .i64 j] W fun e w' => ∃ v, e = .returned v ∧ Below W.heap.size W w' ∧ Res w' W.heap.size w'.heap.size v (ints (cj P j r))) := Lib.hid fun W => by
      rw [cj_ints]; exact l01Conjugates_any m P n hF j hjn r ho hrm W
    have KB : Hid (∀ (W : World) (A : Option Addr) (k cap : Nat), Rl W .i64 A k (cj P j r) → k = (cj P j r).length → Calls Try.prog 48 #[.agg #[.int .i64 m, .int .i64 P], .slice A k cap] W fun e w' => e = .returned (.bool (nrm P m j)) ∧ Below W.heap.size W w') := Lib.hid fun W A k cap hR hk => by
      rw [← hnb]; exact l01Basis_any m P n hF A k cap (cj P j r) (cj_lt hF hjn r) (by rw [hk, cj_len]; omega) W hR
    clear ho hnb hrm
    by_cases hjk : j < g
    · have hp := HM.out j hjk
      rw [hp] at KB
      clear hp
      go_wp2
      go_region_held3 (fun w' => w'.cell? ⟨w.heap.size, 0, none⟩ = some (.int .i64 m) ∧ w'.cell? ⟨w.heap.size, 1, none⟩ = some (.int .i64 P) ∧ FAt w m P w') (first | exact ⟨hA.c0, hA.c1, hA⟩ | exact ⟨by assumption, by assumption, by assumption⟩) (first | (go_at_call 49; refine (KC.out _).mono ?_; rintro e w1 ⟨v, rfl, hb1, hR⟩; obtain ⟨A3, n3, p3, rfl, hL3, hn3⟩ := hR.rlN; have HL3 := Lib.hid hL3; have HN3 := Lib.hid hn3; have k1 : FAt w m P w1 := FAt.next (by assumption) hb1; have q0 := k1.c0; have q1 := k1.c1; clear hb1 hR hL3 hn3) | (go_at_call 48; refine (KB.out _ _ _ _ HL3.out HN3.out).mono ?_; rintro e w2 ⟨rfl, hb2⟩; have k2 : FAt w m P w2 := FAt.next (by assumption) hb2; have q2 := k2.c0; have q3 := k2.c1; clear hb2))
      all_goals
        go_wp2
        go_roundw
        case rel => exact ⟨j + 1, by omega, by omega, by go_num, by assumption⟩
        case measure => simp [intOf]; omega
    · obtain rfl : j = g := by omega
      rw [HG.out] at KB
      go_wp2
      go_region_held3 (fun w' => w'.cell? ⟨w.heap.size, 0, none⟩ = some (.int .i64 m) ∧ w'.cell? ⟨w.heap.size, 1, none⟩ = some (.int .i64 P) ∧ FAt w m P w') (first | exact ⟨hA.c0, hA.c1, hA⟩ | exact ⟨by assumption, by assumption, by assumption⟩) (first | (go_at_call 49; refine (KC.out _).mono ?_; rintro e w1 ⟨v, rfl, hb1, hR⟩; obtain ⟨A3, n3, p3, rfl, hL3, hn3⟩ := hR.rlN; have HL3 := Lib.hid hL3; have HN3 := Lib.hid hn3; have k1 : FAt w m P w1 := FAt.next (by assumption) hb1; have q0 := k1.c0; have q1 := k1.c1; clear hb1 hR hL3 hn3) | (go_at_call 48; refine (KB.out _ _ _ _ HL3.out HN3.out).mono ?_; rintro e w2 ⟨rfl, hb2⟩; have k2 : FAt w m P w2 := FAt.next (by assumption) hb2; have q2 := k2.c0; have q3 := k2.c1; clear hb2))
      all_goals
        go_wp2
        go_ret2
        exact ⟨rfl, FAt.b (by assumption)⟩

set_option maxRecDepth 100000 in
set_option maxHeartbeats 6400000 in
theorem normal1_any (c m P n bc : Nat) (hF : Fld m P n) (x : Nat) (hx : x < n) (w : World) (hC : Calc c m P n w) (h1 : w.cell? ⟨bc, 0, none⟩ = some (.pointer (some ⟨c, 0, none⟩))) :
    Calls Try.prog 52 #[.int .u8 x, .pointer (some ⟨bc, 0, none⟩)] w fun e w' => e = .returned (.bool (nrm P m x)) ∧ Below w.heap.size w w' := by
  have h32 := hF.n32
  have hn2 := hF.n2
  have hm5 := hF.m5
  obtain ⟨r, hrm, ho⟩ := orb_some hF hx
  have hnb := nrm_orb hF ho hrm
  have KC : Hid (∀ W : World, Calc c m P n W → Calls Try.prog 54 #[.pointer (some ⟨c, 0, none⟩), .int .u8 x] W fun e w' => ∃ v, e = .returned v ∧ Below W.heap.size W w' ∧ Res w' W.heap.size w'.heap.size v (ints (cj P x r))) := Lib.hid fun W h => by
    rw [cj_ints]; exact conjugates_any c m P n hF x hx r ho hrm W h
  have KD : Hid (∀ (W : World) (A : Option Addr) (k cap : Nat), Calc c m P n W → Rl W .i64 A k (cj P x r) → k = (cj P x r).length → Calls Try.prog 53 #[.pointer (some ⟨c, 0, none⟩), .slice A k cap] W fun e w' => ∃ f : Nat → Nat, e = .returned (.tuple #[.agg (arrC f), .bool (nrm P m x)]) ∧ Below W.heap.size W w' ∧ True) := Lib.hid fun W A k cap h hR hk => by
    rw [← hnb]
    refine (coordinates_any c m P n hF A k cap (cj P x r) (cj_lt hF hx r) (by rw [hk, cj_len]; omega) W h hR).mono ?_
    rintro e w' ⟨f, he, hb, _⟩
    exact ⟨f, he, hb, trivial⟩
  have HC0 := Lib.hid (show Calc c m P n w.drew from ⟨hC.deg, hC.tab⟩)
  have hbl := block_of_cell h1
  generalize nrm P m x = res at KD ⊢
  obtain ⟨Φ, hΦ⟩ : ∃ Φ : World → Prop, Φ = fun W => W.cell? ⟨bc, 0, none⟩ = some (.pointer (some ⟨c, 0, none⟩)) ∧ w.heap.size ≤ W.heap.size := ⟨_, rfl⟩
  have F0 : Φ w.drew := by rw [hΦ]; exact ⟨h1, Nat.le_refl _⟩
  have CX : Hid (∀ W, Φ W → W.cell? ⟨bc, 0, none⟩ = some (.pointer (some ⟨c, 0, none⟩))) := Lib.hid fun W h => by rw [hΦ] at h; exact h.1
  have SP : Hid (∀ W W', Φ W → Below W.heap.size W W' → Φ W') := Lib.hid fun W W' h hb => by
    rw [hΦ] at h ⊢
    exact ⟨(hb.cell (p := ⟨bc, 0, none⟩) (block_of_cell h.1)).trans h.1, Nat.le_trans h.2 hb.size⟩
  have CO : Hid (∀ W W' q, Φ W → Only q W W' → q ≠ bc → Φ W') := Lib.hid fun W W' q h ho hq => by
    rw [hΦ] at h ⊢
    exact ⟨(ho.cell (p := ⟨bc, 0, none⟩) (Ne.symm hq)).trans h.1, by rw [ho.size]; exact h.2⟩
  have CS : Hid (∀ W, Φ W → W.heap.size ≠ bc) := Lib.hid fun W h => by rw [hΦ] at h; have := block_of_cell h.1; simp at this; omega
  clear hΦ ho hnb hrm hC
  go_enter Try.func52, Try.ntmps52
  go_wp2_with fail
  refine wp_region_S (n := 10) (S := Φ) (by kernel_rfl) (by kernel_rfl) F0 (fun G inv hS => ?_)
  clear F0
  refine wpAnyS_take (i := 0) (v := ?_) G inv hS (by decide) rfl (by kernel_rfl) (by kernel_rfl) (fun _ _ _ h => h) (Or.inl ⟨by kernel_rfl, fun W hW => ?_⟩) (fun inv => ?_)
  rotate_left
  · have z3 := CX.out _ hW
    go_simp
    try with_reducible rfl
  try simp only [Act.put, List.setIfInBounds_toArray, List.set_cons_zero, List.set_cons_succ]
  refine wpAnyS_take (i := 1) (v := ?_) G inv hS (by decide) rfl (by kernel_rfl) (by kernel_rfl) (fun _ _ _ h => h) (Or.inl ⟨by kernel_rfl, fun W hW => ?_⟩) (fun inv => ?_)
  rotate_left
  · have z3 := CX.out _ hW
    go_simp
    try with_reducible rfl
  try simp only [Act.put, List.setIfInBounds_toArray, List.set_cons_zero, List.set_cons_succ]
  refine wpAnyS_take (i := 2) (v := ?_) G inv hS (by decide) rfl (by kernel_rfl) (by kernel_rfl) (fun _ _ _ h => h) (Or.inl ⟨by kernel_rfl, fun W hW => ?_⟩) (fun inv => ?_)
  rotate_left
  · have z3 := CX.out _ hW
    go_simp
    try with_reducible rfl
  try simp only [Act.put, List.setIfInBounds_toArray, List.set_cons_zero, List.set_cons_succ]
  refine wpAnyS_two (i := 3) (j := 8) (by kernel_rfl) rfl rfl ?_ ?_
  · skip
    go_wp2_with (go_at_call 54; refine (KC.out _ HC0.out).mono ?_; rintro e w1 ⟨v, rfl, hb1, hR⟩)
    obtain ⟨A3, n3, p3, rfl, hL3, hn3⟩ := hR.rlN
    have HN3 := Lib.hid hn3; clear hR hn3
    have F1 : Φ w1 := SP.out _ _ hS hb1
    have HC1 := Lib.hid (HC0.out.below HC0.out.lt hb1)
    have HB1 := Lib.hid ((Below.refl _ w).drew.trans hb1)
    have HL3 := Lib.hid hL3
    clear hL3 hb1
    change (3 ≠ 10 → Φ w1) ∧ _
    refine ⟨fun _ => F1, ?_⟩
    have inv := HeadInv.setD (i := 3) inv (by kernel_rfl) (by decide)
    refine wpAnyS_two (i := 4) (j := 8) (by kernel_rfl) rfl rfl ?_ ?_
    · skip
      have hL4 := HL3.out
      go_wp2_with (go_at_call 53; refine (KD.out _ A3 n3 p3 HC1.out hL4 HN3.out).mono ?_; rintro e w2 ⟨f, rfl, hb2, -⟩)
      have F2 : Φ w2 := SP.out _ _ F1 hb2
      have HB2 := Lib.hid (HB1.out.trans (hb2.mono HB1.out.size))
      clear hb2 hL4
      change (4 ≠ 10 → Φ w2) ∧ _
      refine ⟨fun _ => F2, ?_⟩
      have inv := HeadInv.setD (i := 4) inv (by kernel_rfl) (by decide)
      refine wpAnyS_take (i := 5) (v := ?_) G inv F2 (by decide) rfl (by kernel_rfl) (by kernel_rfl) (fun _ _ _ h => h) (Or.inl ⟨by kernel_rfl, fun W hW => ?_⟩) (fun inv => ?_)
      rotate_left
      · have z3 := CX.out _ hW
        go_simp
        try with_reducible rfl
      try simp only [Act.put, List.setIfInBounds_toArray, List.set_cons_zero, List.set_cons_succ]
      refine wpAnyS_take (i := 6) (v := ?_) G inv F2 (by decide) rfl (by kernel_rfl) (by kernel_rfl) (fun _ _ _ h => h) (Or.inl ⟨by kernel_rfl, fun W hW => ?_⟩) (fun inv => ?_)
      rotate_left
      · have z3 := CX.out _ hW
        go_simp
        try with_reducible rfl
      try simp only [Act.put, List.setIfInBounds_toArray, List.set_cons_zero, List.set_cons_succ]
      refine wpAnyS_take (i := 7) (v := ?_) G inv F2 (by decide) rfl (by kernel_rfl) (by kernel_rfl) (fun _ _ _ h => h) (Or.inl ⟨by kernel_rfl, fun W hW => ?_⟩) (fun inv => ?_)
      rotate_left
      · have z3 := CX.out _ hW
        go_simp
        try with_reducible rfl
      try simp only [Act.put, List.setIfInBounds_toArray, List.set_cons_zero, List.set_cons_succ]
      refine wpAnyS_step (i := 8) (by kernel_rfl) rfl ?_
      go_wp2
      change (8 ≠ 10 → Φ _) ∧ _
      refine ⟨fun _ => SP.out _ _ F2 (below_alloc1 _ _), ?_⟩
      have inv := HeadInv.setD (i := 8) inv (by kernel_rfl) (by decide)
      refine wpAnyS_step (i := 9) (by kernel_rfl) rfl ?_
      refine arr_store rfl _ _ rfl w2.heap.size (fun _ => 0) f (by simp [Act.eval]) (by simp [Act.eval]) (AAt.start w2 (fun _ => 0) 77) ?_
      intro W9 HA9 HO9
      have F9 : Φ W9 := CO.out _ _ _ (SP.out _ _ F2 (below_alloc1 _ _)) HO9.out (CS.out _ F2)
      change (9 ≠ 10 → Φ W9) ∧ _
      refine ⟨fun _ => F9, ?_⟩
      have inv := HeadInv.setD (i := 9) inv (by kernel_rfl) (by decide)
      refine wpAnyS_step (i := 10) (by kernel_rfl) rfl ?_
      go_wp2
      refine ⟨fun h => absurd rfl h, ?_⟩
      refine wpAnyS_done (by kernel_rfl) ?_ _
      go_wp2
      go_ret
      exact ⟨rfl, HO9.out.below (HB2.out.trans ((below_alloc1 _ _).mono HB2.out.size)) HB2.out.size⟩
    · skip
      go_wp2
      change (8 ≠ 10 → Φ _) ∧ _
      have F2 := SP.out _ _ F1 (below_alloc1 w1 (.cells (arrC fun _ => 0) 77))
      refine ⟨fun _ => F2, ?_⟩
      have inv := HeadInv.setD (i := 8) inv (by kernel_rfl) (by decide)
      have hba := below_alloc1 w1 (.cells (arrC fun _ => 0) 77)
      have hA2 := AAt.start w1 (fun _ => 0) 77
      have hL4 := HL3.out.below hba
      have HC2 := Lib.hid (HC1.out.below HC1.out.lt hba)
      refine wpAnyS_step (i := 4) (by kernel_rfl) rfl ?_
      go_wp2_with (go_at_call 53; refine (KD.out _ A3 n3 p3 HC2.out hL4 HN3.out).mono ?_; rintro e w2 ⟨f, rfl, hb2, -⟩)
      have F3 : Φ w2 := SP.out _ _ F2 hb2
      have hA3 := hA2.below hb2
      have HB2 := Lib.hid ((HB1.out.trans (hba.mono HB1.out.size)).trans (hb2.mono (Nat.le_trans HB1.out.size hba.size)))
      clear hb2 hL4 hba
      change (4 ≠ 10 → Φ w2) ∧ _
      refine ⟨fun _ => F3, ?_⟩
      have inv := HeadInv.setD (i := 4) inv (by kernel_rfl) (by decide)
      refine wpAnyS_take (i := 5) (v := ?_) G inv F3 (by decide) rfl (by kernel_rfl) (by kernel_rfl) (fun _ _ _ h => h) (Or.inl ⟨by kernel_rfl, fun W hW => ?_⟩) (fun inv => ?_)
      rotate_left
      · have z3 := CX.out _ hW
        go_simp
        try with_reducible rfl
      try simp only [Act.put, List.setIfInBounds_toArray, List.set_cons_zero, List.set_cons_succ]
      refine wpAnyS_take (i := 6) (v := ?_) G inv F3 (by decide) rfl (by kernel_rfl) (by kernel_rfl) (fun _ _ _ h => h) (Or.inl ⟨by kernel_rfl, fun W hW => ?_⟩) (fun inv => ?_)
      rotate_left
      · have z3 := CX.out _ hW
        go_simp
        try with_reducible rfl
      try simp only [Act.put, List.setIfInBounds_toArray, List.set_cons_zero, List.set_cons_succ]
      refine wpAnyS_take (i := 7) (v := ?_) G inv F3 (by decide) rfl (by kernel_rfl) (by kernel_rfl) (fun _ _ _ h => h) (Or.inl ⟨by kernel_rfl, fun W hW => ?_⟩) (fun inv => ?_)
      rotate_left
      · have z3 := CX.out _ hW
        go_simp
        try with_reducible rfl
      try simp only [Act.put, List.setIfInBounds_toArray, List.set_cons_zero, List.set_cons_succ]
      refine wpAnyS_step (i := 9) (by kernel_rfl) rfl ?_
      refine arr_store rfl _ _ rfl w1.heap.size (fun _ => 0) f (by simp [Act.eval]) (by simp [Act.eval]) hA3 ?_
      intro W9 HA9 HO9
      have F9 : Φ W9 := CO.out _ _ _ F3 HO9.out (CS.out _ F1)
      change (9 ≠ 10 → Φ W9) ∧ _
      refine ⟨fun _ => F9, ?_⟩
      have inv := HeadInv.setD (i := 9) inv (by kernel_rfl) (by decide)
      refine wpAnyS_step (i := 10) (by kernel_rfl) rfl ?_
      go_wp2
      refine ⟨fun h => absurd rfl h, ?_⟩
      refine wpAnyS_done (by kernel_rfl) ?_ _
      go_wp2
      go_ret
      exact ⟨rfl, HO9.out.below HB2.out HB1.out.size⟩
  · skip
    go_wp2
    change (8 ≠ 10 → Φ _) ∧ _
    have F1 := SP.out _ _ hS (below_alloc1 w.drew (.cells (arrC fun _ => 0) 77))
    refine ⟨fun _ => F1, ?_⟩
    have inv := HeadInv.setD (i := 8) inv (by kernel_rfl) (by decide)
    have hba := below_alloc1 w.drew (.cells (arrC fun _ => 0) 77)
    have hA1 := AAt.start w.drew (fun _ => 0) 77
    have HC1 := Lib.hid (HC0.out.below HC0.out.lt hba)
    have HB1 := Lib.hid ((Below.refl _ w).drew.trans hba)
    clear hba
    refine wpAnyS_step (i := 3) (by kernel_rfl) rfl ?_
    go_wp2_with (go_at_call 54; refine (KC.out _ HC1.out).mono ?_; rintro e w1 ⟨v, rfl, hb1, hR⟩)
    obtain ⟨A3, n3, p3, rfl, hL3, hn3⟩ := hR.rlN
    have HN3 := Lib.hid hn3; clear hR hn3
    have F2 : Φ w1 := SP.out _ _ F1 hb1
    have hA2 := hA1.below hb1
    have HC2 := Lib.hid (HC1.out.below HC1.out.lt hb1)
    have HB2 := Lib.hid (HB1.out.trans (hb1.mono HB1.out.size))
    have hL4 := hL3
    clear hL3 hb1 hA1
    change (3 ≠ 10 → Φ w1) ∧ _
    refine ⟨fun _ => F2, ?_⟩
    have inv := HeadInv.setD (i := 3) inv (by kernel_rfl) (by decide)
    refine wpAnyS_step (i := 4) (by kernel_rfl) rfl ?_
    go_wp2_with (go_at_call 53; refine (KD.out _ A3 n3 p3 HC2.out hL4 HN3.out).mono ?_; rintro e w2 ⟨f, rfl, hb2, -⟩)
    have F3 : Φ w2 := SP.out _ _ F2 hb2
    have hA3 := hA2.below hb2
    have HB3 := Lib.hid (HB2.out.trans (hb2.mono HB2.out.size))
    clear hb2 hL4 hA2
    change (4 ≠ 10 → Φ w2) ∧ _
    refine ⟨fun _ => F3, ?_⟩
    have inv := HeadInv.setD (i := 4) inv (by kernel_rfl) (by decide)
    refine wpAnyS_take (i := 5) (v := ?_) G inv F3 (by decide) rfl (by kernel_rfl) (by kernel_rfl) (fun _ _ _ h => h) (Or.inl ⟨by kernel_rfl, fun W hW => ?_⟩) (fun inv => ?_)
    rotate_left
    · have z3 := CX.out _ hW
      go_simp
      try with_reducible rfl
    try simp only [Act.put, List.setIfInBounds_toArray, List.set_cons_zero, List.set_cons_succ]
    refine wpAnyS_take (i := 6) (v := ?_) G inv F3 (by decide) rfl (by kernel_rfl) (by kernel_rfl) (fun _ _ _ h => h) (Or.inl ⟨by kernel_rfl, fun W hW => ?_⟩) (fun inv => ?_)
    rotate_left
    · have z3 := CX.out _ hW
      go_simp
      try with_reducible rfl
    try simp only [Act.put, List.setIfInBounds_toArray, List.set_cons_zero, List.set_cons_succ]
    refine wpAnyS_take (i := 7) (v := ?_) G inv F3 (by decide) rfl (by kernel_rfl) (by kernel_rfl) (fun _ _ _ h => h) (Or.inl ⟨by kernel_rfl, fun W hW => ?_⟩) (fun inv => ?_)
    rotate_left
    · have z3 := CX.out _ hW
      go_simp
      try with_reducible rfl
    try simp only [Act.put, List.setIfInBounds_toArray, List.set_cons_zero, List.set_cons_succ]
    refine wpAnyS_step (i := 9) (by kernel_rfl) rfl ?_
    refine arr_store rfl _ _ rfl w.drew.heap.size (fun _ => 0) f (by simp [Act.eval]) (by simp [Act.eval]) hA3 ?_
    intro W9 HA9 HO9
    have F9 : Φ W9 := CO.out _ _ _ F3 HO9.out (CS.out _ hS)
    change (9 ≠ 10 → Φ W9) ∧ _
    refine ⟨fun _ => F9, ?_⟩
    have inv := HeadInv.setD (i := 9) inv (by kernel_rfl) (by decide)
    refine wpAnyS_step (i := 10) (by kernel_rfl) rfl ?_
    go_wp2
    refine ⟨fun h => absurd rfl h, ?_⟩
    refine wpAnyS_done (by kernel_rfl) ?_ _
    go_wp2
    go_ret
    exact ⟨rfl, HO9.out.below HB3.out (Nat.le_refl _)⟩

set_option maxHeartbeats 400000 in
theorem implFirstNormal_A (d p : Int) (hf : fldI d p = false) (hl : -9223372036854775808 ≤ p) (hh : p ≤ 9223372036854775807) (w : World) :
    Calls Try.prog 19 #[.agg #[.int .i64 d, .int .i64 p]] w fun e w' => e = .returned (.tuple #[.int .i64 0, .int .i64 1]) ∧ Below w.heap.size w w' := by
  have HF := Lib.hid hf
  clear hf
  go_enter Try.func19, Try.ntmps19
  go_wp2_with fail
  refine (calculatorFor_invalid _ _ HF.out hl hh _ _).mono ?_
  rintro e w1 ⟨rfl, hb⟩
  have hB := ((Below.refl _ w).alloc (Nat.le_refl _) (.cells #[.int .i64 d, .int .i64 p] 23)).trans (hb.mono (by simp))
  have hz : w.heap.size ≤ w1.heap.size := hB.size
  clear hb
  go_wp2
  go_ret2
  exact ⟨rfl, hB.alloc hz _⟩

set_option maxHeartbeats 1600000 in
theorem implFirstNormal_C (m P n : Nat) (hF : Fld m P n) (g : Nat) (hg0 : 0 < g) (hgn : g < n) (hg : nrm P m g = true) (hmin : ∀ j, j < g → nrm P m j = false) (w : World) :
    Calls Try.prog 19 #[.agg #[.int .i64 m, .int .i64 P]] w fun e w' => e = .returned (.tuple #[.int .i64 g, .int .i64 0]) ∧ Below w.heap.size w w' := by
  have HG := Lib.hid hg
  have HM := Lib.hid hmin
  clear hg hmin
  have hmf : ∀ (fn : Fn) (first cap : Array Value) (w : World), (Instr.makeFunc fn first cap).run Try.prog w = .ok (.func fn first cap) w := fun _ _ _ _ => rfl
  go_enter Try.func19, Try.ntmps19
  go_wp2_with fail
  refine (calculatorFor_none _ _ _ hF _).mono ?_
  rintro e w1 ⟨c, rfl, hb1, hC, hc⟩
  have hB := ((Below.refl _ w).alloc (Nat.le_refl _) (.cells #[.int .i64 m, .int .i64 P] 23)).trans (hb1.mono (by simp))
  have hz : w.heap.size ≤ w1.heap.size := hB.size
  have hcl := hC.lt
  clear hb1 hc
  go_wp2_with fail
  have hC2 := hC.below hcl ((Below.refl _ w1).alloc (Nat.le_refl _) (.cells #[.pointer (some ⟨c, 0, none⟩)] 72))
  have hbc : (w1.alloc (.cells #[.pointer (some ⟨c, 0, none⟩)] 72)).cell? ⟨w1.heap.size, 0, none⟩ = some (.pointer (some ⟨c, 0, none⟩)) := by simp
  have hB2 := hB.alloc hz (.cells #[.pointer (some ⟨c, 0, none⟩)] 72)
  have hz2 : w1.heap.size + 1 = (w1.alloc (.cells #[.pointer (some ⟨c, 0, none⟩)] 72)).heap.size := by simp
  generalize hbce : w1.heap.size = bc at hbc hz hz2 hcl ⊢
  generalize w1.alloc (.cells #[.pointer (some ⟨c, 0, none⟩)] 72) = W at hC2 hbc hB2 hz2 ⊢
  refine (callsIn_wide.1 (first_in2 c m P n hF W hC2 52 #[.pointer (some ⟨bc, 0, none⟩)] (enters_of Try.func52 (by kernel_rfl) rfl) (nrm P m) (fun W' hW x hx => normal1_any c m P n bc hF x hx W' (hC2.below hC2.lt hW) ((hW.cell (p := ⟨bc, 0, none⟩) (by show bc < _; omega)).trans hbc)))).mono ?_
  rintro e w2 ⟨hp, hb2⟩
  have hB3 := hB2.trans (hb2.mono (by omega))
  clear hb2 hbce
  have hgT : nrm P m g = true := HG.out
  rcases hp with ⟨k, hk, ht, hmin, rfl⟩ | ⟨hno, rfl⟩
  · have hkg : k = g := by
      rcases Nat.lt_trichotomy k g with h | h | h
      · have := HM.out k h; rw [ht] at this; cases this
      · exact h
      · have := hmin g h; rw [hgT] at this; cases this
    subst hkg
    clear ht hmin hgT
    go_wp2
    go_ret2
    exact ⟨rfl, hB3⟩
  · exfalso
    have h3 := hno g hgn
    rw [hgT] at h3
    cases h3
end Go.Proofs.Ytilghmfffdmnjaa
