/- The program's iterator over the elements of a field, and the least element that passes a test. · The least element that passes a test: what the program's method returns. · Quotients and roots by the program's methods. -/
import Derived.Test.YtlchelaohiojiaaMakeArgs
import Derived.RangeFuncFrom
import Derived.Test.YtlchelaohiojiaaSqr
import Derived.Test.YtlchelaohiojiaaDivPure
namespace Go.Proofs.Ytlchelaohiojiaa
open Go.RowKit Go.Shelf
attribute [local go_sem] Oper.semAt_some
set_option linter.unusedVariables false

/-- The elements, as many as k of them. -/
abbrev El (n : Nat) := { x : Nat // x < n }
def elems (n : Nat) : Nat → List (El n)
  | 0 => []
  | k + 1 => if hk : k < n then elems n k ++ [⟨k, hk⟩] else elems n k
theorem elems_succ {n k : Nat} (hk : k < n) : elems n (k + 1) = elems n k ++ [⟨k, hk⟩] := by simp [elems, hk]
theorem elems_length {n : Nat} : ∀ k, k ≤ n → (elems n k).length = k := by
  intro k
  induction k with
  | zero => intro _; rfl
  | succ k ih => intro hk; rw [elems_succ (by omega)]; simp [ih (by omega)]
theorem elems_mem {n : Nat} : ∀ k, k ≤ n → ∀ d : El n, d.1 < k → d ∈ elems n k := by
  intro k
  induction k with
  | zero => intro _ d hd; omega
  | succ k ih =>
    intro hk d hd
    rw [elems_succ (by omega)]
    by_cases e : d.1 = k
    · exact List.mem_append.2 (.inr (by have : d = ⟨k, by omega⟩ := Subtype.ext e; simp [this]))
    · exact List.mem_append.2 (.inl (ih (by omega) d (by omega)))
theorem elems_last {n k : Nat} (hk : k ≤ n) {pre : List (El n)} {d : El n} (h : pre ++ [d] = elems n k) : pre = elems n d.1 ∧ d.1 + 1 = k := by
  cases k with
  | zero => simp [elems] at h
  | succ j =>
    rw [elems_succ (by omega)] at h
    obtain ⟨h1, h2⟩ := List.append_inj' h rfl
    have : d = ⟨j, by omega⟩ := by simpa using h2
    have e1 : d.1 = j := by rw [this]
    exact ⟨by rw [e1]; exact h1, by omega⟩

set_option maxRecDepth 100000 in
set_option maxHeartbeats 2000000 in
theorem elements_yields (m P n : Nat) (hF : Fld m P n) (l B c : Nat) (J Jx : List (El n) → World → Prop)
    (hY : ∀ pre x W, J pre W → pre.length < n → YieldAt Fence.wide 7 Try.prog l #[.int .u8 (x.1 : Int)] W fun e W' =>
      (e = .returned (.bool true) ∧ J (pre ++ [x]) W' ∧ True) ∨ (e = .returned (.bool false) ∧ Jx (pre ++ [x]) W'))
    (W : World) (hB : W.cell? ⟨B, 0, none⟩ = some (.pointer (some ⟨c, 0, none⟩))) (hD : W.cell? ⟨c, 0, none⟩ = some (.int .i64 m)) (h0 : J [] W) :
    CallsIn Fence.wide 8 Try.prog 174 #[.func (.yield l) #[] #[], .pointer (some ⟨B, 0, none⟩)] W fun e W' => (∃ v, e = .returned v) ∧
      ((∃ ys, ys = elems n n ∧ J ys W') ∨ (∃ pre, (∃ k, k ≤ n ∧ pre = elems n k) ∧ Jx pre W')) := by
  have h32 := hF.n32
  refine callsIn_of_wp Try.func174 rfl trivial ?_ rfl
  simp only [Try.ntmps174, List.size_toArray, List.length_cons, List.length_nil, Nat.reduceAdd, Nat.reduceSub, Array.replicate_succ, Array.replicate_zero, List.push_toArray, List.append_toArray, List.nil_append, List.cons_append]
  gi_wp2_with (refine ⟨trivial, ?_⟩; gi_at_call 114; refine (callsIn_wide.2 (size_any c m P n hF _ hD)).mono ?_; rintro e w' ⟨rfl, rfl⟩)
  gi_loopw [3, 6] (fun _ i wr => ∃ k : Nat, k ≤ n ∧ i = .int .i64 k ∧ J (elems n k) wr)
    (fun _ i _ => n - (intOf i).toNat)
  case atStart => exact ⟨0, Nat.zero_le _, rfl, h0⟩
  case round =>
    obtain ⟨k, hk, rfl, hJs⟩ := hrel
    by_cases hlt : k < n
    · obtain ⟨fn, tmps, assign, body, hy, hR⟩ := hY _ ⟨k, hlt⟩ wr hJs (by rw [elems_length k hk]; exact hlt)
      have HJ := Lib.hid (elems_succ (n := n) (k := k) hlt)
      have e1 : IntKind.u8.wrap (k : Int) = k := by rw [IntKind.wrap_u8']; omega
      dsimp only at hy
      gi_wp2
      refine hR.mono ?_
      rintro e W3 (⟨rfl, hJ3, hk3⟩ | ⟨rfl, hJx3⟩)
      · gi_wp2
        go_roundw
        case rel => exact ⟨k + 1, by omega, by go_num, by rw [HJ.out]; exact hJ3⟩
        case measure => simp [intOf]; omega
      · gi_wp2
        refine bodyPost_ret (results_none rfl _ _ _) rfl ?_
        exact ⟨⟨_, rfl⟩, .inr ⟨_, ⟨k + 1, by omega, HJ.out.symm⟩, hJx3⟩⟩
    · obtain rfl : k = n := by omega
      gi_wp2
      go_end0
      exact ⟨⟨_, rfl⟩, .inl ⟨_, rfl, hJs⟩⟩

theorem elements_stops (m P n : Nat) (hF : Fld m P n) (B c : Nat) (w : World) (hB : w.cell? ⟨B, 0, none⟩ = some (.pointer (some ⟨c, 0, none⟩))) (hlt : B < w.heap.size) (hD : w.cell? ⟨c, 0, none⟩ = some (.int .i64 m)) (hc : c < w.heap.size) :
    SeqStopsK Fence.wide 8 Try.prog 174 #[.pointer (some ⟨B, 0, none⟩)] (fun x : El n => #[.int .u8 (x.1 : Int)]) (fun _ _ => True) (fun ys => ys = elems n n) (fun pre => ∃ k, k ≤ n ∧ pre = elems n k) n w :=
  fun l J Jx W hW _ _ hY h0 => elements_yields m P n hF l B c J Jx hY W ((hW.cell (p := ⟨B, 0, none⟩) hlt).trans hB) ((hW.cell (p := ⟨c, 0, none⟩) hc).trans hD) h0

set_option maxHeartbeats 400000 in
theorem elements_any (v : Value) (w : World) (c : Nat) (hv : v = .pointer (some ⟨c, 0, none⟩)) :
    Calls Try.prog 158 #[.pointer (some ⟨c, 0, none⟩)] w fun e w' => e = .returned (.func (.func 174) #[] #[.pointer (some ⟨w.heap.size, 0, none⟩)]) ∧ w.alloc (.cells #[.pointer (some ⟨c, 0, none⟩)] 83) = w' := by
  have hmf : ∀ (fn : Fn) (first cap : Array Value) (w : World), (Instr.makeFunc fn first cap).run Try.prog w = .ok (.func fn first cap) w := fun _ _ _ _ => rfl
  go_enter Try.func158, Try.ntmps158
  go_wp2
  go_ret
  exact ⟨rfl, rfl⟩
end Go.Proofs.Ytlchelaohiojiaa
namespace Go.Proofs.Ytlchelaohiojiaa
open Go.RowKit Go.Shelf
attribute [local go_sem] Oper.semAt_some
set_option linter.unusedVariables false

/-- The least number below n that passes a test, and 0; or 0 and 6. -/
def FirstPost (t : Nat → Bool) (n : Nat) (e : Ending) : Prop :=
  (∃ k, k < n ∧ t k = true ∧ (∀ j, j < k → t j = false) ∧ e = .returned (.tuple #[.int .i64 (k : Int), .int .i64 0])) ∨
  ((∀ j, j < n → t j = false) ∧ e = .returned (.tuple #[.int .i64 0, .int .i64 6]))

set_option maxRecDepth 100000 in
set_option maxHeartbeats 4000000 in
theorem first_in (c m P n : Nat) (hF : Fld m P n) (w : World) (hC : Calc c m P n w) (pf : Nat) (lb : Array Value) (epf : ∀ args w, (callFunc pf args).run Try.prog w = .ok (.enter pf args) w) (t : Nat → Bool)
    (hT : ∀ W' : World, Below w.heap.size w W' → ∀ x, x < n → Calls Try.prog pf (#[.int .u8 (x : Int)] ++ lb) W' fun e w' => e = .returned (.bool (t x)) ∧ ∃ q, w' = W'.drewN q) :
    CallsIn Fence.wide 9 Try.prog 117 #[.pointer (some ⟨c, 0, none⟩), .func (.func pf) #[] lb] w fun e W' => FirstPost t n e ∧ Below w.heap.size w W' := by
  have hcl := hC.lt
  have h32 := hF.n32
  refine callsIn_of_wp_marks Try.func117 rfl trivial ?_ rfl
  simp only [Try.ntmps117, List.size_toArray, List.length_cons, List.length_nil, Nat.reduceAdd, Nat.reduceSub, Array.replicate_succ, Array.replicate_zero, List.push_toArray, List.append_toArray, List.nil_append, List.cons_append]
  gi_wp2_with (refine ⟨trivial, ?_⟩; gi_at_call 158; refine (callsIn_wide.2 (elements_any _ _ c rfl)).mono ?_; rintro e w' ⟨rfl, rfl⟩)
  have c0 := cell_new_l w (.func (.func pf) #[] lb) 151
  have c1 := cell_new_l (w.alloc (.cells #[.func (.func pf) #[] lb] 151)) (.int .i64 0) 2
  have c2 := cell_new_l ((w.alloc (.cells #[.func (.func pf) #[] lb] 151)).alloc (.cells #[.int .i64 0] 2)) (.int .i64 0) 2
  have c3 := cell_new_l (((w.alloc (.cells #[.func (.func pf) #[] lb] 151)).alloc (.cells #[.int .i64 0] 2)).alloc (.cells #[.int .i64 0] 2)) (.pointer (some ⟨c, 0, none⟩)) 83
  simp only [World.size_alloc] at c1 c2 c3
  have hB0 : Below w.heap.size w ((((w.alloc (.cells #[.func (.func pf) #[] lb] 151)).alloc (.cells #[.int .i64 0] 2)).alloc (.cells #[.int .i64 0] 2)).alloc (.cells #[.pointer (some ⟨c, 0, none⟩)] 83)) := ((((Below.refl _ w).alloc (Nat.le_refl _) _).alloc (by simp) _).alloc (by simp; omega) _).alloc (by simp; omega) _
  refine wpIn_rangeFunc_ownF (α := El n) rfl (by omega) (gf := 174) (lb := #[.pointer (some ⟨w.heap.size + 1 + 1 + 1, 0, none⟩)]) rfl trivial (enters_of Try.func174 (by kernel_rfl) rfl)
    (elements_stops m P n hF (w.heap.size + 1 + 1 + 1) c _ c3.1 (by simp) ((hB0.cell (p := ⟨c, 0, none⟩) hcl).trans hC.deg) (by simp; omega)) (fun _ _ => trivial) (fun _ _ _ _ _ _ _ _ => trivial) (Below.refl _ _) (fun _ => rfl)
    (fun pre W => ((∀ d ∈ pre, t d.1 = false) ∧ W.cell? ⟨w.heap.size, 0, none⟩ = some (.func (.func pf) #[] lb) ∧ (W.cell? ⟨w.heap.size + 1, 0, none⟩ = some (.int .i64 0) ∧ W.frozen? ⟨w.heap.size + 1, 0, none⟩ = false) ∧ W.cell? ⟨w.heap.size + 1 + 1, 0, none⟩ = some (.int .i64 0) ∧ W.frozen? ⟨w.heap.size + 1 + 1, 0, none⟩ = false) ∧ Below w.heap.size w W)
    (fun cc pre W => (cc = .ret ∧ ∃ (pre' : List (El n)) (d : El n), pre = pre' ++ [d] ∧ (∀ y ∈ pre', t y.1 = false) ∧ t d.1 = true ∧ W.cell? ⟨w.heap.size + 1, 0, none⟩ = some (.int .i64 d.1) ∧ W.cell? ⟨w.heap.size + 1 + 1, 0, none⟩ = some (.int .i64 0)) ∧ Below w.heap.size w W)
    (OwnFrom.and (Own.from (fun s A B row hs hg hr => ⟨hs.1, cell_kept hs.2.1 hg hr, ⟨cell_kept hs.2.2.1.1 hg hr, (frozen_kept hs.2.2.1.1 hg hr).trans hs.2.2.1.2⟩, cell_kept hs.2.2.2.1 hg hr, (frozen_kept hs.2.2.2.1 hg hr).trans hs.2.2.2.2⟩) _) (ownFrom_below (Nat.le_refl _) (by simp; omega)))
    (fun cc => OwnFrom.and (Own.from (fun s A B row hs hg hr => by
      obtain ⟨h1, pre', d, h2, h3, h4, h5, h6⟩ := hs
      exact ⟨h1, pre', d, h2, h3, h4, cell_kept h5 hg hr, cell_kept h6 hg hr⟩) _) (ownFrom_below (Nat.le_refl _) (by simp; omega)))
    ⟨⟨by simp, cell_alloc_l _ (cell_alloc_l _ (cell_alloc_l _ c0.1)), ⟨cell_alloc_l _ (cell_alloc_l _ c1.1), frozen_alloc_l _ (cell_alloc_l _ c1.1) (frozen_alloc_l _ c1.1 c1.2)⟩, cell_alloc_l _ c2.1, frozen_alloc_l _ c2.1 c2.2⟩, hB0⟩
    (fun x => { tmps := #[.pointer (some ⟨c, 0, none⟩), .func (.func pf) #[] lb, undef, .pointer (some ⟨w.heap.size, 0, none⟩), .pointer (some ⟨w.heap.size + 1, 0, none⟩), .pointer (some ⟨w.heap.size + 1 + 1, 0, none⟩), .int .u8 x.1, .pointer (some ⟨c, 0, none⟩), .func (.func 174) #[] #[.pointer (some ⟨w.heap.size + 1 + 1 + 1, 0, none⟩)], .int .u8 x.1, undef, undef, undef, undef, undef], defers := [] }) ?assign ?body ?done ?stop
  case assign =>
    intro l x W K hK
    gi_wp2
    exact hK
  case body =>
    rintro l pre x W ⟨⟨hpre, hcp, ⟨hc1, hf1⟩, hc2, hf2⟩, hB⟩ _
    gi_wp2_with fail
    refine ⟨trivial, ?_⟩
    refine (CallsIn.inRound l (callsIn_wide.2 (hT W hB x.1 x.2))).mono ?_
    rintro e w' ⟨rfl, q, rfl⟩
    have hko : KeepsOthers W (W.drewN q) := ⟨Nat.le_refl _, fun _ _ h _ => h⟩
    have hB2 := below_drewN hB q
    have hcp2 : (W.drewN q).cell? ⟨w.heap.size, 0, none⟩ = some (.func (.func pf) #[] lb) := hcp
    have hc12 : (W.drewN q).cell? ⟨w.heap.size + 1, 0, none⟩ = some (.int .i64 0) := hc1
    have hf12 : (W.drewN q).frozen? ⟨w.heap.size + 1, 0, none⟩ = false := hf1
    have hc22 : (W.drewN q).cell? ⟨w.heap.size + 1 + 1, 0, none⟩ = some (.int .i64 0) := hc2
    have hf22 : (W.drewN q).frozen? ⟨w.heap.size + 1 + 1, 0, none⟩ = false := hf2
    generalize W.drewN q = W2 at hko hB2 hcp2 hc12 hf12 hc22 hf22 ⊢
    clear hcp hc1 hf1 hc2 hf2 hB
    have hx := x.2
    cases ht : t x.1 with
    | false =>
      have HT := Lib.hid ht
      clear ht
      gi_wp2
      exact ⟨hko, trivial, ⟨fun y hy => (List.mem_append.1 hy).elim (hpre y) (fun e => by simp at e; subst e; exact HT.out), hcp2, ⟨hc12, hf12⟩, hc22, hf22⟩, hB2⟩
    | true =>
      have HT := Lib.hid ht
      clear ht
      gi_wp2
      refine ⟨(hko.trans (KeepsOthers.setCell _ _ _)).trans (KeepsOthers.setCell _ _ _), ⟨rfl, pre, x, rfl, hpre, HT.out, ?_, ?_⟩, (hB2.setCell (p := ⟨w.heap.size + 1, 0, none⟩) (by simp) _).setCell (p := ⟨w.heap.size + 1 + 1, 0, none⟩) (by simp; omega) _⟩
      · rw [World.cell?_setCell_other _ ⟨w.heap.size + 1 + 1, 0, none⟩ ⟨w.heap.size + 1, 0, none⟩ _ (by simp)]
        exact World.cell?_setCell_same' _ _ _ (by rw [hc12]; rfl)
      · exact World.cell?_setCell_same' _ _ _ (by rw [World.cell?_setCell_other _ ⟨w.heap.size + 1, 0, none⟩ ⟨w.heap.size + 1 + 1, 0, none⟩ _ (by simp), hc22]; rfl)
  case done =>
    rintro D ys W hD rfl ⟨⟨hne, hcp, ⟨hc1, hf1⟩, hc2, hf2⟩, hB⟩ hK
    gi_wp2
    have hK' := ((KeepsOthers.setCell W ⟨w.heap.size + 1, 0, none⟩ (.int .i64 0)).trans (KeepsOthers.setCell _ ⟨w.heap.size + 1 + 1, 0, none⟩ (.int .i64 6))).same D _ hK rfl
    have d1 : ((W.setCell ⟨w.heap.size + 1, 0, none⟩ (.int .i64 0)).setCell ⟨w.heap.size + 1 + 1, 0, none⟩ (.int .i64 6)).cell? ⟨w.heap.size + 1, 0, none⟩ = some (.int .i64 0) := by
      rw [World.cell?_setCell_other _ ⟨w.heap.size + 1 + 1, 0, none⟩ ⟨w.heap.size + 1, 0, none⟩ _ (by simp)]
      exact World.cell?_setCell_same' _ _ _ (by rw [hc1]; rfl)
    have d2 : ((W.setCell ⟨w.heap.size + 1, 0, none⟩ (.int .i64 0)).setCell ⟨w.heap.size + 1 + 1, 0, none⟩ (.int .i64 6)).cell? ⟨w.heap.size + 1 + 1, 0, none⟩ = some (.int .i64 6) :=
      World.cell?_setCell_same' _ _ _ (by rw [World.cell?_setCell_other _ ⟨w.heap.size + 1, 0, none⟩ ⟨w.heap.size + 1 + 1, 0, none⟩ _ (by simp), hc2]; rfl)
    have hB2 := (hB.setCell (p := ⟨w.heap.size + 1, 0, none⟩) (by simp) (.int .i64 0)).setCell (p := ⟨w.heap.size + 1 + 1, 0, none⟩) (by simp; omega) (.int .i64 6)
    generalize (W.setCell ⟨w.heap.size + 1, 0, none⟩ (.int .i64 0)).setCell ⟨w.heap.size + 1 + 1, 0, none⟩ (.int .i64 6) = W3 at hK' d1 d2 hB2 ⊢
    refine ⟨by simp, .inl ⟨_, _, rfl, run_takeDeferred hK', ?_⟩⟩
    have k1 := cell_kept d1 (grownBy_putObj' _ D (.deferred none)) (fun r e => by cases e; exact ⟨_, hK', rfl⟩)
    have k2 := cell_kept d2 (grownBy_putObj' _ D (.deferred none)) (fun r e => by cases e; exact ⟨_, hK', rfl⟩)
    refine ⟨.tuple #[.int .i64 0, .int .i64 6], ?_, .inr ⟨fun j hj => hne ⟨j, hj⟩ (elems_mem n (Nat.le_refl _) _ hj), rfl⟩, hB2.trans (belowK_b (w := w) (Nat.le_refl _) _ D _ _ (by simp at hD; omega) hK' rfl rfl)⟩
    simp [results, Try.f117, go_sem, k1, k2]
  case stop =>
    rintro D cc pre W hD hpre ⟨⟨rfl, pre', d, hpd, hne, htd, d1, d2⟩, hB⟩ hK
    gi_wp2
    refine ⟨by simp, .inl ⟨_, _, rfl, run_takeDeferred hK, ?_⟩⟩
    have k1 := cell_kept d1 (grownBy_putObj' _ D (.deferred none)) (fun r e => by cases e; exact ⟨_, hK, rfl⟩)
    have k2 := cell_kept d2 (grownBy_putObj' _ D (.deferred none)) (fun r e => by cases e; exact ⟨_, hK, rfl⟩)
    obtain ⟨k, hkn, hpk⟩ := hpre
    obtain ⟨e1, e2⟩ := elems_last hkn (hpd.symm.trans hpk)
    refine ⟨.tuple #[.int .i64 d.1, .int .i64 0], ?_, .inl ⟨d.1, d.2, htd, fun j hj => hne ⟨j, by have := d.2; omega⟩ (by rw [e1]; exact elems_mem d.1 (by have := d.2; omega) _ hj), rfl⟩, hB.trans (belowK_b (w := w) (Nat.le_refl _) W D _ _ (by simp at hD; omega) hK rfl rfl)⟩
    simp [results, Try.f117, go_sem, k1, k2]
end Go.Proofs.Ytlchelaohiojiaa
namespace Go.Proofs.Ytlchelaohiojiaa
open Go.RowKit Go.Shelf
set_option linter.unusedVariables false

set_option maxHeartbeats 800000 in
theorem quotient1_any (c m P n bc bb ba : Nat) (hF : Fld m P n) (a b x : Nat) (ha : a < n) (hb : b < n) (hx : x < n) (w : World) (hC : Calc c m P n w) (h1 : w.cell? ⟨bc, 0, none⟩ = some (.pointer (some ⟨c, 0, none⟩))) (h2 : w.cell? ⟨bb, 0, none⟩ = some (.int .u8 b)) (h3 : w.cell? ⟨ba, 0, none⟩ = some (.int .u8 a)) :
    Calls Try.prog 118 #[.int .u8 x, .pointer (some ⟨bc, 0, none⟩), .pointer (some ⟨bb, 0, none⟩), .pointer (some ⟨ba, 0, none⟩)] w fun e w' => e = .returned (.bool (mul P x b == a)) ∧ ∃ q, w' = w.drewN q := by
  have h32 := hF.n32
  have hm := hF.mul_lt x b
  go_enter Try.func118, Try.ntmps118
  go_wp2
  go_quiet ((go_at_call 64; exact (quiet_of_eq (product_any c m P n hF x b hx hb _ ⟨hC.deg, hC.tab⟩))))
  go_wp2
  go_ret
  exact ⟨ret_bool (by rw [Bool.eq_iff_iff]; simp; omega), _, rfl⟩

set_option maxHeartbeats 1600000 in
theorem quotient_any (c m P n : Nat) (hF : Fld m P n) (a b : Nat) (ha : a < n) (h0 : b ≠ 0) (hb : b < n) (w : World) (hC : Calc c m P n w) :
    Calls Try.prog 65 #[.pointer (some ⟨c, 0, none⟩), .int .u8 a, .int .u8 b] w fun e w' => e = .returned (.int .u8 (quo P n a b)) ∧ Below w.heap.size w w' := by
  have h32 := hF.n32
  have hcl := hC.lt
  obtain ⟨W, hW⟩ : ∃ W, ((w.alloc (.cells #[.pointer (some ⟨c, 0, none⟩)] 83)).alloc (.cells #[.int .u8 a] 86)).alloc (.cells #[.int .u8 b] 86) = W := ⟨_, rfl⟩
  have hB : Below w.heap.size w W := by rw [← hW]; exact (((Below.refl _ w).alloc (Nat.le_refl _) _).alloc (by simp) _).alloc (by simp; omega) _
  have hz : w.heap.size + 3 = W.heap.size := by rw [← hW]; simp
  have c0 := cell_new_l w (.pointer (some ⟨c, 0, none⟩)) 83
  have c1 := cell_new_l (w.alloc (.cells #[.pointer (some ⟨c, 0, none⟩)] 83)) (.int .u8 a) 86
  have c2 := cell_new_l ((w.alloc (.cells #[.pointer (some ⟨c, 0, none⟩)] 83)).alloc (.cells #[.int .u8 a] 86)) (.int .u8 b) 86
  simp only [World.size_alloc] at c1 c2
  have k1 : W.cell? ⟨w.heap.size, 0, none⟩ = some (.pointer (some ⟨c, 0, none⟩)) := by rw [← hW]; exact cell_alloc_l _ (cell_alloc_l _ c0.1)
  have k2 : W.cell? ⟨w.heap.size + 1, 0, none⟩ = some (.int .u8 a) := by rw [← hW]; exact cell_alloc_l _ c1.1
  have k3 : W.cell? ⟨w.heap.size + 1 + 1, 0, none⟩ = some (.int .u8 b) := by rw [← hW]; exact c2.1
  clear c0 c1 c2
  have hCW := hC.below hcl hB
  have hmf : ∀ (fn : Fn) (first cap : Array Value) (w : World), (Instr.makeFunc fn first cap).run Try.prog w = .ok (.func fn first cap) w := fun _ _ _ _ => rfl
  go_enter Try.func65, Try.ntmps65
  go_wp2_with fail
  have HWh := Lib.hid hW
  clear hW hmf
  refine (callsIn_wide.1 (first_in c m P n hF W hCW 118 #[.pointer (some ⟨w.heap.size, 0, none⟩), .pointer (some ⟨w.heap.size + 1 + 1, 0, none⟩), .pointer (some ⟨w.heap.size + 1, 0, none⟩)] (enters_of Try.func118 (by kernel_rfl) rfl) (fun x => mul P x b == a) (fun W' hW' x hx => quotient1_any c m P n w.heap.size (w.heap.size + 1 + 1) (w.heap.size + 1) hF a b x ha hb hx W' (hCW.below hCW.lt hW') ((hW'.cell (p := ⟨w.heap.size, 0, none⟩) (by show w.heap.size < _; omega)).trans k1) ((hW'.cell (p := ⟨w.heap.size + 1 + 1, 0, none⟩) (by show w.heap.size + 1 + 1 < _; omega)).trans k3) ((hW'.cell (p := ⟨w.heap.size + 1, 0, none⟩) (by show w.heap.size + 1 < _; omega)).trans k2)))).mono ?_
  rintro e w2 ⟨hp, hb2⟩
  have hB3 := hB.trans (hb2.mono (by omega))
  clear hb2
  rcases hp with ⟨k, hk, ht, hmin, rfl⟩ | ⟨hno, rfl⟩
  · have HK := Lib.hid (quo_one hF hk h0 hb (by simpa using ht))
    have e1 : IntKind.u8.wrap (k : Int) = k := by rw [IntKind.wrap_u8']; omega
    clear ht hmin k1 k2 k3
    go_wp2
    go_ret
    exact ⟨ret_int (by have := HK.out; omega), hB3⟩
  · exfalso
    have h3 : (mul P (quo P n a b) b == a) = false := hno _ (quo_lt hF a b)
    rw [quo_mul hF ha h0 hb] at h3
    simp at h3

end Go.Proofs.Ytlchelaohiojiaa
