/- All fields of a degree: the program's. -/
import Derived.Test.YtlchelaohiojiaaFieldsS
namespace Go.Proofs.Ytlchelaohiojiaa
open Go.RowKit Go.Shelf Go.Joins
attribute [local go_sem] Oper.semAt_some
set_option linter.unusedVariables false

set_option maxRecDepth 100000 in
set_option maxHeartbeats 4000000 in
theorem implFieldsOf_in (d : Nat) (h1 : 1 ≤ d) (h5 : d ≤ 5) (w : World) :
    CallsIn Fence.wide 9 Try.prog 15 #[.int .i64 d] w fun e w' => ∃ v, e = .returned (.tuple #[v, .int .i64 0]) ∧ Below w.heap.size w w' ∧ FR w' w.heap.size v (fOf d (2 * 2 ^ d)).length (fun _ => d) (fun j => (nth (fOf d (2 * 2 ^ d)) j : Nat)) := by
  obtain ⟨i0, hi, hz0, hz1, hz2⟩ := info_parts Try.infoFd
  have hne := fOf_ne ⟨d, by omega⟩ (by show 0 < d; omega)
  have hp5 : 2 ^ d ≤ 32 := Nat.pow_le_pow_right (n := 2) (by omega) h5
  have hlen := fOf_len d (2 * 2 ^ d)
  have HNE := Lib.hid hne
  clear hne
  have hF0 : FI d (w.heap.size + 5) w [] ((w.alloc (.cells #[.slice none 0 0] 32)).alloc (.cells #[.int .i64 d] 2)) :=
    ⟨⟨_, (Boxed.new w 32 (.slice none 0 0)).alloc _, World.ownsRow_nil _ _ _ _⟩, below_alloc2 w _ _⟩
  have HF0 := Lib.hid hF0
  have hc := cell_new_l (w.alloc (.cells #[.slice none 0 0] 32)) (.int .i64 d) 2
  simp only [World.size_alloc] at hc
  clear hF0
  refine callsIn_of_wp_marks Try.func15 rfl trivial ?_ rfl
  simp only [Try.ntmps15, List.size_toArray, List.length_cons, List.length_nil, Nat.reduceAdd, Nat.reduceSub, Array.replicate_succ, Array.replicate_zero, List.push_toArray, List.append_toArray, List.nil_append, List.cons_append]
  gi_wp2_with (refine ⟨trivial, ?_⟩; gi_at_call 66; refine (callsIn_wide.2 (fieldsOf_any _ _)).mono ?_; rintro e w' ⟨rfl, rfl⟩)
  refine range_R (α := FieldP d) rfl (by omega) (gf := 119) (lb := #[.pointer (some ⟨w.heap.size + 1, 0, none⟩)]) rfl trivial (enters_of Try.func119 (by kernel_rfl) rfl)
    (fieldsOf_R d h1 h5 (w.heap.size + 1) _ hc.1 (by simp)) (Below.refl _ _) (fun k e => by subst e; simp) (fun _ _ _ _ => trivial) (fun _ => rfl)
    (FI d (w.heap.size + 5) w) (fun _ _ _ => False)
    (FI.bears d (by simp) (by simp; omega)) (fun _ _ _ _ _ h _ _ => h.elim) HF0.out
    (fun x a' V => ∃ q, w.heap.size + 4 ≤ q ∧ LF V q [.int .i64 d, .int .i64 (x.1 : Nat)] ∧ a' = { tmps := #[.int .i64 d, undef, .slice none 0 0, .int .i64 0, .pointer (some ⟨w.heap.size, 0, none⟩), .pointer (some ⟨q, 0, none⟩), .int .i64 d, .func (.func 119) #[] #[.pointer (some ⟨w.heap.size + 1, 0, none⟩)], .agg #[.int .i64 d, .int .i64 (x.1 : Nat)], undef, undef, undef, undef, undef, undef, undef, undef], defers := [] })
    (fun x a' V o h => by obtain ⟨q, h1, h2, h3⟩ := h; exact ⟨q, h1, h2.putO (by simp; omega) o, h3⟩) ?assign ?body ?done ?stop
  case assign =>
    rintro l pre x V G hF hsz _ hK
    simp only [World.size_alloc] at hsz
    have HF := Lib.hid hF
    clear hF
    gi_wp2_with fail
    exact hK _ _ (Rnd.belowW (below_alloc1 _ _)) (FI.bears d (B0 := w.heap.size + 1) (K := 4) (by omega) (by omega) _ _ _ none HF.out (World.grownBy_alloc _ _ _) (fun r e => by cases e)) trivial ⟨V.heap.size, by omega, LF.start V _ _, rfl⟩
  case body =>
    rintro l pre x a' V ⟨⟨v, hv, hrow⟩, hB⟩ hsz _ ⟨q, hq, hL, rfl⟩ hlen2
    simp only [World.size_alloc] at hsz
    have c0 := hL.b.cell 0 _ rfl; have c1 := hL.b.cell 1 _ rfl
    have a0 := hv.cell; have f0 := hv.frozen
    have hpl : (pre.map (·.1)).length = pre.length := by simp
    have hbs := hB.size
    clear hL
    gi_wp2_with (gi_at_builtin; refine wpListIn_append_own _ rfl _ _ 32 rfl (w.heap.size + 5) 25 i0 (.agg #[.int .i64 0, .int .i64 0]) 2 16 Try.underlying32 hi hz0 hz1 hz2 rfl (by decide) _ _ _ rfl (hrow.alloc _) ⟨V.heap.size, 0, none⟩ 1 1 [.int .i64 d, .int .i64 (x.1 : Nat)] rfl rfl (two_new V _ _ _) (two_one _ _ _) (by unfold maxLen; omega) (by omega) (by simp; omega) ?_; intro v' w3 hown' hgrow _; obtain ⟨g', cap', rfl⟩ := ownsRow_succ hown'; obtain ⟨hv1, hv2, hr2, hk2, hb2⟩ := hv.appended (by decide) (ownsRow_low hrow (by omega)) hB.size (Nat.le_refl _) (ownsRow_low hown' (by omega)) hgrow; have hc1 := hv1.cell; have hf1 := hv1.frozen)
    simp only [List.length_map] at hv2 hb2
    have e1 : ((pre ++ [x]).map (·.1)) = pre.map (·.1) ++ [x.1] := by simp
    refine ⟨(((Rnd.belowW (below_alloc1 V _)).trans (Rnd.grown2 hgrow fun r e => ?_)).setCell (by omega) (by omega) _ _), ⟨⟨_, hv2, ?_⟩, hB.trans hb2⟩⟩
    · obtain ⟨k1, k2⟩ := ownsRow_obj (hrow.alloc (.cells #[.int .i64 d, .int .i64 (x.1 : Nat)] 25)) e
      exact ⟨by omega, .inr ⟨by omega, k2⟩⟩
    · rw [e1, List.length_append, fCs_snoc]
      have hfin := hown'.kept (grownBy_setCell' w3 w.heap.size (.slice (some ⟨g', 0, none⟩) ((pre.map (·.1)).length + 1) cap')) (.inr (hv1.not_row (by decide) hown').symm)
      simp only [List.length_map] at hfin
      simp only [List.length_map, List.length_cons, List.length_nil, Nat.zero_add]
      exact hfin
  case done =>
    rintro ys V hS ⟨⟨v, hv, hrow⟩, hB⟩ hK
    rw [hS] at hrow
    rcases ownsRow_forms hrow with ⟨_, h0⟩ | ⟨g, cap, rfl⟩
    · exact absurd h0 HNE.out
    have a0 := hv.cell
    have hn0 : ((fOf d (2 * 2 ^ d)).length : Int) ≠ 0 := by have := HNE.out; omega
    have hr := ownsRow_putObj hrow (.deferred none) hK rfl
    have HR := Lib.hid hr
    have HB := Lib.hid hB
    have hn1 : (((fOf d (2 * 2 ^ d)).length : Int) == 0) = false := by simpa using hn0
    clear hS hr hrow hB
    obtain ⟨L, hL⟩ : ∃ L, fOf d (2 * 2 ^ d) = L := ⟨_, rfl⟩
    rw [hL] at hn0 hn1 hlen a0 HR hv HNE
    have HL := Lib.hid hL
    clear hL
    gi_wp2
    refine ⟨by simp, .inl ⟨_, _, rfl, run_takeDeferred hK, ?_⟩⟩
    exact ⟨_, results_tmp2 rfl _ _ _, .slice (some ⟨g, 0, none⟩) L.length cap, rfl, HB.out.trans (belowK_b (w := w) (Nat.le_refl _) V _ _ _ (by simp only [World.size_alloc]; omega) hK rfl rfl), by rw [HL.out]; exact FR.low (B := w.heap.size + 5) (FR.of_own HR.out) (by omega)⟩
  case stop =>
    rintro cc pre V _ h
    exact h.elim

set_option maxRecDepth 100000 in
set_option maxHeartbeats 4000000 in
theorem implFieldsOf_no (d : Int) (hd : d < 1 ∨ 5 < d) (w : World) :
    CallsIn Fence.wide 9 Try.prog 15 #[.int .i64 d] w fun e w' => e = .returned (.tuple #[.slice none 0 0, .int .i64 2]) ∧ Below w.heap.size w w' := by
  have hc := cell_new_l (w.alloc (.cells #[.slice none 0 0] 32)) (.int .i64 d) 2
  simp only [World.size_alloc] at hc
  have HD := Lib.hid hd
  have HS := Lib.hid (And.intro ((Boxed.new w 32 (.slice none 0 0)).alloc (.cells #[.int .i64 d] 2)) (below_alloc2 w (.cells #[.slice none 0 0] 32) (.cells #[.int .i64 d] 2)))
  clear hd
  refine callsIn_of_wp_marks Try.func15 rfl trivial ?_ rfl
  simp only [Try.ntmps15, List.size_toArray, List.length_cons, List.length_nil, Nat.reduceAdd, Nat.reduceSub, Array.replicate_succ, Array.replicate_zero, List.push_toArray, List.append_toArray, List.nil_append, List.cons_append]
  gi_wp2_with (refine ⟨trivial, ?_⟩; gi_at_call 66; refine (callsIn_wide.2 (fieldsOf_any _ _)).mono ?_; rintro e w' ⟨rfl, rfl⟩)
  refine range_R (α := FieldP d.toNat) rfl (by omega) (gf := 119) (lb := #[.pointer (some ⟨w.heap.size + 1, 0, none⟩)]) rfl trivial (enters_of Try.func119 (by kernel_rfl) rfl)
    (fieldsOf_no d HD.out (w.heap.size + 1) _ hc.1 (by simp)) (Below.refl _ _) (fun k e => by subst e; simp) (fun _ _ _ h => h) (fun _ => rfl)
    (fun pre V => Boxed V w.heap.size 32 (.slice none 0 0) ∧ Below w.heap.size w V) (fun _ _ _ => False)
    (Bears.and (fun s W V row h hg hr => h.kept hg (fun e => by have := (hr _ e.symm).1; simp at this; omega)) (Bears.below (Nat.le_refl _) (by simp; omega))) (fun _ _ _ _ _ h _ _ => h.elim) HS.out
    (fun _ _ _ => False) (fun _ _ _ _ h => h.elim) ?assign ?body ?done ?stop
  case assign =>
    rintro l pre x V G _ _ h
    exact h.elim
  case body =>
    rintro l pre x a' V _ _ h
    exact h.elim
  case done =>
    rintro ys V rfl ⟨hv, hB⟩ hK
    have a0 := hv.cell
    have HB := Lib.hid hB
    clear hv hB
    gi_wp2
    refine ⟨by simp, .inl ⟨_, _, rfl, run_takeDeferred hK, ?_⟩⟩
    exact ⟨_, results_tmp2 rfl _ _ _, rfl, HB.out.trans (belowK_b (w := w) (Nat.le_refl _) V _ _ _ (by simp only [World.size_alloc]; omega) hK rfl rfl)⟩
  case stop =>
    rintro cc pre V _ h
    exact h.elim

theorem implFieldsOf_any (d : Int) (w : World) :
    Calls Try.prog 15 #[.int .i64 d] w fun e w' => ∃ v, e = .returned (.tuple #[v, .int .i64 (fFieldsOf d).2]) ∧ Below w.heap.size w w' ∧ FR w' w.heap.size v (fFieldsOf d).1.length (fun _ => d) (fun j => (nth (fFieldsOf d).1 j : Nat)) := by
  by_cases h : 1 ≤ d ∧ d ≤ 5
  · obtain ⟨m, rfl⟩ := Int.eq_ofNat_of_zero_le (by omega : 0 ≤ d)
    rw [fFieldsOf, if_pos h]
    exact (callsIn_wide (n := 9)).1 (implFieldsOf_in m (by omega) (by omega) w)
  · rw [fFieldsOf, if_neg h]
    refine ((callsIn_wide (n := 9)).1 (implFieldsOf_no d (by omega) w)).mono ?_
    rintro e w' ⟨rfl, hb⟩
    exact ⟨_, rfl, hb, FR.nil _ _ _ _ _ _⟩
end Go.Proofs.Ytlchelaohiojiaa
