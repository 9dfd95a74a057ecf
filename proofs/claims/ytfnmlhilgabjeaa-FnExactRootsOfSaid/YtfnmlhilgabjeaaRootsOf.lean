/- RootsOf: what the program's function returns. -/
import Derived.Test.YtfnmlhilgabjeaaRootsS
namespace Go.Proofs.Ytfnmlhilgabjeaa
open Go.RowKit Go.Shelf Go.Joins
attribute [local go_sem] Oper.semAt_some
set_option linter.unusedVariables false

/-- What has come, as far as it is a root. -/
def rl {n : Nat} (P : Nat) (q : List Nat) (pre : List (El n)) : List Nat := (pre.filter fun d => vl P q d.1 == 0).map fun d => d.1
theorem rl_yes {n P : Nat} {q : List Nat} (pre : List (El n)) {x : El n} (h : vl P q x.1 = 0) : rl P q (pre ++ [x]) = rl P q pre ++ [x.1] := by simp [rl, h]
theorem rl_no {n P : Nat} {q : List Nat} (pre : List (El n)) {x : El n} (h : ¬ vl P q x.1 = 0) : rl P q (pre ++ [x]) = rl P q pre := by simp [rl, h]
theorem rl_len {n P : Nat} {q : List Nat} (pre : List (El n)) : (rl P q pre).length ≤ pre.length := by
  rw [rl, List.length_map]; exact List.length_filter_le _ _
theorem rl_elems {n P : Nat} {q : List Nat} : ∀ k, k ≤ n → rl P q (elems n k) = rts P q k := by
  intro k
  induction k with
  | zero => intro _; rfl
  | succ k ih =>
    intro hk
    rw [elems_succ (by omega)]
    by_cases h : vl P q k = 0
    · rw [rl_yes _ (x := ⟨k, by omega⟩) h, ih (by omega), rts_yes h]
    · rw [rl_no _ (x := ⟨k, by omega⟩) h, ih (by omega), rts_no h]

set_option maxRecDepth 100000 in
set_option maxHeartbeats 4000000 in
theorem implRootsOf_C (m P n : Nat) (hF : Fld m P n) (b len cap : Nat) (zs : List Int) (hok : okL n zs = true) (w : World) (hM : Mt w b len zs) :
    Calls Try.prog 27 #[.agg #[.int .i64 m, .int .i64 P], .slice (some ⟨b, 0, none⟩) len cap] w fun e w' => ∃ v, e = .returned (.tuple #[v, .int .i64 0]) ∧ Below w.heap.size w w' ∧ Res w' w.heap.size w'.heap.size v (ints (rts P (nats zs) n)) := by
  obtain ⟨i0, hi, hz0, hz1, hz2⟩ := info_parts Try.infoI
  have h32 := hF.n32
  have hn2 := hF.n2
  have hlen := hM.len
  have h12 := okL_len hok
  have HOK := Lib.hid hok
  have HP := Lib.hid (nats_lt (okL_in hok) (by omega))
  have hb0 := below_alloc1 w (.cells #[.int .i64 m, .int .i64 P] 26)
  have HM := Lib.hid (hM.below hb0)
  have HB0 := Lib.hid hb0
  clear hok hM hb0
  obtain ⟨q, hq⟩ : ∃ q, nats zs = q := ⟨_, rfl⟩
  rw [hq] at HP ⊢
  have HQ := Lib.hid hq
  clear hq
  refine (callsIn_wide (n := 9)).1 ?_
  refine callsIn_of_wp_marks Try.func27 rfl trivial ?_ rfl
  simp only [Try.ntmps27, List.size_toArray, List.length_cons, List.length_nil, Nat.reduceAdd, Nat.reduceSub, Array.replicate_succ, Array.replicate_zero, List.push_toArray, List.append_toArray, List.nil_append, List.cons_append]
  gi_wp2_with fail
  refine ⟨trivial, ?_⟩
  refine (callsIn_wide.2 (linearFor_C m P n hF b len cap zs none 0 0 [] (by omega) _ HM.out HOK.out (arg_nil _) rfl)).mono ?_
  rintro e w1 ⟨c, g, rfl, hb, hC, hR⟩
  rw [HQ.out] at hR
  have HB1 := Lib.hid (HB0.out.trans (hb.mono HB0.out.size))
  have HC := Lib.hid hC
  have HR := Lib.hid hR
  clear hb hC hR
  gi_wp2_with fail
  refine ⟨trivial, ?_⟩
  refine (callsIn_wide.2 (elements_any (.pointer (some ⟨c, 0, none⟩)) _ c rfl)).mono ?_
  rintro e w' ⟨rfl, rfl⟩
  obtain ⟨W2, hW2⟩ : ∃ W2, (w1.alloc (.cells #[.pointer (some ⟨c, 0, none⟩)] 42)).alloc (.cells #[.slice (some ⟨g, 0, none⟩) len len] 44) = W2 := ⟨_, rfl⟩
  have hs2 : W2.heap.size = w1.heap.size + 1 + 1 := by rw [← hW2]; simp
  have hb2 : Below w1.heap.size w1 W2 := by rw [← hW2]; exact (below_alloc1 w1 _).alloc (by simp) _
  have hcC : W2.cell? ⟨w1.heap.size, 0, none⟩ = some (.pointer (some ⟨c, 0, none⟩)) := by rw [← hW2]; exact cell_alloc_l _ (cell_new_l w1 _ _).1
  have hcT : W2.cell? ⟨w1.heap.size + 1, 0, none⟩ = some (.slice (some ⟨g, 0, none⟩) len len) := by
    have := (cell_new_l (w1.alloc (.cells #[.pointer (some ⟨c, 0, none⟩)] 42)) (.slice (some ⟨g, 0, none⟩) len len) 44).1
    rw [World.size_alloc] at this
    rw [← hW2]; exact this
  have HB2 := Lib.hid (HB1.out.trans (hb2.mono HB1.out.size))
  have HC2 := Lib.hid (HC.out.below HC.out.lt hb2)
  have HR2 := Lib.hid (HR.out.below hb2)
  have hlt2 := HC2.out.lt
  rw [hW2]
  rw [← hs2]
  have HS2 := Lib.hid hs2
  clear hW2 hb2 hs2
  gi_wp2
  have bL := Boxed.new W2 24 (.slice none 0 0)
  have c3 := cell_new_l (W2.alloc (.cells #[.slice none 0 0] 24)) (.pointer (some ⟨c, 0, none⟩)) 42
  simp only [World.size_alloc] at c3
  have hL0 : Below W2.heap.size W2 ((W2.alloc (.cells #[.slice none 0 0] 24)).alloc (.cells #[.pointer (some ⟨c, 0, none⟩)] 42)) := (below_alloc1 W2 _).alloc (by simp) _
  refine wpIn_rangeFunc_ownG (α := El n) rfl (by omega) (gf := 77) (lb := #[.pointer (some ⟨W2.heap.size + 1, 0, none⟩)]) rfl trivial (enters_of Try.func77 (by kernel_rfl) rfl)
    (elements_stops m P n hF (W2.heap.size + 1) c _ c3.1 (by simp) ((hL0.cell (p := ⟨c, 0, none⟩) hlt2).trans HC2.out.deg) (by simp; omega)) (fun _ _ => trivial) (fun _ _ _ _ _ _ _ _ => trivial) (Below.refl _ _) (fun _ => rfl)
    (fun pre W => (∃ v, Boxed W W2.heap.size 24 v ∧ W.ownsRow W2.heap.size 2 1 v (rl P q pre).length ((ints (rl P q pre)).map (Value.int .i64)) ∧ True) ∧ Below W2.heap.size W2 W)
    (fun _ _ _ => False)
    (OwnFrom.and (Own.from (holdsRow_own W2.heap.size W2.heap.size 24 2 1 (fun pre => (rl P q pre).length) (fun pre => (ints (rl P q pre)).map (Value.int .i64)) (fun _ _ => True)) _) (ownFrom_below (Nat.le_refl _) (by simp; omega)))
    (fun _ _ _ _ _ hs _ _ => hs)
    ⟨⟨_, bL.alloc _, World.ownsRow_nil _ _ _ _, trivial⟩, hL0⟩
    (fun x => { tmps := #[.agg #[.int .i64 m, .int .i64 P], .slice (some ⟨b, 0, none⟩) len cap, .pointer (some ⟨w.heap.size, 0, none⟩), undef, .slice none 0 0, .int .i64 0, .pointer (some ⟨w1.heap.size, 0, none⟩), .pointer (some ⟨w1.heap.size + 1, 0, none⟩), .int .i64 0, .pointer (some ⟨W2.heap.size, 0, none⟩), .int .u8 x.1, .tuple #[.pointer (some ⟨c, 0, none⟩), .slice (some ⟨g, 0, none⟩) len len, .int .i64 0], .agg #[.int .i64 m, .int .i64 P], .slice (some ⟨b, 0, none⟩) len cap, .tuple #[.pointer (some ⟨c, 0, none⟩), .slice (some ⟨g, 0, none⟩) len len, .int .i64 0], .pointer (some ⟨c, 0, none⟩), .slice (some ⟨g, 0, none⟩) len len, .int .i64 0, .int .i64 0, .bool false, undef, .pointer (some ⟨c, 0, none⟩), .func (.func 77) #[] #[.pointer (some ⟨W2.heap.size + 1, 0, none⟩)], .int .u8 x.1, undef, undef, undef, undef, undef, undef, undef, undef, undef, undef, undef], defers := [] }) ?assign ?body ?done ?stop
  case assign =>
    intro l x W K hK
    gi_wp2
    exact hK
  case body =>
    rintro l pre x W ⟨⟨v, hv, hrow, -⟩, hB⟩ hlt
    have hc := hv.cell
    have hf := hv.frozen
    have hcC2 := (hB.cell (p := ⟨w1.heap.size, 0, none⟩) (by have := HS2.out; show w1.heap.size < W2.heap.size; omega)).trans hcC
    have hcT2 := (hB.cell (p := ⟨w1.heap.size + 1, 0, none⟩) (by have := HS2.out; show w1.heap.size + 1 < W2.heap.size; omega)).trans hcT
    have hxn := x.2
    have hVal := value_any c m P n hF (some ⟨g, 0, none⟩) len len q HP.out x.1 x.2 (by omega) W (HC2.out.below hlt2 hB) (HR2.out.below hB)
    have hvn := vl_lt hF q x.1
    have hpl := rl_len (P := P) (q := q) pre
    have e1 : IntKind.i64.wrap (x.1 : Int) = x.1 := wrapNat x.1 (by omega)
    have hbs := hB.size
    obtain ⟨y, hy⟩ : ∃ y, vl P q x.1 = y := ⟨_, rfl⟩
    rw [hy] at hVal hvn
    have HY := Lib.hid hy
    have HV := Lib.hid hVal
    clear hy hVal
    by_cases hv0 : y = 0
    · subst hv0
      gi_wp2_with (first | (refine ⟨trivial, ?_⟩; gi_at_call 44; refine (CallsIn.inRound l (callsIn_wide.2 HV.out)).mono ?_; rintro e w' ⟨rfl, rfl⟩) | (gi_at_builtin; refine wpListIn_append_own _ rfl _ _ 24 rfl W2.heap.size 2 i0 (.int .i64 0) 1 8 Try.underlying24 hi hz0 hz1 hz2 rfl (by decide) _ _ _ rfl (hrow.alloc _) ⟨W.heap.size, 0, none⟩ 1 1 [.int .i64 x.1] rfl rfl (cell_one_new _ _ _) (by simp [Value.oneCell']) (by unfold maxLen; omega) (by omega) (by simp; omega) ?_; intro v' w3 hown' hgrow _; obtain ⟨g', cap', rfl⟩ := ownsRow_succ hown'; obtain ⟨hv1, hv2, hr2, hk2, hb2⟩ := hv.appended (by decide) hrow hB.size (Nat.le_refl _) hown' hgrow; have hc1 := hv1.cell; have hf1 := hv1.frozen; clear hown' hgrow))
      exact ⟨hk2.from _, trivial, ⟨_, hv2, by rw [rl_yes pre HY.out]; simpa [ints] using hr2, trivial⟩, hB.trans hb2⟩
    · have g0 : ((y : Int) == 0) = false := by simp; omega
      gi_wp2_with (refine ⟨trivial, ?_⟩; gi_at_call 44; refine (CallsIn.inRound l (callsIn_wide.2 HV.out)).mono ?_; rintro e w' ⟨rfl, rfl⟩)
      exact ⟨KeepsFrom.refl _ _, trivial, ⟨v, hv, by rw [rl_no pre (by rw [HY.out]; exact hv0)]; exact hrow, trivial⟩, hB⟩
  case done =>
    rintro D ys W hD rfl ⟨⟨v, hv, hrow, -⟩, hB⟩ hK
    have hc := hv.cell
    have hsz := HB2.out.size
    gi_wp2
    refine ⟨by simp, .inl ⟨_, _, rfl, run_takeDeferred hK, ?_⟩⟩
    have hr := ownsRow_putObj hrow (.deferred none) hK rfl
    rw [rl_elems n (Nat.le_refl _)] at hr
    have hl := rts_len P q n
    obtain ⟨A, cp, rfl, hO⟩ := OL.of hr
    exact ⟨_, results_tmp2 rfl _ _ _, _, rfl, (HB2.out.trans (hB.mono hsz)).trans (belowK_b (w := w) (Nat.le_refl _) W D _ _ (by simp at hD; omega) hK rfl rfl), hO.res (by omega) hsz⟩
  case stop =>
    rintro D cc pre W _ _ h _
    exact h.elim
set_option maxRecDepth 100000 in
set_option maxHeartbeats 4000000 in
theorem implRootsOf_A (d p : Int) (hf : fldI d p = false) (hl : -9223372036854775808 ≤ p) (hh : p ≤ 9223372036854775807) (v : Value) (w : World) :
    Calls Try.prog 27 #[.agg #[.int .i64 d, .int .i64 p], v] w fun e w' => ∃ v, e = .returned (.tuple #[v, .int .i64 1]) ∧ Below w.heap.size w w' ∧ Res w' w.heap.size w'.heap.size v ([]) := by
  have HF := Lib.hid hf
  clear hf
  refine (callsIn_wide (n := 9)).1 ?_
  refine callsIn_of_wp_marks Try.func27 rfl trivial ?_ rfl
  simp only [Try.ntmps27, List.size_toArray, List.length_cons, List.length_nil, Nat.reduceAdd, Nat.reduceSub, Array.replicate_succ, Array.replicate_zero, List.push_toArray, List.append_toArray, List.nil_append, List.cons_append]
  gi_wp2_with fail
  refine ⟨trivial, ?_⟩
  refine (callsIn_wide.2 (linearFor_A d p HF.out hl hh _ _ _)).mono ?_
  rintro e w1 ⟨rfl, hb⟩
  have HB1 := Lib.hid ((below_alloc1 w (.cells #[.int .i64 d, .int .i64 p] 26)).trans (hb.mono (by simp)))
  clear hb
  have hsz := HB1.out.size
  gi_wp2_with fail
  exact ⟨_, results_tmp2 rfl _ _ _, _, rfl, (HB1.out.alloc hsz _).alloc (by simp; omega) _, .nil _ _⟩
set_option maxRecDepth 100000 in
set_option maxHeartbeats 4000000 in
theorem implRootsOf_B (m P n : Nat) (hF : Fld m P n) (b len cap : Nat) (zs : List Int) (hok : okL n zs = false) (w : World) (hM : Mt w b len zs) :
    Calls Try.prog 27 #[.agg #[.int .i64 m, .int .i64 P], .slice (some ⟨b, 0, none⟩) len cap] w fun e w' => ∃ v, e = .returned (.tuple #[v, .int .i64 1]) ∧ Below w.heap.size w w' ∧ Res w' w.heap.size w'.heap.size v ([]) := by
  have HOK := Lib.hid hok
  have HM := Lib.hid (hM.below (below_alloc1 w (.cells #[.int .i64 m, .int .i64 P] 26)))
  clear hok hM
  refine (callsIn_wide (n := 9)).1 ?_
  refine callsIn_of_wp_marks Try.func27 rfl trivial ?_ rfl
  simp only [Try.ntmps27, List.size_toArray, List.length_cons, List.length_nil, Nat.reduceAdd, Nat.reduceSub, Array.replicate_succ, Array.replicate_zero, List.push_toArray, List.append_toArray, List.nil_append, List.cons_append]
  gi_wp2_with fail
  refine ⟨trivial, ?_⟩
  refine (callsIn_wide.2 (linearFor_B m P n hF b len cap zs _ _ HM.out HOK.out)).mono ?_
  rintro e w1 ⟨rfl, hb⟩
  have HB1 := Lib.hid ((below_alloc1 w (.cells #[.int .i64 m, .int .i64 P] 26)).trans (hb.mono (by simp)))
  clear hb
  have hsz := HB1.out.size
  gi_wp2_with fail
  exact ⟨_, results_tmp2 rfl _ _ _, _, rfl, (HB1.out.alloc hsz _).alloc (by simp; omega) _, .nil _ _⟩
theorem implRootsOf_any (d p : Int) (b len cap : Nat) (zs : List Int) (w : World) (hl : -9223372036854775808 ≤ p) (hh : p ≤ 9223372036854775807) (hM : Mt w b len zs) :
    Calls Try.prog 27 #[.agg #[.int .i64 d, .int .i64 p], .slice (some ⟨b, 0, none⟩) len cap] w fun e w' => ∃ v, e = .returned (.tuple #[v, .int .i64 (fRootsOf d p zs).2]) ∧ Below w.heap.size w w' ∧ Res w' w.heap.size w'.heap.size v ((fRootsOf d p zs).1) := by
  cases hf : fldI d p with
  | false => rw [fRootsOf_B (okFL_no hf)]; exact implRootsOf_A d p hf hl hh _ w
  | true =>
    obtain ⟨m, P, rfl, rfl, hF⟩ := fldI_nat hf
    have hF := Fld.of hF
    cases hok : okL (2 ^ m) zs with
    | false => rw [fRootsOf_B (by rw [okFL_yes hF]; exact hok)]; exact implRootsOf_B m P _ hF b len cap zs hok w hM
    | true => rw [fRootsOf_C hF hok]; exact implRootsOf_C m P _ hF b len cap zs hok w hM
end Go.Proofs.Ytfnmlhilgabjeaa
