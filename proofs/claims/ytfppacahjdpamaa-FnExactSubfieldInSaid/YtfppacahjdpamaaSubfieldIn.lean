/- SubfieldIn: the program and the model. -/
import Derived.Test.YtfppacahjdpamaaSquare
import Derived.Test.YtfppacahjdpamaaElems
import Derived.Test.YtfppacahjdpamaaSv
import Derived.Test.YtfppacahjdpamaaGives
import Derived.RangeFuncBox
import Derived.Maps.AppendAt
import Derived.Sort.QuietIn
namespace Go.Proofs.Ytfppacahjdpamaa
open Go.RowKit Go.Shelf Go.Joins
attribute [local go_sem] Oper.semAt_some
set_option linter.unusedVariables false

/-- The elements below k that some squarings leave as they are. -/
def sbf (P s : Nat) (k : Nat) : List Nat := (List.range k).filter fun x => sq P x s == x
theorem sbf_yes {P s k : Nat} (h : sq P k s = k) : sbf P s (k + 1) = sbf P s k ++ [k] := by
  rw [sbf, List.range_succ, List.filter_append]; simp [sbf, h]
theorem sbf_no {P s k : Nat} (h : ¬ sq P k s = k) : sbf P s (k + 1) = sbf P s k := by
  rw [sbf, List.range_succ, List.filter_append]; simp [sbf, h]
theorem sbf_len (P s k : Nat) : (sbf P s k).length ≤ k := by
  have := List.length_filter_le (fun x => sq P x s == x) (List.range k)
  simpa [sbf] using this
/-- What has come, as far as it stays. -/
def sl {n : Nat} (P s : Nat) (pre : List (El n)) : List Nat := (pre.filter fun d => sq P d.1 s == d.1).map fun d => d.1
theorem sl_yes {n P s : Nat} (pre : List (El n)) {x : El n} (h : sq P x.1 s = x.1) : sl P s (pre ++ [x]) = sl P s pre ++ [x.1] := by simp [sl, h]
theorem sl_no {n P s : Nat} (pre : List (El n)) {x : El n} (h : ¬ sq P x.1 s = x.1) : sl P s (pre ++ [x]) = sl P s pre := by simp [sl, h]
theorem sl_len {n P s : Nat} (pre : List (El n)) : (sl P s pre).length ≤ pre.length := by
  rw [sl, List.length_map]; exact List.length_filter_le _ _
theorem sl_elems {n P s : Nat} : ∀ k, k ≤ n → sl P s (elems n k) = sbf P s k := by
  intro k
  induction k with
  | zero => intro _; rfl
  | succ k ih =>
    intro hk
    rw [elems_succ (by omega)]
    by_cases h : sq P k s = k
    · rw [sl_yes _ (x := ⟨k, by omega⟩) h, ih (by omega), sbf_yes h]
    · rw [sl_no _ (x := ⟨k, by omega⟩) h, ih (by omega), sbf_no h]

set_option maxHeartbeats 800000 in
theorem specSubfieldIn_A (d p : Int) (hf : fldI d p = false) (a : Int) : GivesList 13 d p a [] 1 := by
  intro w
  have HF := Lib.hid hf
  clear hf
  go_enter Try.func13, Try.ntmps13
  have h0 := FAt.start w d p 27
  go_wp2_with fail
  refine (l01Ok_eq _ _ _ HF.out _).mono ?_
  rintro e w1 ⟨rfl, hb⟩
  have h1 := Lib.hid (h0.next hb)
  clear hb h0
  go_wp2_with fail
  go_ret2
  exact ⟨_, rfl, (h1.out.alloc _).b, .nil _ _⟩
set_option maxHeartbeats 800000 in
theorem specSubfieldIn_B (m P n : Nat) (hF : Fld m P n) (a : Int) (h : a < 1 ∨ (m : Int) < a) : GivesList 13 m P a [] 2 := by
  intro w
  have HF := Lib.hid (fldI_of hF.f)
  have HH := Lib.hid h
  clear h
  go_enter Try.func13, Try.ntmps13
  have h0 := FAt.start w m P 27
  go_wp2_with fail
  refine (l01Ok_eq _ _ _ HF.out _).mono ?_
  rintro e w1 ⟨rfl, hb⟩
  have h1 := h0.next hb
  have H1 := Lib.hid h1
  have c1 := h1.c0
  clear hb h0 h1
  go_wp2_with fail
  refine (l00In_no _ _ _ HH.out _).mono ?_
  rintro e w' ⟨rfl, rfl⟩
  go_wp2_with fail
  go_ret2
  exact ⟨_, rfl, (H1.out.alloc _).b, .nil _ _⟩
set_option maxRecDepth 100000 in
set_option maxHeartbeats 3200000 in
theorem specSubfieldIn_C (m P n : Nat) (hF : Fld m P n) (s : Nat) (h1s : 1 ≤ s) (hsm : s ≤ m) : GivesList 13 m P s (ints (sbf P s n)) 0 := by
  intro w
  obtain ⟨i0, hi, hz0, hz1, hz2⟩ := info_parts Try.infoI
  have h32 := hF.n32
  have hn2 := hF.n2
  have hm5 := hF.m5
  have HF := Lib.hid (fldI_of hF.f)
  go_enter Try.func13, Try.ntmps13
  have h0 := FAt.start w m P 27
  go_wp2_with fail
  refine (l01Ok_eq _ _ _ HF.out _).mono ?_
  rintro e w1 ⟨rfl, hb⟩
  have h1 := h0.next hb
  have hz1' := h1.z
  have c1 := h1.c0
  have HA1 := Lib.hid (h1.alloc (.cells #[] 2))
  have HO1 : Hid (OL (w1.alloc (.cells #[] 2)) (w.heap.size + 1) (some ⟨w1.heap.size, 0, none⟩) 0 0 (sbf P s 0)) := ⟨rfl, World.ownsRow_made w1 #[] 0 (by omega) (by unfold maxLen; omega) (by simp)⟩
  clear hb h0 h1
  go_wp2_with fail
  refine (l00In_yes _ _ _ (by omega) (by omega) _).mono ?_
  rintro e w' ⟨rfl, rfl⟩
  clear c1
  go_wp2_with fail
  go_loopw [6, 7] (fun v i wr => ∃ (k r cp : Nat) (A : Option Addr), k ≤ n ∧ i = .int .i64 k ∧ v = .slice A r cp ∧ FAt w m P wr ∧ OL wr (w.heap.size + 1) A r cp (sbf P s k)) (fun _ i _ => n - (intOf i).toNat)
  case atStart => exact ⟨0, 0, 0, _, Nat.zero_le _, rfl, rfl, HA1.out, HO1.out⟩
  case round =>
    obtain ⟨k, r, cp, A, hk, rfl, rfl, hA, hO⟩ := hrel
    clear HA1 HO1
    have z1 := hA.z; have c1 := hA.c0; have d1 := hA.c1
    have hrl : r ≤ k := by have h1 := hO.len; have h2 := sbf_len P s k; omega
    have HO := Lib.hid hO
    clear hO
    by_cases hlt : k < n
    · go_wp2_with fail
      refine (l01Size_any _ _ _ hF _).mono ?_
      rintro e w2 ⟨rfl, hb2⟩
      have k2 := hA.next hb2
      have z2 := k2.z; have c2 := k2.c0; have d2 := k2.c1
      have HO2 := Lib.hid (HO.out.below hb2)
      have HV := Lib.hid (l01Square_any m P n hF k hlt s (by omega) w2)
      clear hb2 HO
      obtain ⟨v, hve⟩ : ∃ v, sq P k s = v := ⟨_, rfl⟩
      rw [hve] at HV
      have HVE := Lib.hid hve
      clear hve
      by_cases hv0 : v = k
      · have HE := Lib.hid (sbf_yes (P := P) (s := s) (k := k) (by rw [HVE.out]; exact hv0))
        subst hv0
        go_wp2_with fail
        refine HV.out.mono ?_
        rintro e w3 ⟨rfl, hb3⟩
        have k3 := k2.next hb3
        have z3 := k3.z; have c3 := k3.c0; have d3 := k3.c1
        have HO3 := Lib.hid (HO2.out.below hb3)
        clear hb3 HO2
        go_wp2_with (at_builtin; refine wpList_append_own _ rfl _ _ 24 rfl (w.heap.size + 1) 2 i0 (.int .i64 0) 1 8 Try.underlying24 hi hz0 hz1 hz2 rfl (by decide) _ _ _ rfl (HO3.out.own.alloc _) ⟨w3.heap.size, 0, none⟩ 1 1 [.int .i64 v] rfl rfl (one_new _ _ _) (one_one _ _) (by unfold maxLen; omega) (by omega) (by simp; omega) ?_; intro v' w4 hown' hgrow _; have hb4 : Below (w.heap.size + 1) w3 w4 := ((Below.refl _ w3).alloc (by omega) _).grown hgrow (by simp; omega) (fun g hg => (HO3.out.own.lt g hg).1); have HA4 := Lib.hid (show FAt w m P w4 from ⟨k3.b.trans (hb4.mono (by omega)), Nat.le_trans k3.z hb4.size, (hb4.cell (p := ⟨w.heap.size, 0, none⟩) (by simp)).trans k3.c0, (hb4.cell (p := ⟨w.heap.size, 1, none⟩) (by simp)).trans k3.c1⟩); obtain ⟨A4, cp4, hv4, hO4⟩ := OL.of (n := r + 1) (p := sbf P s (v + 1)) (by rw [HE.out]; simpa [ints] using hown'); subst hv4; have HO4 := Lib.hid hO4; clear hown' hgrow hO4 hb4)
        go_roundw
        case rel => exact ⟨v + 1, r + 1, cp4, A4, by omega, by go_num, rfl, HA4.out, HO4.out⟩
        case measure => simp [intOf]; omega
      · have HE := Lib.hid (sbf_no (P := P) (s := s) (k := k) (by rw [HVE.out]; exact hv0))
        have g0 : ((v : Int) == (k : Int)) = false := by simp; omega
        go_wp2_with fail
        refine HV.out.mono ?_
        rintro e w3 ⟨rfl, hb3⟩
        have K3 := Lib.hid (k2.next hb3)
        have HO3 := Lib.hid (HO2.out.below hb3)
        clear hb3 HO2
        go_wp2
        go_roundw
        case rel => exact ⟨k + 1, r, cp, A, by omega, by go_num, rfl, K3.out, by rw [HE.out]; exact HO3.out⟩
        case measure => simp [intOf]; omega
    · obtain rfl : k = n := by omega
      go_wp2_with fail
      refine (l01Size_any _ _ _ hF _).mono ?_
      rintro e w2 ⟨rfl, hb2⟩
      have K2 := Lib.hid (hA.next hb2)
      have HO2 := Lib.hid (HO.out.below hb2)
      clear hb2 HO
      go_wp2_with fail
      go_ret2
      exact ⟨_, rfl, K2.out.b, HO2.out.res (by omega) (by omega)⟩

set_option maxRecDepth 100000 in
set_option maxHeartbeats 4000000 in
theorem implSubfieldIn_A (d p : Int) (hf : fldI d p = false) (hl : -9223372036854775808 ≤ p) (hh : p ≤ 9223372036854775807) (a : Int) : GivesList 15 d p a [] 1 := by
  intro w
  have HF := Lib.hid hf
  clear hf
  refine (callsIn_wide (n := 9)).1 ?_
  refine callsIn_of_wp_marks Try.func15 rfl trivial ?_ rfl
  simp only [Try.ntmps15, List.size_toArray, List.length_cons, List.length_nil, Nat.reduceAdd, Nat.reduceSub, Array.replicate_succ, Array.replicate_zero, List.push_toArray, List.append_toArray, List.nil_append, List.cons_append]
  gi_wp2_with fail
  refine ⟨trivial, ?_⟩
  refine (callsIn_wide.2 (calculatorFor_invalid d p HF.out hl hh _ _)).mono ?_
  rintro e w1 ⟨rfl, hb⟩
  have HB1 := Lib.hid ((below_alloc2 w (.cells #[.int .i64 d, .int .i64 p] 27) (.cells #[.int .i64 a] 2)).trans (hb.mono (by simp; omega)))
  clear hb
  have hsz := HB1.out.size
  gi_wp2_with fail
  exact ⟨_, results_tmp2 rfl _ _ _, _, rfl, HB1.out.alloc hsz _, .nil _ _⟩
set_option maxRecDepth 100000 in
set_option maxHeartbeats 4000000 in
theorem implSubfieldIn_B (m P n : Nat) (hF : Fld m P n) (a : Int) (h : a < 1 ∨ (m : Int) < a) : GivesList 15 m P a [] 2 := by
  intro w
  have hm5 := hF.m5
  have HH := Lib.hid h
  clear h
  have hb0 := below_alloc2 w (.cells #[.int .i64 m, .int .i64 P] 27) (.cells #[.int .i64 a] 2)
  have hk0 : ((w.alloc (.cells #[.int .i64 m, .int .i64 P] 27)).alloc (.cells #[.int .i64 a] 2)).cell? ⟨w.heap.size + 1, 0, none⟩ = some (.int .i64 a) := by simp [World.cell?_alloc_at]
  refine (callsIn_wide (n := 9)).1 ?_
  refine callsIn_of_wp_marks Try.func15 rfl trivial ?_ rfl
  simp only [Try.ntmps15, List.size_toArray, List.length_cons, List.length_nil, Nat.reduceAdd, Nat.reduceSub, Array.replicate_succ, Array.replicate_zero, List.push_toArray, List.append_toArray, List.nil_append, List.cons_append]
  gi_wp2_with fail
  refine ⟨trivial, ?_⟩
  refine (callsIn_wide.2 (calculatorFor_none m P n hF _)).mono ?_
  rintro e w1 ⟨c, rfl, hb, hC, hc⟩
  have HB1 := Lib.hid (hb0.trans (hb.mono hb0.size))
  have hk1 : w1.cell? ⟨w.heap.size + 1, 0, none⟩ = some (.int .i64 a) := (hb.cell (p := ⟨w.heap.size + 1, 0, none⟩) (by simp)).trans hk0
  have hz1 : w.heap.size + 1 < w1.heap.size := by have := hb.size; simp at this; omega
  have hcl := hC.lt
  have hD := hC.deg
  clear hb hb0 hk0
  gi_wp2_with fail
  have hb2 := below_alloc1 w1 (.cells #[.pointer (some ⟨c, 0, none⟩)] 68)
  have q1 := (hb2.cell (p := ⟨w.heap.size + 1, 0, none⟩) hz1).trans hk1
  have q2 := (hb2.cell (p := ⟨c, 0, none⟩) hcl).trans hD
  have q3 := (cell_new_l w1 (.pointer (some ⟨c, 0, none⟩)) 68).1
  have HB2 := Lib.hid (HB1.out.trans (hb2.mono HB1.out.size))
  clear hb2 hk1 hD
  generalize w1.alloc (.cells #[.pointer (some ⟨c, 0, none⟩)] 68) = W2 at q1 q2 q3 HB2 ⊢
  by_cases h1 : a < 1
  · gi_quiet (fail)
    gi_wp2_with fail
    exact ⟨_, results_tmp2 rfl _ _ _, _, rfl, by first | exact HB2.out | exact below_drewN HB2.out _, .nil _ _⟩
  · have h2 : (m : Int) < a := by have := HH.out; omega
    gi_quiet (fail)
    gi_wp2_with fail
    exact ⟨_, results_tmp2 rfl _ _ _, _, rfl, by first | exact HB2.out | exact below_drewN HB2.out _, .nil _ _⟩
set_option maxRecDepth 100000 in
set_option maxHeartbeats 4000000 in
theorem implSubfieldIn_C (m P n : Nat) (hF : Fld m P n) (s : Nat) (h1s : 1 ≤ s) (hsm : s ≤ m) : GivesList 15 m P s (ints (sbf P s n)) 0 := by
  intro w
  obtain ⟨i0, hi, hz0, hz1, hz2⟩ := info_parts Try.infoI
  have hm5 := hF.m5
  have h32 := hF.n32
  have hb0 := below_alloc2 w (.cells #[.int .i64 m, .int .i64 P] 27) (.cells #[.int .i64 s] 2)
  have hk0 : ((w.alloc (.cells #[.int .i64 m, .int .i64 P] 27)).alloc (.cells #[.int .i64 s] 2)).cell? ⟨w.heap.size + 1, 0, none⟩ = some (.int .i64 s) := by simp [World.cell?_alloc_at]
  refine (callsIn_wide (n := 9)).1 ?_
  refine callsIn_of_wp_marks Try.func15 rfl trivial ?_ rfl
  simp only [Try.ntmps15, List.size_toArray, List.length_cons, List.length_nil, Nat.reduceAdd, Nat.reduceSub, Array.replicate_succ, Array.replicate_zero, List.push_toArray, List.append_toArray, List.nil_append, List.cons_append]
  gi_wp2_with fail
  refine ⟨trivial, ?_⟩
  refine (callsIn_wide.2 (calculatorFor_none m P n hF _)).mono ?_
  rintro e w1 ⟨c, rfl, hb, hC, hc⟩
  have HB1 := Lib.hid (hb0.trans (hb.mono hb0.size))
  have hk1 : w1.cell? ⟨w.heap.size + 1, 0, none⟩ = some (.int .i64 s) := (hb.cell (p := ⟨w.heap.size + 1, 0, none⟩) (by simp)).trans hk0
  have hz1' : w.heap.size + 1 < w1.heap.size := by have := hb.size; simp at this; omega
  have hcl := hC.lt
  clear hb hb0 hk0
  gi_wp2_with fail
  have hb2 := below_alloc1 w1 (.cells #[.pointer (some ⟨c, 0, none⟩)] 68)
  have hbq := (below_alloc1 w1 (.cells #[.pointer (some ⟨c, 0, none⟩)] 68)).size
  have q1 := (hb2.cell (p := ⟨w.heap.size + 1, 0, none⟩) hz1').trans hk1
  have q3 := (cell_new_l w1 (.pointer (some ⟨c, 0, none⟩)) 68).1
  have HC2 := Lib.hid (hC.below hcl hb2)
  have HB2 := Lib.hid (HB1.out.trans (hb2.mono HB1.out.size))
  have hs2 : (w1.alloc (.cells #[.pointer (some ⟨c, 0, none⟩)] 68)).heap.size = w1.heap.size + 1 := by simp
  have q2 := HC2.out.deg
  clear hb2 hk1 hbq hC
  generalize w1.alloc (.cells #[.pointer (some ⟨c, 0, none⟩)] 68) = W2 at q1 q2 q3 HC2 HB2 hs2 ⊢
  have g1 : ¬ ((s : Int) < 1) := by omega
  have g2 : ¬ ((m : Int) < (s : Int)) := by omega
  gi_quiet (fail)
  have HC3 := Lib.hid (show Calc c m P n (W2.drewN nq) from ⟨HC2.out.deg, HC2.out.tab⟩)
  have HB3 := Lib.hid (below_drewN HB2.out nq)
  have q13 : (W2.drewN nq).cell? ⟨w.heap.size + 1, 0, none⟩ = some (.int .i64 s) := q1
  have q33 : (W2.drewN nq).cell? ⟨w1.heap.size, 0, none⟩ = some (.pointer (some ⟨c, 0, none⟩)) := q3
  have hs3 : (W2.drewN nq).heap.size = w1.heap.size + 1 := hs2
  generalize W2.drewN nq = W3 at HC3 HB3 q13 q33 hs3 ⊢
  clear q1 q2 q3 HC2 HB2 hs2
  have hlt3 := HC3.out.lt
  have HS3 := Lib.hid hs3
  have q33' : (W3.alloc (.cells #[.slice none 0 0] 24)).cell? ⟨w1.heap.size, 0, none⟩ = some (.pointer (some ⟨c, 0, none⟩)) := ((below_alloc1 W3 _).cell (p := ⟨w1.heap.size, 0, none⟩) (by show w1.heap.size < W3.heap.size; omega)).trans q33
  clear hs3
  gi_wp2_with fail
  refine ⟨trivial, ?_⟩
  refine (callsIn_wide.2 (elements_any (.pointer (some ⟨c, 0, none⟩)) _ c rfl)).mono ?_
  rintro e w' ⟨rfl, rfl⟩
  have bL := Boxed.new W3 24 (.slice none 0 0)
  have c3 := cell_new_l (W3.alloc (.cells #[.slice none 0 0] 24)) (.pointer (some ⟨c, 0, none⟩)) 68
  simp only [World.size_alloc] at c3
  have hL0 : Below W3.heap.size W3 ((W3.alloc (.cells #[.slice none 0 0] 24)).alloc (.cells #[.pointer (some ⟨c, 0, none⟩)] 68)) := (below_alloc1 W3 _).alloc (by simp) _
  gi_wp2_with fail
  refine wpIn_rangeFunc_ownG (α := El n) rfl (by omega) (gf := 94) (lb := #[.pointer (some ⟨W3.heap.size + 1, 0, none⟩)]) rfl trivial (enters_of Try.func94 (by kernel_rfl) rfl)
    (elements_stops m P n hF (W3.heap.size + 1) c _ c3.1 (by simp) ((hL0.cell (p := ⟨c, 0, none⟩) hlt3).trans HC3.out.deg) (by simp; omega)) (fun _ _ => trivial) (fun _ _ _ _ _ _ _ _ => trivial) (Below.refl _ _) (fun _ => rfl)
    (fun pre W => (∃ v, Boxed W W3.heap.size 24 v ∧ W.ownsRow W3.heap.size 2 1 v (sl P s pre).length ((ints (sl P s pre)).map (Value.int .i64)) ∧ True) ∧ Below W3.heap.size W3 W)
    (fun _ _ _ => False)
    (OwnFrom.and (Own.from (holdsRow_own W3.heap.size W3.heap.size 24 2 1 (fun pre => (sl P s pre).length) (fun pre => (ints (sl P s pre)).map (Value.int .i64)) (fun _ _ => True)) _) (ownFrom_below (Nat.le_refl _) (by simp; omega)))
    (fun _ _ _ _ _ hs _ _ => hs)
    ⟨⟨_, bL.alloc _, World.ownsRow_nil _ _ _ _, trivial⟩, hL0⟩
    (fun x => { tmps := #[.agg #[.int .i64 m, .int .i64 P], .int .i64 s, .pointer (some ⟨w.heap.size, 0, none⟩), .pointer (some ⟨w.heap.size + 1, 0, none⟩), .slice none 0 0, .int .i64 0, .pointer (some ⟨w1.heap.size, 0, none⟩), .int .i64 0, .pointer (some ⟨W3.heap.size, 0, none⟩), .int .u8 x.1, .tuple #[.pointer (some ⟨c, 0, none⟩), .int .i64 0], .agg #[.int .i64 m, .int .i64 P], .tuple #[.pointer (some ⟨c, 0, none⟩), .int .i64 0], .pointer (some ⟨c, 0, none⟩), .int .i64 0, .int .i64 0, .bool false, undef, .int .i64 s, .bool false, .bool false, .int .i64 s, .pointer (some ⟨c, 0, none⟩), .pointer (some ⟨c, 0, none⟩), .pointer (some ⟨c, 0, none⟩), .int .i64 m, .bool false, .bool false, .pointer (some ⟨c, 0, none⟩), .func (.func 94) #[] #[.pointer (some ⟨W3.heap.size + 1, 0, none⟩)], .int .u8 x.1, undef, undef, undef, undef, undef, undef, undef, undef, undef, undef, undef, undef], defers := [] }) ?assign ?body ?done ?stop
  case assign =>
    intro l x W K hK
    gi_wp2
    exact hK
  case body =>
    rintro l pre x W ⟨⟨v, hv, hrow, -⟩, hB⟩ hlt
    have hc := hv.cell
    have hf := hv.frozen
    have hcC2 := (hB.cell (p := ⟨w1.heap.size, 0, none⟩) (by have := HS3.out; show w1.heap.size < W3.heap.size; omega)).trans q33
    have hcT2 := (hB.cell (p := ⟨w.heap.size + 1, 0, none⟩) (by have := HS3.out; show w.heap.size + 1 < W3.heap.size; omega)).trans q13
    have hxn := x.2
    have hVal := squared_any c m P n hF x.1 x.2 s (by omega) W (HC3.out.below hlt3 hB)
    have hpl := sl_len (P := P) (s := s) pre
    have e1 : IntKind.i64.wrap (x.1 : Int) = x.1 := wrapNat x.1 (by omega)
    have hbs := hB.size
    obtain ⟨y, hy⟩ : ∃ y, sq P x.1 s = y := ⟨_, rfl⟩
    rw [hy] at hVal
    have HY := Lib.hid hy
    have HV := Lib.hid hVal
    clear hy hVal
    by_cases hv0 : y = x.1
    · subst hv0
      gi_wp2_with (first | (refine ⟨trivial, ?_⟩; gi_at_call 53; refine (CallsIn.inRound l (callsIn_wide.2 HV.out)).mono ?_; rintro e w' ⟨rfl, rfl⟩) | (gi_at_builtin; refine wpListIn_append_own _ rfl _ _ 24 rfl W3.heap.size 2 i0 (.int .i64 0) 1 8 Try.underlying24 hi hz0 hz1 hz2 rfl (by decide) _ _ _ rfl (hrow.alloc _) ⟨W.heap.size, 0, none⟩ 1 1 [.int .i64 x.1] rfl rfl (cell_one_new _ _ _) (by simp [Value.oneCell']) (by unfold maxLen; omega) (by omega) (by simp; omega) ?_; intro v' w3 hown' hgrow _; obtain ⟨g', cap', rfl⟩ := ownsRow_succ hown'; obtain ⟨hv1, hv2, hr2, hk2, hb2⟩ := hv.appended (by decide) hrow hB.size (Nat.le_refl _) hown' hgrow; have hc1 := hv1.cell; have hf1 := hv1.frozen; clear hown' hgrow))
      exact ⟨hk2.from _, trivial, ⟨_, hv2, by rw [sl_yes pre HY.out]; simpa [ints] using hr2, trivial⟩, hB.trans hb2⟩
    · have g0 : ((y : Int) == (x.1 : Int)) = false := by simp; omega
      gi_wp2_with (refine ⟨trivial, ?_⟩; gi_at_call 53; refine (CallsIn.inRound l (callsIn_wide.2 HV.out)).mono ?_; rintro e w' ⟨rfl, rfl⟩)
      exact ⟨KeepsFrom.refl _ _, trivial, ⟨v, hv, by rw [sl_no pre (by rw [HY.out]; exact hv0)]; exact hrow, trivial⟩, hB⟩
  case done =>
    rintro D ys W hD rfl ⟨⟨v, hv, hrow, -⟩, hB⟩ hK
    have hc := hv.cell
    have hsz := HB3.out.size
    gi_wp2
    refine ⟨by simp, .inl ⟨_, _, rfl, run_takeDeferred hK, ?_⟩⟩
    have hr := ownsRow_putObj hrow (.deferred none) hK rfl
    rw [sl_elems n (Nat.le_refl _)] at hr
    have hl := sbf_len P s n
    obtain ⟨A, cp, rfl, hO⟩ := OL.of hr
    exact ⟨_, results_tmp2 rfl _ _ _, _, rfl, (HB3.out.trans (hB.mono hsz)).trans (belowK_b (w := w) (Nat.le_refl _) W D _ _ (by simp at hD; omega) hK rfl rfl), hO.res (by omega) hsz⟩
  case stop =>
    rintro D cc pre W _ _ h _
    exact h.elim
end Go.Proofs.Ytfppacahjdpamaa
