/- LinearOfMatrix: the model's. -/
import Derived.Test.YtilghmfffdmnjaaMatLinS
import Derived.Test.YtilghmfffdmnjaaIpS
import Derived.Test.YtilghmfffdmnjaaSp1
import Derived.Test.YtilghmfffdmnjaaIpRank
import Derived.RangeFuncBox
import Derived.Maps.AppendAt
import Derived.Sort.QuietIn
namespace Go.Proofs.Ytilghmfffdmnjaa
open Go.RowKit Go.Shelf Go.Joins
attribute [local go_sem] Oper.semAt_some
set_option linter.unusedVariables false

/-- The first k values: sums of a basis that rows tell. -/
def sms (q L : List Nat) (m k : Nat) : List Nat := (List.range k).map fun i => tms (nth L i) q m
theorem sms_succ (q L : List Nat) (m k : Nat) : sms q L m (k + 1) = sms q L m k ++ [tms (nth L k) q m] := range_succ_map _ _
theorem sms_len (q L : List Nat) (m k : Nat) : (sms q L m k).length = k := by simp [sms]
theorem sms_lt {q L : List Nat} {m n : Nat} (hn : 2 ^ m = n) (hq : ∀ j, nth q j < n) (k j : Nat) : nth (sms q L m k) j < n := by
  by_cases hj : j < k
  · have : nth (sms q L m k) j = tms (nth L j) q m := by simp [nth, sms, hj]
    rw [this, ← hn]; rw [← hn] at hq; exact tms_lt hq _ _
  · rw [nth, List.getD_eq_getElem?_getD, List.getElem?_eq_none (by rw [sms_len]; omega)]; rw [← hn]; exact Nat.two_pow_pos m
/-- What LinearOfMatrix returns. -/
def fLinearOfMatrix (d p : Int) (zs : List Int) (c : Int) (ys : List Int) : List Int × Int :=
  if (fldI d p && okM c ys) = false then ([], 1)
  else if (allIn (2 ^ d.toNat) zs && decide (c = d ∧ (ys.length : Int) = d)) = false then ([], 2)
  else if basB d.toNat (nats zs) = false then ([], 4)
  else (ints (ip p.toNat (2 ^ d.toNat) (nth (nats zs)) (nth (sms (nats zs) (ys.map Int.toNat) d.toNat d.toNat)) d.toNat).2, 0)
theorem fLof_A {d p c : Int} {zs ys : List Int} (h : (fldI d p && okM c ys) = false) : fLinearOfMatrix d p zs c ys = ([], 1) := by rw [fLinearOfMatrix, if_pos h]
theorem fLof_B {m P n : Nat} (hF : Fld m P n) {c : Int} {zs ys : List Int} (ho : okM c ys = true) (h : (allIn n zs && decide (c = (m : Int) ∧ (ys.length : Int) = (m : Int))) = false) : fLinearOfMatrix m P zs c ys = ([], 2) := by
  rw [fLinearOfMatrix, fldI_of hF.f, ho, if_neg (by decide), Int.toNat_natCast, hF.n, if_pos h]
theorem fLof_S {m P n : Nat} (hF : Fld m P n) {c : Int} {zs ys : List Int} (ho : okM c ys = true) (h : (allIn n zs && decide (c = (m : Int) ∧ (ys.length : Int) = (m : Int))) = true) (hb : basB m (nats zs) = false) : fLinearOfMatrix m P zs c ys = ([], 4) := by
  rw [fLinearOfMatrix, fldI_of hF.f, ho, if_neg (by decide), Int.toNat_natCast, hF.n, h, if_neg (by decide), if_pos hb]
theorem fLof_C {m P n : Nat} (hF : Fld m P n) {c : Int} {zs ys : List Int} (ho : okM c ys = true) (h : (allIn n zs && decide (c = (m : Int) ∧ (ys.length : Int) = (m : Int))) = true) (hb : basB m (nats zs) = true) :
    fLinearOfMatrix m P zs c ys = (ints (ip P n (nth (nats zs)) (nth (sms (nats zs) (ys.map Int.toNat) m m)) m).2, 0) := by
  rw [fLinearOfMatrix, fldI_of hF.f, ho, if_neg (by decide), Int.toNat_natCast, Int.toNat_natCast, hF.n, h, if_neg (by decide), hb, if_neg (by decide)]

/-- The field's and the matrix's copies. -/
theorem fm_boxes (w : World) (d p c : Int) (b n cap : Nat) : Below w.heap.size w ((w.alloc (.cells #[.int .i64 d, .int .i64 p] 23)).alloc (.cells #[.int .i64 c, .slice (some ⟨b, 0, none⟩) n cap] 60)) ∧
    FAt w d p ((w.alloc (.cells #[.int .i64 d, .int .i64 p] 23)).alloc (.cells #[.int .i64 c, .slice (some ⟨b, 0, none⟩) n cap] 60)) ∧
    MAt ((w.alloc (.cells #[.int .i64 d, .int .i64 p] 23)).alloc (.cells #[.int .i64 c, .slice (some ⟨b, 0, none⟩) n cap] 60)) (w.heap.size + 1) c b n cap := by
  have hX := Box.two w (.cells #[.int .i64 d, .int .i64 p] 23) (.int .i64 c) (.slice (some ⟨b, 0, none⟩) n cap) 60
  exact ⟨below_alloc2 w _ _, (FAt.start w d p 23).alloc _, ⟨hX.c0, hX.c1, hX.lt⟩⟩

set_option maxHeartbeats 1600000 in
theorem specLof_A (d p c : Int) (v1 : Value) (b2 n2 cap2 : Nat) (ys : List Int) (h : (fldI d p && okM c ys) = false) (w : World) (hM2 : Mt w b2 n2 ys) :
    Calls Try.prog 35 #[.agg #[.int .i64 d, .int .i64 p], v1, .agg #[.int .i64 c, .slice (some ⟨b2, 0, none⟩) n2 cap2]] w fun e w' => ∃ v, e = .returned (.tuple #[v, .int .i64 1]) ∧ Below w.heap.size w w' ∧ Res w' w.heap.size w'.heap.size v [] := by
  obtain ⟨hb0, hA0, hX0⟩ := fm_boxes w d p c b2 n2 cap2
  have HM := Lib.hid (hM2.below hb0)
  cases hf : fldI d p with
  | false =>
    have HF := Lib.hid hf
    clear hf h hM2 hb0 hX0
    go_enter Try.func35, Try.ntmps35
    go_wp2_with fail
    refine (l01Ok_eq _ _ _ HF.out _).mono ?_
    rintro e w1 ⟨rfl, hb⟩
    have h1 := Lib.hid (hA0.next hb)
    clear hb hA0
    go_wp2_with fail
    go_ret2
    exact ⟨_, rfl, (h1.out.alloc _).b, .nil _ _⟩
  | true =>
    rw [hf] at h
    have ho : okM c ys = false := by simpa using h
    have HF := Lib.hid hf
    have HO := Lib.hid ho
    clear hf h hM2 hb0 ho
    go_enter Try.func35, Try.ntmps35
    go_wp2_with fail
    refine (l01Ok_eq _ _ _ HF.out _).mono ?_
    rintro e w1 ⟨rfl, hb⟩
    have h1 := Lib.hid (hA0.next hb)
    have hX1 := hX0.next hb
    have HM1 := Lib.hid (HM.out.below hb)
    have S := l02Ok_any (w.heap.size + 1) c b2 n2 cap2 ys _ hX1 HM1.out
    rw [HO.out] at S
    have HS := Lib.hid S
    clear hb hA0 hX0 hX1 S
    go_wp2_with fail
    refine HS.out.mono ?_
    rintro e w2 ⟨rfl, hb⟩
    have h2 := Lib.hid (h1.out.next hb)
    clear hb h1 HS
    go_wp2_with fail
    go_ret2
    exact ⟨_, rfl, (h2.out.alloc _).b, .nil _ _⟩

set_option maxHeartbeats 3200000 in
theorem specLof_B (m P n : Nat) (hF : Fld m P n) (b1 n1 cap1 : Nat) (zs : List Int) (c : Int) (b2 n2 cap2 : Nat) (ys : List Int) (ho : okM c ys = true) (i s : Bool) (hi : allIn n zs = i) (hs : i = true → basB m (nats zs) = s) (r : Int)
    (hr : (r = 2 ∧ (i && decide (c = (m : Int) ∧ (ys.length : Int) = (m : Int))) = false) ∨ (r = 4 ∧ i = true ∧ s = false ∧ c = (m : Int) ∧ (ys.length : Int) = (m : Int))) (w : World) (hM1 : Mt w b1 n1 zs) (hM2 : Mt w b2 n2 ys) :
    Calls Try.prog 35 #[.agg #[.int .i64 m, .int .i64 P], .slice (some ⟨b1, 0, none⟩) n1 cap1, .agg #[.int .i64 c, .slice (some ⟨b2, 0, none⟩) n2 cap2]] w fun e w' => ∃ v, e = .returned (.tuple #[v, .int .i64 r]) ∧ Below w.heap.size w w' ∧ Res w' w.heap.size w'.heap.size v [] := by
  obtain ⟨hb0, hA0, hX0⟩ := fm_boxes w m P c b2 n2 cap2
  have HM := Lib.hid (hM2.below hb0)
  have HN := Lib.hid (hM1.below hb0)
  have HF := Lib.hid (fldI_of hF.f)
  have HO := Lib.hid ho
  have HL := Lib.hid hM2.len
  have hsm := hM2.small
  have hm5 := hF.m5
  have HB := Lib.hid (fun w hM => l03Based_any m P n hF b1 n1 cap1 zs i s hi hs w hM)
  have HR := Lib.hid hr
  clear hM1 hM2 ho hi hs hb0 hr
  go_enter Try.func35, Try.ntmps35
  go_wp2_with fail
  refine (l01Ok_eq _ _ _ HF.out _).mono ?_
  rintro e w1 ⟨rfl, hb⟩
  have h1 := hA0.next hb
  have hX1 := hX0.next hb
  have HM1 := Lib.hid (HM.out.below hb)
  have HN1 := Lib.hid (HN.out.below hb)
  have S := l02Ok_any (w.heap.size + 1) c b2 n2 cap2 ys _ hX1 HM1.out
  rw [HO.out] at S
  have HS := Lib.hid S
  have H1 := Lib.hid h1
  have HX1 := Lib.hid hX1
  clear hb hA0 hX0 hX1 h1 S HM HN
  go_wp2_with fail
  refine HS.out.mono ?_
  rintro e w2 ⟨rfl, hb⟩
  have h2 := H1.out.next hb
  have hX2 := HX1.out.next hb
  have HN2 := Lib.hid (HN1.out.below hb)
  have d0 := h2.c0; have d1 := h2.c1
  have H2 := Lib.hid h2
  have HX2 := Lib.hid hX2
  clear hb HS H1 HX1 HM1 HN1 h2 hX2
  go_wp2_with fail
  refine (HB.out _ HN2.out).mono ?_
  rintro e w3 ⟨rfl, hb⟩
  have h3 := H2.out.next hb
  have hX3 := HX2.out.next hb
  have e0 := h3.c0; have e1 := h3.c1
  have g0 := hX3.c0; have g1 := hX3.c1
  have H3 := Lib.hid h3
  clear hb H2 HX2 HN2 h3 hX3 d0 d1
  rcases HR.out with ⟨rfl, hr⟩ | ⟨rfl, rfl, rfl, hc, hl⟩
  · cases i with
    | false =>
      rw [show cB false s = 2 from rfl]
      clear hr
      go_wp2_with fail
      go_ret2
      exact ⟨_, rfl, (H3.out.alloc _).b, .nil _ _⟩
    | true =>
      have hr' : ¬ (c = (m : Int) ∧ (ys.length : Int) = (m : Int)) := by simpa using hr
      rw [HL.out] at hr'
      clear hr
      cases s with
      | false =>
        rw [show cB true false = 4 from rfl]
        by_cases hc : c = (m : Int)
        · subst hc
          have hnm : ((n2 : Int) != (m : Int)) = true := by simp; intro e; exact hr' ⟨rfl, by omega⟩
          have hnm2 : ¬ (n2 : Int) = (m : Int) := fun e => hr' ⟨rfl, e⟩
          clear hr'
          go_wp2_with fail
          go_ret2
          exact ⟨_, rfl, (H3.out.alloc _).b, .nil _ _⟩
        · have hcm : (c != (m : Int)) = true := by simpa using hc
          clear hr'
          go_wp2_with fail
          go_ret2
          exact ⟨_, rfl, (H3.out.alloc _).b, .nil _ _⟩
      | true =>
        rw [show cB true true = 0 from rfl]
        by_cases hc : c = (m : Int)
        · subst hc
          have hnm : ((n2 : Int) != (m : Int)) = true := by simp; intro e; exact hr' ⟨rfl, by omega⟩
          have hnm2 : ¬ (n2 : Int) = (m : Int) := fun e => hr' ⟨rfl, e⟩
          clear hr'
          go_wp2_with fail
          go_ret2
          exact ⟨_, rfl, (H3.out.alloc _).b, .nil _ _⟩
        · have hcm : (c != (m : Int)) = true := by simpa using hc
          clear hr'
          go_wp2_with fail
          go_ret2
          exact ⟨_, rfl, (H3.out.alloc _).b, .nil _ _⟩
  · rw [show cB true false = 4 from rfl]
    subst hc
    rw [HL.out] at hl
    have hl2 : n2 = m := by omega
    subst hl2
    clear hl
    go_wp2_with fail
    go_ret2
    exact ⟨_, rfl, (H3.out.alloc _).b, .nil _ _⟩
set_option maxRecDepth 100000 in
set_option maxHeartbeats 6400000 in
theorem specLof_C (m P n : Nat) (hF : Fld m P n) (b1 n1 cap1 : Nat) (zs : List Int) (b2 n2 cap2 : Nat) (L : List Nat) (hO : OkM m L) (hl : L.length = m) (hi : allIn n zs = true) (hs : basB m (nats zs) = true) (w : World) (hM1 : Mt w b1 n1 zs) (hM2 : Mt w b2 n2 (ints L)) :
    Calls Try.prog 35 #[.agg #[.int .i64 m, .int .i64 P], .slice (some ⟨b1, 0, none⟩) n1 cap1, .agg #[.int .i64 m, .slice (some ⟨b2, 0, none⟩) n2 cap2]] w fun e w' => ∃ v, e = .returned (.tuple #[v, .int .i64 0]) ∧ Below w.heap.size w w' ∧ Res w' w.heap.size w'.heap.size v (ints (ip P n (nth (nats zs)) (nth (sms (nats zs) L m m)) m).2) := by
  obtain ⟨i0, hi0, hz0, hz1, hz2⟩ := info_parts Try.infoI
  obtain ⟨hb0, hA0, hX0⟩ := fm_boxes w m P m b2 n2 cap2
  have hsm := hM2.small
  have hm5 := hF.m5
  have h32 := hF.n32
  have hn2 := hF.n2
  obtain rfl : n2 = m := by have := hM2.len; rw [ints_length] at this; omega
  obtain rfl : n1 = n2 := by have := hM1.len; have h2 := (basB_bas hs).len; rw [nats_length] at h2; omega
  have HW1 := Lib.hid hM1
  have HW2 := Lib.hid hM2
  have HM := Lib.hid (hM2.below hb0)
  have HN := Lib.hid (hM1.below hb0)
  have HF := Lib.hid (fldI_of hF.f)
  have HOK := Lib.hid (okM_ints hO)
  have HLt := Lib.hid hO.lt
  have HI := Lib.hid hi
  have HBas := Lib.hid hs
  have HX := Lib.hid (nats_lt hi (by omega))
  have HX32 : Hid (∀ j, nth (nats zs) j < 4294967296) := fun j => by have := HX.out j; omega
  have RX := Lib.hid (hM1.rl hi)
  have HB := Lib.hid (fun w hM => l03Based_any n1 P n hF b1 n1 cap1 zs true true hi (fun _ => hs) w hM)
  have HL := Lib.hid hl
  clear hM1 hM2 hi hs hb0 hO hl
  go_enter Try.func35, Try.ntmps35
  go_wp2_with fail
  refine (l01Ok_eq _ _ _ HF.out _).mono ?_
  rintro e w1 ⟨rfl, hb⟩
  have h1 := hA0.next hb
  have hX1 := hX0.next hb
  have HM1 := Lib.hid (HM.out.below hb)
  have HN1 := Lib.hid (HN.out.below hb)
  have S := l02Ok_any (w.heap.size + 1) n1 b2 n1 cap2 (ints L) _ hX1 HM1.out
  rw [HOK.out] at S
  have HS := Lib.hid S
  have H1 := Lib.hid h1
  have HX1 := Lib.hid hX1
  clear hb hA0 hX0 hX1 h1 S HM HN
  go_wp2_with fail
  refine HS.out.mono ?_
  rintro e w2 ⟨rfl, hb⟩
  have h2 := H1.out.next hb
  have hX2 := HX1.out.next hb
  have HN2 := Lib.hid (HN1.out.below hb)
  have d0 := h2.c0; have d1 := h2.c1
  have H2 := Lib.hid h2
  have HX2 := Lib.hid hX2
  clear hb HS H1 HX1 HM1 HN1 h2 hX2
  go_wp2_with fail
  refine (HB.out _ HN2.out).mono ?_
  rintro e w3 ⟨rfl, hb⟩
  have h3 := H2.out.next hb
  have hX3 := HX2.out.next hb
  have e0 := h3.c0; have e1 := h3.c1
  have g0 := hX3.c0; have g1 := hX3.c1
  have hz3 : w.heap.size + 2 ≤ w3.heap.size := hX3.lt
  have HA4 := Lib.hid (h3.alloc (.cells #[] 2))
  have HX4 := Lib.hid (hX3.next (below_alloc1 w3 (.cells #[] 2)))
  have HO4 : Hid (OL (w3.alloc (.cells #[] 2)) (w.heap.size + 2) (some ⟨w3.heap.size, 0, none⟩) 0 0 (sms (nats zs) L n1 0)) := ⟨rfl, World.ownsRow_made w3 #[] 0 (by omega) (by unfold maxLen; omega) (by simp)⟩
  clear hb H2 HX2 HN2 h3 hX3 d0 d1
  rw [show cB true true = 0 from rfl]
  go_wp2_with fail
  go_loopw [9, 10] (fun v i wr => ∃ (k cp : Nat) (A : Option Addr), k ≤ n1 ∧ i = .int .i64 k ∧ v = .slice A k cp ∧ FAt w n1 P wr ∧ MAt wr (w.heap.size + 1) n1 b2 n1 cap2 ∧ OL wr (w.heap.size + 2) A k cp (sms (nats zs) L n1 k)) (fun _ i _ => n1 - (intOf i).toNat)
  case atStart => exact ⟨0, 0, _, Nat.zero_le _, rfl, rfl, HA4.out, HX4.out, HO4.out⟩
  case round =>
    obtain ⟨k, cp, A, hk, rfl, rfl, hA, hM, hO⟩ := hrel
    clear HA4 HX4 HO4 e0 e1 g0 g1
    have z1 := hA.z; have c0 := hA.c0; have c1 := hA.c1
    have m0 := hM.c0; have m1 := hM.c1; have ml := hM.lt
    have HK := Lib.hid hA
    have HO := Lib.hid hO
    clear hA hM hO
    by_cases hlt : k < n1
    · have hc := (HW2.out.below HK.out.b).cell k hlt
      rw [ints_get] at hc
      obtain ⟨r, hr⟩ : ∃ r, nth L k = r := ⟨_, rfl⟩
      rw [hr] at hc
      have hr32 : r < 4294967296 := by
        have := HLt.out r (by rw [← hr]; exact nth_mem (by rw [HL.out]; exact hlt))
        have h5 : 2 ^ n1 ≤ 2 ^ 5 := Nat.pow_le_pow_right (by omega) (by omega)
        omega
      have HE := Lib.hid (sms_succ (nats zs) L n1 k)
      rw [hr] at HE
      clear hr
      obtain ⟨t, ht⟩ : ∃ t, tms r (nats zs) n1 = t := ⟨_, rfl⟩
      have HT := Lib.hid (l01Sum_any (some ⟨b1, 0, none⟩) n1 cap1 (nats zs) HX32.out (by omega) r hr32 _ (RX.out.below HK.out.b))
      rw [ht] at HT HE
      clear ht
      go_wp2_with fail
      refine HT.out.mono ?_
      rintro e w4 ⟨rfl, rfl⟩
      clear HT
      go_wp2_with (at_builtin; refine wpList_append_own _ rfl _ _ 46 rfl (w.heap.size + 2) 2 i0 (.int .i64 0) 1 8 Try.underlying46 hi0 hz0 hz1 hz2 rfl (by decide) _ _ _ rfl (HO.out.own.alloc _) ⟨wr.heap.size, 0, none⟩ 1 1 [.int .i64 t] rfl rfl (one_new _ _ _) (one_one _ _) (by unfold maxLen; omega) (by omega) (by simp; omega) ?_; intro v' w4 hown' hgrow _; have hb4 : Below (w.heap.size + 2) wr w4 := ((Below.refl _ wr).alloc (by omega) _).grown hgrow (by simp; omega) (fun g hg => (HO.out.own.lt g hg).1); have HA4 := Lib.hid (show FAt w n1 P w4 from ⟨HK.out.b.trans (hb4.mono (by omega)), Nat.le_trans HK.out.z hb4.size, (hb4.cell (p := ⟨w.heap.size, 0, none⟩) (by simp)).trans HK.out.c0, (hb4.cell (p := ⟨w.heap.size, 1, none⟩) (by simp)).trans HK.out.c1⟩); have HM4 := Lib.hid (show MAt w4 (w.heap.size + 1) n1 b2 n1 cap2 from ⟨(hb4.cell (p := ⟨w.heap.size + 1, 0, none⟩) (by simp)).trans m0, (hb4.cell (p := ⟨w.heap.size + 1, 1, none⟩) (by simp)).trans m1, Nat.lt_of_lt_of_le ml hb4.size⟩); obtain ⟨A4, cp4, hv4, hO4⟩ := OL.of (n := k + 1) (p := sms (nats zs) L n1 (k + 1)) (by rw [HE.out]; simpa [ints] using hown'); subst hv4; have HO4 := Lib.hid hO4; clear hown' hgrow hO4 hb4)
      go_roundw
      case rel => exact ⟨k + 1, cp4, A4, by omega, by go_num, rfl, HA4.out, HM4.out, HO4.out⟩
      case measure => simp [intOf]; omega
    · obtain rfl : k = n1 := by omega
      have hy := sms_lt hF.n HX.out (q := nats zs) (L := L) k
      have HI := Lib.hid (l03Interpolate_any k P n hF (some ⟨b1, 0, none⟩) A k cap1 cp (nats zs) (sms (nats zs) L k k) HX.out hy _ (by omega) (RX.out.below HK.out.b) HO.out.sv.rl)
      have HY := Lib.hid (ipr.bas_ip hF HX.out HBas.out (nth (sms (nats zs) L k k)))
      rw [HY.out] at HI
      clear hy
      go_wp2_with fail
      refine HI.out.mono ?_
      rintro e w4 ⟨D, r, cd, rfl, hb, hR⟩
      have hle := (ip_le P n (nth (nats zs)) (nth (sms (nats zs) L k k)) k).2
      have hs := (hR trivial).sv.len
      have HR := Lib.hid (((hR trivial).res (by omega)).wide2 (B' := w.heap.size) HK.out.b.size)
      have HB5 := Lib.hid (HK.out.next hb)
      clear hb hR hle hs HI
      go_wp2_with fail
      go_ret2
      exact ⟨_, rfl, HB5.out.b, HR.out⟩
end Go.Proofs.Ytilghmfffdmnjaa
