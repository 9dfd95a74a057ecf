/- LinearOfMatrix: the program's. -/
import Derived.Test.YtilghmfffdmnjaaLofS
import Derived.Test.YtilghmfffdmnjaaBasI
import Derived.Test.YtilghmfffdmnjaaIpI
import Derived.Test.YtilghmfffdmnjaaNumb
import Derived.Test.YtilghmfffdmnjaaGridFor
import Derived.Test.YtilghmfffdmnjaaMake
namespace Go.Proofs.Ytilghmfffdmnjaa
open Go.RowKit Go.Shelf Go.Joins
attribute [local go_sem] Oper.semAt_some
set_option linter.unusedVariables false

set_option maxRecDepth 100000 in
set_option maxHeartbeats 3200000 in
theorem implLof_A (d p c : Int) (hlp : -9223372036854775808 ≤ p) (hhp : p ≤ 9223372036854775807) (v1 : Value) (b2 n2 cap2 : Nat) (ys : List Int) (h : (fldI d p && okM c ys) = false) (w : World) (hM2 : Mt w b2 n2 ys) :
    Calls Try.prog 38 #[.agg #[.int .i64 d, .int .i64 p], v1, .agg #[.int .i64 c, .slice (some ⟨b2, 0, none⟩) n2 cap2]] w fun e w' => ∃ v, e = .returned (.tuple #[v, .int .i64 1]) ∧ Below w.heap.size w w' ∧ Res w' w.heap.size w'.heap.size v [] := by
  obtain ⟨hb0, hA0, hX0⟩ := fm_boxes w d p c b2 n2 cap2
  have hM := hM2.below hb0
  cases hk : okM c ys with
  | false =>
    have HB0 := Lib.hid hb0
    have HG := Lib.hid (fun w hM => gridFor_no c b2 n2 cap2 ys w hM hk)
    have HM := Lib.hid hM
    clear h hM2 hb0 hM hk hA0 hX0
    go_enter Try.func38, Try.ntmps38
    go_wp2_with fail
    refine (HG.out _ HM.out).mono ?_
    rintro e w1 ⟨rfl, hb⟩
    have hb1 := HB0.out.trans (hb.mono HB0.out.size)
    obtain ⟨w2, hst, hG2, hb'⟩ := grid_put w1 [] 0 (by simp) (by intro j; simp [nth])
    have HB2 := Lib.hid (hb1.trans (hb'.mono hb1.size))
    clear hb hb1 hb' hG2
    go_wp2_with fail
    go_ret2
    exact ⟨_, rfl, HB2.out, .nil _ _⟩
  | true =>
    rw [hk] at h
    have hf : fldI d p = false := by simpa using h
    obtain ⟨C, L, rfl, rfl, hO⟩ := okM_nat hk
    have HB0 := Lib.hid hb0
    have HF := Lib.hid hf
    have HO := Lib.hid hO
    have hA := Lib.hid hA0
    have HG := Lib.hid (gridFor_yes C L hO b2 n2 cap2 _ hM)
    clear h hM2 hb0 hM hk hf hA0 hX0
    go_enter Try.func38, Try.ntmps38
    go_wp2_with fail
    refine HG.out.mono ?_
    rintro e w1 ⟨rfl, hb⟩
    have hb1 := HB0.out.trans (hb.mono HB0.out.size)
    obtain ⟨w2, hst, hG2, hb'⟩ := grid_put w1 L C HO.out.n10 (fun j => Nat.lt_trans (HO.out.get' j) (by omega))
    have hA2 := (hA.out.next hb).next hb'
    have c0 := hA2.c0; have c1 := hA2.c1
    have HB2 := Lib.hid (hb1.trans (hb'.mono hb1.size))
    clear hb hb1 hb' hG2 HG hA2
    go_wp2_with fail
    refine (calculatorFor_invalid d p HF.out hlp hhp _ _).mono ?_
    rintro e w3 ⟨rfl, hb⟩
    have HB3 := Lib.hid (HB2.out.trans (hb.mono HB2.out.size))
    clear hb c0 c1
    go_wp2_with fail
    go_ret2
    exact ⟨_, rfl, HB3.out, .nil _ _⟩

set_option maxRecDepth 100000 in
set_option maxHeartbeats 3200000 in
theorem implLof_B (m P n : Nat) (hF : Fld m P n) (b1 n1 cap1 : Nat) (zs : List Int) (C : Nat) (L : List Nat) (hO : OkM C L) (b2 n2 cap2 : Nat) (hi : allIn n zs = false) (w : World) (hM1 : Mt w b1 n1 zs) (hM2 : Mt w b2 n2 (ints L)) :
    Calls Try.prog 38 #[.agg #[.int .i64 m, .int .i64 P], .slice (some ⟨b1, 0, none⟩) n1 cap1, .agg #[.int .i64 C, .slice (some ⟨b2, 0, none⟩) n2 cap2]] w fun e w' => ∃ v, e = .returned (.tuple #[v, .int .i64 2]) ∧ Below w.heap.size w w' ∧ Res w' w.heap.size w'.heap.size v [] := by
  obtain ⟨hb0, hA0, hX0⟩ := fm_boxes w m P C b2 n2 cap2
  have hsm := hM1.small
  have hm5 := hF.m5
  have h32 := hF.n32
  have hn2 := hF.n2
  have HB0 := Lib.hid hb0
  have HA := Lib.hid hA0
  have HN := Lib.hid hM1
  have HG := Lib.hid (gridFor_yes C L hO b2 n2 cap2 _ (hM2.below hb0))
  have HO := Lib.hid hO
  have HI := Lib.hid hi
  clear hM1 hM2 hb0 hA0 hX0 hO hi
  go_enter Try.func38, Try.ntmps38
  go_wp2_with fail
  refine HG.out.mono ?_
  rintro e w1 ⟨rfl, hb⟩
  have hb1 := HB0.out.trans (hb.mono HB0.out.size)
  obtain ⟨w2, hst, hG2, hb'⟩ := grid_put w1 L C HO.out.n10 (fun j => Nat.lt_trans (HO.out.get' j) (by omega))
  have hA2 := (HA.out.next hb).next hb'
  have c0 := hA2.c0; have c1 := hA2.c1
  have hb2 := hb1.trans (hb'.mono hb1.size)
  have HN2 := Lib.hid (HN.out.below hb2)
  have HA2 := Lib.hid hA2
  have HB2 := Lib.hid hb2
  have HG2 := Lib.hid hG2
  clear hb hb1 hb' hG2 HG hA2 hb2
  go_wp2_with fail
  refine (calculatorFor_B m P n hF _ _ n1 cap1 zs HN2.out.arg (by omega) HI.out).mono ?_
  rintro e w3 ⟨rfl, hb⟩
  have HB3 := Lib.hid (HB2.out.trans (hb.mono HB2.out.size))
  clear hb c0 c1
  go_wp2_with fail
  go_ret2
  exact ⟨_, rfl, HB3.out, .nil _ _⟩

set_option maxRecDepth 100000 in
set_option maxHeartbeats 3200000 in
theorem implLof_D (m P n : Nat) (hF : Fld m P n) (b1 n1 cap1 : Nat) (zs : List Int) (C : Nat) (L : List Nat) (hO : OkM C L) (b2 n2 cap2 : Nat) (hi : allIn n zs = true) (hd : ¬ (C = m ∧ L.length = m)) (w : World) (hM1 : Mt w b1 n1 zs) (hM2 : Mt w b2 n2 (ints L)) :
    Calls Try.prog 38 #[.agg #[.int .i64 m, .int .i64 P], .slice (some ⟨b1, 0, none⟩) n1 cap1, .agg #[.int .i64 C, .slice (some ⟨b2, 0, none⟩) n2 cap2]] w fun e w' => ∃ v, e = .returned (.tuple #[v, .int .i64 2]) ∧ Below w.heap.size w w' ∧ Res w' w.heap.size w'.heap.size v [] := by
  obtain ⟨hb0, hA0, hX0⟩ := fm_boxes w m P C b2 n2 cap2
  have hsm := hM1.small
  have hm5 := hF.m5
  have h32 := hF.n32
  have hn2 := hF.n2
  have HB0 := Lib.hid hb0
  have HA := Lib.hid hA0
  have HN := Lib.hid hM1
  have HG := Lib.hid (gridFor_yes C L hO b2 n2 cap2 _ (hM2.below hb0))
  have HO := Lib.hid hO
  have HI := Lib.hid hi
  clear hM1 hM2 hb0 hA0 hX0 hO hi
  go_enter Try.func38, Try.ntmps38
  go_wp2_with fail
  refine HG.out.mono ?_
  rintro e w1 ⟨rfl, hb⟩
  have hb1 := HB0.out.trans (hb.mono HB0.out.size)
  obtain ⟨w2, hst, hG2, hb'⟩ := grid_put w1 L C HO.out.n10 (fun j => Nat.lt_trans (HO.out.get' j) (by omega))
  have hA2 := (HA.out.next hb).next hb'
  have c0 := hA2.c0; have c1 := hA2.c1
  have hb2 := hb1.trans (hb'.mono hb1.size)
  have HN2 := Lib.hid (HN.out.below hb2)
  have HA2 := Lib.hid hA2
  have HB2 := Lib.hid hb2
  have HG2 := Lib.hid hG2
  clear hb hb1 hb' hG2 HG hA2 hb2
  go_wp2_with fail
  refine (calculatorFor_C m P n hF _ _ n1 cap1 zs HN2.out.arg (by omega) HI.out).mono ?_
  rintro e w3 ⟨cc, rfl, hb, hC, hcc⟩
  have HB3 := Lib.hid (HB2.out.trans (hb.mono HB2.out.size))
  have hG3 := HG2.out.below hb
  have HA3 := Lib.hid (HA2.out.next hb)
  have HC3 := Lib.hid hC
  have g0 := hG3.c0
  have g11 := hG3.c11
  have k0 := hC.deg
  have HG3 := Lib.hid hG3
  clear hb hC hcc hG3 c0 c1 hst HG2 HA2
  by_cases hc : C = m
  · subst hc
    have hl : ¬ (L.length : Int) = (C : Int) := by omega
    have hl2 : ((L.length : Int) != (C : Int)) = true := by simpa using hl
    go_wp2_with fail
    go_quiet (fail)
    go_wp2_with fail
    go_ret2
    exact ⟨_, rfl, below_drewN HB3.out _, .nil _ _⟩
  · have hl : ¬ (C : Int) = (m : Int) := by omega
    have hl2 : ((C : Int) != (m : Int)) = true := by simpa using hl
    go_wp2_with fail
    go_quiet (fail)
    go_wp2_with fail
    go_ret2
    exact ⟨_, rfl, below_drewN HB3.out _, .nil _ _⟩

set_option maxRecDepth 100000 in
set_option maxHeartbeats 3200000 in
theorem implLof_S (m P n : Nat) (hF : Fld m P n) (b1 n1 cap1 : Nat) (zs : List Int) (L : List Nat) (hO : OkM m L) (b2 n2 cap2 : Nat) (hi : allIn n zs = true) (hl : L.length = m) (hs : basB m (nats zs) = false) (w : World) (hM1 : Mt w b1 n1 zs) (hM2 : Mt w b2 n2 (ints L)) :
    Calls Try.prog 38 #[.agg #[.int .i64 m, .int .i64 P], .slice (some ⟨b1, 0, none⟩) n1 cap1, .agg #[.int .i64 m, .slice (some ⟨b2, 0, none⟩) n2 cap2]] w fun e w' => ∃ v, e = .returned (.tuple #[v, .int .i64 4]) ∧ Below w.heap.size w w' ∧ Res w' w.heap.size w'.heap.size v [] := by
  have HX := Lib.hid (nats_lt hi (by have := hF.n2; omega))
  have HX256 : Hid (∀ j, nth (nats zs) j < 256) := fun j => by have := HX.out j; have := hF.n32; omega
  have RX := Lib.hid (hM1.rl hi)
  have HL := Lib.hid hl
  have HBas := Lib.hid hs
  have hsm' := hM1.small
  have HCo := Lib.hid (fun c w hC hR => coordinates_any c m P _ hF (some ⟨b1, 0, none⟩) n1 cap1 (nats zs) HX.out hsm' w hC hR)
  rw [hs] at HCo
  obtain ⟨hb0, hA0, hX0⟩ := fm_boxes w m P m b2 n2 cap2
  have hsm := hM1.small
  have hm5 := hF.m5
  have h32 := hF.n32
  have hn2 := hF.n2
  have HB0 := Lib.hid hb0
  have HA := Lib.hid hA0
  have HN := Lib.hid hM1
  have HG := Lib.hid (gridFor_yes m L hO b2 n2 cap2 _ (hM2.below hb0))
  have HO := Lib.hid hO
  have HI := Lib.hid hi
  clear hM1 hM2 hb0 hA0 hX0 hO hi
  go_enter Try.func38, Try.ntmps38
  go_wp2_with fail
  refine HG.out.mono ?_
  rintro e w1 ⟨rfl, hb⟩
  have hb1 := HB0.out.trans (hb.mono HB0.out.size)
  obtain ⟨w2, hst, hG2, hb'⟩ := grid_put w1 L m HO.out.n10 (fun j => Nat.lt_trans (HO.out.get' j) (by omega))
  have hA2 := (HA.out.next hb).next hb'
  have c0 := hA2.c0; have c1 := hA2.c1
  have hb2 := hb1.trans (hb'.mono hb1.size)
  have HN2 := Lib.hid (HN.out.below hb2)
  have HA2 := Lib.hid hA2
  have HB2 := Lib.hid hb2
  have HG2 := Lib.hid hG2
  clear hb hb1 hb' hG2 HG hA2 hb2
  go_wp2_with fail
  refine (calculatorFor_C m P n hF _ _ n1 cap1 zs HN2.out.arg (by omega) HI.out).mono ?_
  rintro e w3 ⟨cc, rfl, hb, hC, hcc⟩
  have HB3 := Lib.hid (HB2.out.trans (hb.mono HB2.out.size))
  have hG3 := HG2.out.below hb
  have HA3 := Lib.hid (HA2.out.next hb)
  have HC3 := Lib.hid hC
  have g0 := hG3.c0
  have g11 := hG3.c11
  have k0 := hC.deg
  have HG3 := Lib.hid hG3
  clear hb hC hcc hG3 c0 c1 hst HG2 HA2
  have hl1 : ((L.length : Int) != (m : Int)) = false := by rw [HL.out]; simp
  have hl2 : (L.length : Int) = (m : Int) := by rw [HL.out]
  clear hl hs
  go_wp2_with fail
  go_quiet (fail)
  go_wp2_with fail
  have hb4 := below_drewN HB3.out nq
  have HC4 : Hid (Calc cc m P n (w3.drewN nq)) := ⟨HC3.out.deg, HC3.out.tab⟩
  have HG4 := Lib.hid (HG3.out.drewN nq)
  have HB4 := Lib.hid hb4
  have hlt4 : w1.heap.size < (w3.drewN nq).heap.size := HG4.out.lt
  clear hb4 g0 g11 k0 hl1 hl2
  generalize w3.drewN nq = W4 at HC4 HG4 HB4 hlt4 ⊢
  refine (HCo.out cc _ HC4.out (RX.out.below HB4.out)).mono ?_
  rintro e w5 ⟨f, rfl, hb, _⟩
  have HB5 := Lib.hid (HB4.out.trans (hb.mono HB4.out.size))
  have HG5 := Lib.hid (HG4.out.below hb)
  have HC5 := Lib.hid (HC4.out.below HC4.out.lt hb)
  have hz := HB5.out.size
  clear hb HC4 HG4 HB4 hlt4
  go_wp2_with (refine arr_store rfl _ _ rfl w5.heap.size (fun _ => 0) f rfl rfl (AAt.start w5 (fun _ => 0) 77) ?_; intro W2 HA2 HO2)
  go_ret2
  exact ⟨_, rfl, HO2.out.below (HB5.out.alloc (Nat.le_trans (Nat.le_refl _) hz) _) hz, .nil _ _⟩

set_option maxRecDepth 100000 in
set_option maxHeartbeats 6400000 in
theorem implLof_C (m P n : Nat) (hF : Fld m P n) (b1 n1 cap1 : Nat) (zs : List Int) (L : List Nat) (hO : OkM m L) (b2 n2 cap2 : Nat) (hi : allIn n zs = true) (hl : L.length = m) (hs : basB m (nats zs) = true) (w : World) (hM1 : Mt w b1 n1 zs) (hM2 : Mt w b2 n2 (ints L)) :
    Calls Try.prog 38 #[.agg #[.int .i64 m, .int .i64 P], .slice (some ⟨b1, 0, none⟩) n1 cap1, .agg #[.int .i64 m, .slice (some ⟨b2, 0, none⟩) n2 cap2]] w fun e w' => ∃ v, e = .returned (.tuple #[v, .int .i64 0]) ∧ Below w.heap.size w w' ∧ Res w' w.heap.size w'.heap.size v (ints (ip P n (nth (nats zs)) (nth (sms (nats zs) L m m)) m).2) := by
  obtain ⟨i0, hi0, hz0, hz1, hz2⟩ := info_parts Try.infoI
  have HY := Lib.hid (ipr.bas_ip hF (nats_lt hi (by have := hF.n2; omega)) hs (nth (sms (nats zs) L m m)))
  obtain rfl : n1 = m := by have := hM1.len; have h2 := (basB_bas hs).len; rw [nats_length] at h2; omega
  have HX := Lib.hid (nats_lt hi (by have := hF.n2; omega))
  have HX256 : Hid (∀ j, nth (nats zs) j < 256) := fun j => by have := HX.out j; have := hF.n32; omega
  have RX := Lib.hid (hM1.rl hi)
  have HL := Lib.hid hl
  have HBas := Lib.hid hs
  have hsm' := hM1.small
  have HCo := Lib.hid (fun c w hC hR => coordinates_any c n1 P _ hF (some ⟨b1, 0, none⟩) n1 cap1 (nats zs) HX.out hsm' w hC hR)
  rw [hs] at HCo
  obtain ⟨hb0, hA0, hX0⟩ := fm_boxes w n1 P n1 b2 n2 cap2
  have hsm := hM1.small
  have hm5 := hF.m5
  have h32 := hF.n32
  have hn2 := hF.n2
  have HB0 := Lib.hid hb0
  have HA := Lib.hid hA0
  have HN := Lib.hid hM1
  have HG := Lib.hid (gridFor_yes n1 L hO b2 n2 cap2 _ (hM2.below hb0))
  have HO := Lib.hid hO
  have HI := Lib.hid hi
  clear hM1 hM2 hb0 hA0 hX0 hO hi
  go_enter Try.func38, Try.ntmps38
  go_wp2_with fail
  refine HG.out.mono ?_
  rintro e w1 ⟨rfl, hb⟩
  have hb1 := HB0.out.trans (hb.mono HB0.out.size)
  obtain ⟨w2, hst, hG2, hb'⟩ := grid_put w1 L n1 HO.out.n10 (fun j => Nat.lt_trans (HO.out.get' j) (by omega))
  have hA2 := (HA.out.next hb).next hb'
  have c0 := hA2.c0; have c1 := hA2.c1
  have hb2 := hb1.trans (hb'.mono hb1.size)
  have HN2 := Lib.hid (HN.out.below hb2)
  have HA2 := Lib.hid hA2
  have HB2 := Lib.hid hb2
  have HG2 := Lib.hid hG2
  clear hb hb1 hb' hG2 HG hA2 hb2
  go_wp2_with fail
  refine (calculatorFor_C n1 P n hF _ _ n1 cap1 zs HN2.out.arg (by omega) HI.out).mono ?_
  rintro e w3 ⟨cc, rfl, hb, hC, hcc⟩
  have HB3 := Lib.hid (HB2.out.trans (hb.mono HB2.out.size))
  have hG3 := HG2.out.below hb
  have HA3 := Lib.hid (HA2.out.next hb)
  have HC3 := Lib.hid hC
  have g0 := hG3.c0
  have g11 := hG3.c11
  have k0 := hC.deg
  have HG3 := Lib.hid hG3
  clear hb hC hcc hG3 c0 c1 hst HG2 HA2
  have hl1 : ((L.length : Int) != (n1 : Int)) = false := by rw [HL.out]; simp
  have hl2 : (L.length : Int) = (n1 : Int) := by rw [HL.out]
  clear hl hs
  go_wp2_with fail
  go_quiet (fail)
  go_wp2_with fail
  have hb4 := below_drewN HB3.out nq
  have HC4 : Hid (Calc cc n1 P n (w3.drewN nq)) := ⟨HC3.out.deg, HC3.out.tab⟩
  have HG4 := Lib.hid (HG3.out.drewN nq)
  have HB4 := Lib.hid hb4
  have hlt4 : w1.heap.size < (w3.drewN nq).heap.size := HG4.out.lt
  clear hb4 g0 g11 k0 hl1 hl2
  generalize w3.drewN nq = W4 at HC4 HG4 HB4 hlt4 ⊢
  refine (HCo.out cc _ HC4.out (RX.out.below HB4.out)).mono ?_
  rintro e w5 ⟨f, rfl, hb, _⟩
  have HB5 := Lib.hid (HB4.out.trans (hb.mono HB4.out.size))
  have HG5 := Lib.hid (HG4.out.below hb)
  have HC5 := Lib.hid (HC4.out.below HC4.out.lt hb)
  have hz := HB5.out.size
  clear hb HC4 HG4 HB4 hlt4
  have hzg : w1.heap.size < w5.heap.size := HG5.out.lt
  go_wp2_with (refine arr_store rfl _ _ rfl w5.heap.size (fun _ => 0) f rfl rfl (AAt.start w5 (fun _ => 0) 77) ?_; intro W6 HA6 HO6)
  have HB6 := Lib.hid (HO6.out.below (HB5.out.alloc (Nat.le_trans (Nat.le_refl _) hz) _) hz)
  have hb56 : Below w5.heap.size w5 W6 := HO6.out.below (below_alloc1 w5 _) (Nat.le_refl _)
  have hG6 := HG5.out.below hb56
  have HC6 := Lib.hid (HC5.out.below HC5.out.lt hb56)
  clear HA6 HO6 hb56 HG5 HC5 HB5 hz hzg
  refine (all_any w1.heap.size L n1 W6 hG6).mono ?_
  rintro e w7 ⟨rfl, q0, rfl⟩
  have HG7 := Lib.hid (hG6.drewN q0)
  have HC7 : Hid (Calc cc n1 P n (W6.drewN q0)) := ⟨HC6.out.deg, HC6.out.tab⟩
  have HB7 := Lib.hid (below_drewN HB6.out q0)
  clear hG6 HC6 HB6
  generalize W6.drewN q0 = W7 at HG7 HC7 HB7 ⊢
  rw [HL.out]
  go_wp2_with fail
  go_loopw [13, 63] (fun v i wr => ∃ (k cp : Nat) (A : Option Addr), k ≤ n1 ∧ i = .int .i64 k ∧ v = .slice A k cp ∧ Below W7.heap.size W7 wr ∧ OL wr W7.heap.size A k cp (sms (nats zs) L n1 k)) (fun _ i _ => n1 - (intOf i).toNat)
  case atStart => exact ⟨0, 0, none, Nat.zero_le _, rfl, rfl, Below.refl _ _, ⟨rfl, World.ownsRow_nil _ _ _ _⟩⟩
  case round =>
    obtain ⟨k, cp, A, hk, rfl, rfl, hB, hO⟩ := hrel
    have HB := Lib.hid hB
    have hzb := hB.size
    have HOL := Lib.hid hO
    have HW := Lib.hid (HB7.out.trans (hB.mono HB7.out.size))
    clear hB hO
    by_cases hlt : k < n1
    · have hc := (HG7.out.below HB.out).row k (by omega)
      obtain ⟨r, hr⟩ : ∃ r, nth L k = r := ⟨_, rfl⟩
      rw [hr] at hc
      have hr32 : r < 4294967296 := by have := HO.out.get' k; omega
      have HE := Lib.hid (sms_succ (nats zs) L n1 k)
      rw [hr] at HE
      have ht256 : tms r (nats zs) n1 < 256 := by
        have h1 := tms_lt (C := n1) (L := nats zs) (fun j => by rw [hF.n]; exact HX.out j) r n1
        rw [hF.n] at h1; omega
      clear hr
      have HT := Lib.hid (chosenSum_any (some ⟨b1, 0, none⟩) n1 cap1 (nats zs) HX256.out (by omega) r hr32 _ (RX.out.below HW.out))
      generalize tms r (nats zs) n1 = t at HT HE ht256
      go_wp2_with fail
      refine HT.out.mono ?_
      rintro e w8 ⟨rfl, rfl⟩
      clear HT
      go_wp2_with (at_builtin; refine wpList_append_own _ rfl _ _ 46 rfl W7.heap.size 2 i0 (.int .i64 0) 1 8 Try.underlying46 hi0 hz0 hz1 hz2 rfl (by decide) _ _ _ rfl (HOL.out.own.alloc _) ⟨wr.heap.size, 0, none⟩ 1 1 [.int .i64 t] rfl rfl (one_new _ _ _) (one_one _ _) (by unfold maxLen; omega) (by omega) (by simp; omega) ?_; intro v' w4 hown' hgrow _; have hb4 : Below W7.heap.size wr w4 := ((Below.refl _ wr).alloc HB.out.size _).grown hgrow (by have := HB.out.size; simp; omega) (fun g hg => (HOL.out.own.lt g hg).1); have HB4' := Lib.hid (HB.out.trans hb4); obtain ⟨A4, cp4, hv4, hO4⟩ := OL.of (n := k + 1) (p := sms (nats zs) L n1 (k + 1)) (by rw [HE.out]; simpa [ints] using hown'); subst hv4; have HO4 := Lib.hid hO4; clear hown' hgrow hO4 hb4)
      go_roundw
      case rel => exact ⟨k + 1, cp4, A4, by omega, by go_num, rfl, HB4'.out, HO4.out⟩
      case measure => simp [intOf]; omega
    · obtain rfl : k = n1 := by omega
      have hy := sms_lt hF.n HX.out (q := nats zs) (L := L) k
      have HH := Lib.hid (interpolated_any cc k P n hF (some ⟨b1, 0, none⟩) A k cap1 cp (nats zs) (sms (nats zs) L k k) HX.out hy _ (by omega) (HC7.out.below HC7.out.lt HB.out) (RX.out.below HW.out) HOL.out.sv.rl)
      rw [HY.out] at HH
      clear hy
      go_wp2_with fail
      refine HH.out.mono ?_
      rintro e w8 ⟨D, r, cd, rfl, hb, hR⟩
      have HB8 := Lib.hid (HW.out.trans (hb.mono HW.out.size))
      have hle := (ip_le P n (nth (nats zs)) (nth (sms (nats zs) L k k)) k).2
      have HR := Lib.hid (hR trivial)
      have hsz := HR.out.len
      have hr20 : r ≤ 1048576 := by omega
      have H256 := Lib.hid (fun i => show nth (ip P n (nth (nats zs)) (nth (sms (nats zs) L k k)) k).2 i < 256 by have := (ip_lt hF (nth (nats zs)) (nth (sms (nats zs) L k k)) k).2 i; omega)
      clear hR hle hsz hb HH
      go_wp2_with fail
      refine (numbers_any D r cd _ hr20 H256.out _ HR.out).mono ?_
      rintro e w9 ⟨b3, rfl, hbb, hb, hM⟩
      have hz := HB8.out.size
      have HB9 := Lib.hid (HB8.out.trans (hb.mono HB8.out.size))
      have HRES := Lib.hid (hM.res (cap := r) (B := w.heap.size) (by omega))
      clear hb hM
      go_wp2_with fail
      go_ret2
      exact ⟨_, rfl, HB9.out, HRES.out⟩
theorem below_onL {a W W' : World} (hb : Below W.heap.size W W') (h : Below a.heap.size a W) : Below a.heap.size a W' := h.trans (hb.mono h.size)
theorem Mt.next {W W' : World} {b n : Nat} {xs : List Int} (h : Mt W b n xs) (hb : Below W.heap.size W W') : Mt W' b n xs := h.below hb
theorem specLinearOfMatrix_any (d p : Int) (b1 n1 cap1 : Nat) (zs : List Int) (c : Int) (b2 n2 cap2 : Nat) (ys : List Int) (w : World) (hM1 : Mt w b1 n1 zs) (hM2 : Mt w b2 n2 ys) :
    Calls Try.prog 35 #[.agg #[.int .i64 d, .int .i64 p], .slice (some ⟨b1, 0, none⟩) n1 cap1, .agg #[.int .i64 c, .slice (some ⟨b2, 0, none⟩) n2 cap2]] w fun e w' => ∃ v, e = .returned (.tuple #[v, .int .i64 (fLinearOfMatrix d p zs c ys).2]) ∧ Below w.heap.size w w' ∧ Res w' w.heap.size w'.heap.size v (fLinearOfMatrix d p zs c ys).1 := by
  cases h : (fldI d p && okM c ys) with
  | false => rw [fLof_A h]; exact specLof_A d p c _ b2 n2 cap2 ys h w hM2
  | true =>
    simp only [Bool.and_eq_true] at h
    obtain ⟨m, P, rfl, rfl, hF⟩ := fldI_nat h.1
    have hF := Fld.of hF
    cases hd : (allIn (2 ^ m) zs && decide (c = (m : Int) ∧ (ys.length : Int) = (m : Int))) with
    | false => rw [fLof_B hF h.2 hd]; exact specLof_B m P _ hF b1 n1 cap1 zs c b2 n2 cap2 ys h.2 _ _ rfl (fun _ => rfl) 2 (.inl ⟨rfl, hd⟩) w hM1 hM2
    | true =>
      have hd' := hd
      simp only [Bool.and_eq_true, decide_eq_true_eq] at hd'
      cases hb : basB m (nats zs) with
      | false => rw [fLof_S hF h.2 hd hb]; exact specLof_B m P _ hF b1 n1 cap1 zs c b2 n2 cap2 ys h.2 _ _ rfl (fun _ => rfl) 4 (.inr ⟨rfl, hd'.1, hb, hd'.2.1, hd'.2.2⟩) w hM1 hM2
      | true =>
        rw [fLof_C hF h.2 hd hb]
        obtain ⟨C, L, rfl, rfl, hO⟩ := okM_nat h.2
        have e : C = m := by omega
        subst e
        rw [toNats_ints]
        exact specLof_C C P _ hF b1 n1 cap1 zs b2 n2 cap2 L hO (by have := hd'.2.2; rw [ints_length] at this; omega) hd'.1 hb w hM1 hM2
theorem implLinearOfMatrix_any (d p : Int) (b1 n1 cap1 : Nat) (zs : List Int) (c : Int) (b2 n2 cap2 : Nat) (ys : List Int) (w : World) (hl : -9223372036854775808 ≤ p) (hh : p ≤ 9223372036854775807) (hM1 : Mt w b1 n1 zs) (hM2 : Mt w b2 n2 ys) :
    Calls Try.prog 38 #[.agg #[.int .i64 d, .int .i64 p], .slice (some ⟨b1, 0, none⟩) n1 cap1, .agg #[.int .i64 c, .slice (some ⟨b2, 0, none⟩) n2 cap2]] w fun e w' => ∃ v, e = .returned (.tuple #[v, .int .i64 (fLinearOfMatrix d p zs c ys).2]) ∧ Below w.heap.size w w' ∧ Res w' w.heap.size w'.heap.size v (fLinearOfMatrix d p zs c ys).1 := by
  cases h : (fldI d p && okM c ys) with
  | false => rw [fLof_A h]; exact implLof_A d p c hl hh _ b2 n2 cap2 ys h w hM2
  | true =>
    simp only [Bool.and_eq_true] at h
    obtain ⟨m, P, rfl, rfl, hF⟩ := fldI_nat h.1
    have hF := Fld.of hF
    obtain ⟨C, L, rfl, rfl, hO⟩ := okM_nat h.2
    cases hi : allIn (2 ^ m) zs with
    | false => rw [fLof_B hF h.2 (by rw [hi]; rfl)]; exact implLof_B m P _ hF b1 n1 cap1 zs C L hO b2 n2 cap2 hi w hM1 hM2
    | true =>
      by_cases hd : C = m ∧ L.length = m
      · obtain ⟨e, hlen⟩ := hd
        subst e
        have hd' : (allIn (2 ^ C) zs && decide ((C : Int) = (C : Int) ∧ ((ints L).length : Int) = (C : Int))) = true := by rw [hi, ints_length, hlen]; simp
        cases hb : basB C (nats zs) with
        | false => rw [fLof_S hF h.2 hd' hb]; exact implLof_S C P _ hF b1 n1 cap1 zs L hO b2 n2 cap2 hi hlen hb w hM1 hM2
        | true =>
          rw [fLof_C hF h.2 hd' hb, toNats_ints]
          exact implLof_C C P _ hF b1 n1 cap1 zs L hO b2 n2 cap2 hi hlen hb w hM1 hM2
      · rw [fLof_B hF h.2 (by rw [hi, ints_length]; simp only [Bool.true_and, decide_eq_false_iff_not]; omega)]
        exact implLof_D m P _ hF b1 n1 cap1 zs C L hO b2 n2 cap2 hi hd w hM1 hM2
end Go.Proofs.Ytilghmfffdmnjaa
