/- MatrixOfLinear: the program, and both. -/
import Derived.Test.YtcdhdgflgdmhdaaMolS
namespace Go.Proofs.Ytcdhdgflgdmhdaa
open Go.RowKit Go.Joins
set_option linter.unusedVariables false

theorem Calc.onlyX {c m P n b : Nat} {W W' : World} (h : Calc c m P n W) (ho : Only b W W') (hb : c ≠ b) : Calc c m P n W' :=
  ⟨(ho.cell (p := ⟨c, 0, none⟩) hb).trans h.deg, fun x y hx hy => (ho.cell (p := ⟨c, 1 + x * 32 + y, none⟩) hb).trans (h.tab x y hx hy)⟩
theorem Rl.onlyX {W W' : World} {K : IntKind} {A : Option Addr} {n b : Nat} {p : List Nat} (h : Rl W K A n p) (ho : Only b W W') (hb : ∀ g, A = some ⟨g, 0, none⟩ → 0 < n → g ≠ b) : Rl W' K A n p :=
  ⟨h.len, fun h0 => by
    obtain ⟨g, e, lt, hc⟩ := h.row h0
    exact ⟨g, e, by rw [ho.size]; exact lt, fun j hj => (ho.cell (p := ⟨g, j, none⟩) (hb g e h0)).trans (hc j hj)⟩⟩

set_option maxHeartbeats 1600000 in
theorem implMatrixOfLinear_A (d p : Int) (hf : fldI d p = false) (hl : -9223372036854775808 ≤ p) (hh : p ≤ 9223372036854775807) (v1 v2 : Value) (w : World) :
    Calls Try.prog 21 #[.agg #[.int .i64 d, .int .i64 p], v1, v2] w fun e w' => ∃ v, e = .returned (.tuple #[.agg #[.int .i64 (0), v], .int .i64 1]) ∧ Below w.heap.size w w' ∧ Res w' w.heap.size w'.heap.size v [] := by
  have HF := Lib.hid hf
  have hR := room1 w d p
  have hb0 := below_alloc2 w (.cells #[.int .i64 d, .int .i64 p] 32) (.cells #[.int .i64 0, .slice none 0 0] 29)
  clear hf
  go_enter Try.func21, Try.ntmps21
  go_wp2_with fail
  refine (linearFor_A d p HF.out hl hh _ _ _).mono ?_
  rintro e w1 ⟨rfl, hb⟩
  have hR1 := hR.below hb
  have hb1 := hb0.trans (hb.mono hb0.size)
  clear hb hR hb0
  obtain ⟨x, y, h0, h1⟩ := hR1.ex
  have f0 := hR1.f0
  have f1 := hR1.f1
  go_wp2_with fail
  refine bodyPost_ret (v := .tuple #[.agg #[.int .i64 0, .slice none 0 0], .int .i64 1]) (mat_results (p := 6) (u := 7) (fn := Try.f21) rfl _ rfl (two_setCell _ _ _ _ h0 h1).1 (two_setCell _ _ _ _ h0 h1).2) rfl ⟨_, rfl, ?_, .nil none 0⟩
  exact (only2 _ _ _ _).below hb1 (by simp)

set_option maxHeartbeats 1600000 in
theorem implMatrixOfLinear_B (m P n : Nat) (hF : Fld m P n) (v1 : Value) (b2 len2 cap2 : Nat) (z2 : List Int) (hok : okL n z2 = false) (w : World) (hM2 : Mt w b2 len2 z2) :
    Calls Try.prog 21 #[.agg #[.int .i64 m, .int .i64 P], v1, .slice (some ⟨b2, 0, none⟩) len2 cap2] w fun e w' => ∃ v, e = .returned (.tuple #[.agg #[.int .i64 (0), v], .int .i64 1]) ∧ Below w.heap.size w w' ∧ Res w' w.heap.size w'.heap.size v [] := by
  have hR := room1 w m P
  have hb0 := below_alloc2 w (.cells #[.int .i64 m, .int .i64 P] 32) (.cells #[.int .i64 0, .slice none 0 0] 29)
  have HM := Lib.hid (hM2.below hb0)
  have HO := Lib.hid hok
  clear hM2 hok
  go_enter Try.func21, Try.ntmps21
  go_wp2_with fail
  refine (linearFor_B m P n hF b2 len2 cap2 z2 _ _ HM.out HO.out).mono ?_
  rintro e w1 ⟨rfl, hb⟩
  have hR1 := hR.below hb
  have hb1 := hb0.trans (hb.mono hb0.size)
  clear hb hR hb0
  obtain ⟨x, y, h0, h1⟩ := hR1.ex
  have f0 := hR1.f0
  have f1 := hR1.f1
  go_wp2_with fail
  refine bodyPost_ret (v := .tuple #[.agg #[.int .i64 0, .slice none 0 0], .int .i64 1]) (mat_results (p := 6) (u := 7) (fn := Try.f21) rfl _ rfl (two_setCell _ _ _ _ h0 h1).1 (two_setCell _ _ _ _ h0 h1).2) rfl ⟨_, rfl, ?_, .nil none 0⟩
  exact (only2 _ _ _ _).below hb1 (by simp)

set_option maxHeartbeats 1600000 in
theorem implMatrixOfLinear_R (m P n : Nat) (hF : Fld m P n) (b1 len1 cap1 : Nat) (z1 : List Int) (b2 len2 cap2 : Nat) (z2 : List Int) (hok : okL n z2 = true) (hi : allIn n z1 = false) (w : World) (hM1 : Mt w b1 len1 z1) (hM2 : Mt w b2 len2 z2) :
    Calls Try.prog 21 #[.agg #[.int .i64 m, .int .i64 P], .slice (some ⟨b1, 0, none⟩) len1 cap1, .slice (some ⟨b2, 0, none⟩) len2 cap2] w fun e w' => ∃ v, e = .returned (.tuple #[.agg #[.int .i64 (0), v], .int .i64 2]) ∧ Below w.heap.size w w' ∧ Res w' w.heap.size w'.heap.size v [] := by
  have hR := room1 w m P
  have hb0 := below_alloc2 w (.cells #[.int .i64 m, .int .i64 P] 32) (.cells #[.int .i64 0, .slice none 0 0] 29)
  have hs1 := hM1.small
  have HM := Lib.hid (hM2.below hb0)
  have HA := Lib.hid (hM1.below hb0).arg
  have HO := Lib.hid hok
  have HI := Lib.hid hi
  clear hM1 hM2 hok hi
  go_enter Try.func21, Try.ntmps21
  go_wp2_with fail
  refine (linearFor_R m P n hF b2 len2 cap2 z2 _ len1 cap1 z1 (by omega) _ HM.out HO.out HA.out HI.out).mono ?_
  rintro e w1 ⟨rfl, hb⟩
  have hR1 := hR.below hb
  have hb1 := hb0.trans (hb.mono hb0.size)
  clear hb hR hb0
  obtain ⟨x, y, h0, h1⟩ := hR1.ex
  have f0 := hR1.f0
  have f1 := hR1.f1
  go_wp2_with fail
  refine bodyPost_ret (v := .tuple #[.agg #[.int .i64 0, .slice none 0 0], .int .i64 2]) (mat_results (p := 6) (u := 7) (fn := Try.f21) rfl _ rfl (two_setCell _ _ _ _ h0 h1).1 (two_setCell _ _ _ _ h0 h1).2) rfl ⟨_, rfl, ?_, .nil none 0⟩
  exact (only2 _ _ _ _).below hb1 (by simp)

set_option maxHeartbeats 1600000 in
theorem implMatrixOfLinear_S (m P n : Nat) (hF : Fld m P n) (b1 len1 cap1 : Nat) (z1 : List Int) (b2 len2 cap2 : Nat) (z2 : List Int) (hok : okL n z2 = true) (hi : allIn n z1 = true) (hs : basB m (nats z1) = false) (w : World) (hM1 : Mt w b1 len1 z1) (hM2 : Mt w b2 len2 z2) :
    Calls Try.prog 21 #[.agg #[.int .i64 m, .int .i64 P], .slice (some ⟨b1, 0, none⟩) len1 cap1, .slice (some ⟨b2, 0, none⟩) len2 cap2] w fun e w' => ∃ v, e = .returned (.tuple #[.agg #[.int .i64 (0), v], .int .i64 4]) ∧ Below w.heap.size w w' ∧ Res w' w.heap.size w'.heap.size v [] := by
  have hn0 : 0 < n := by have := hF.n2; omega
  have hR := room1 w m P
  have hb0 := below_alloc2 w (.cells #[.int .i64 m, .int .i64 P] 32) (.cells #[.int .i64 0, .slice none 0 0] 29)
  have hs1 := hM1.small
  have HM := Lib.hid (hM2.below hb0)
  have HM1 := Lib.hid (hM1.below hb0)
  have HA := Lib.hid (hM1.below hb0).arg
  have HO := Lib.hid hok
  have HI := Lib.hid hi
  have HC := Lib.hid (fun c w hC hR => coordinates_any c m P n hF (some ⟨b1, 0, none⟩) len1 cap1 (nats z1) (nats_lt hi hn0) hs1 w hC hR)
  rw [hs] at HC
  clear hM1 hM2 hok hi hs
  go_enter Try.func21, Try.ntmps21
  go_wp2_with fail
  refine (linearFor_C m P n hF b2 len2 cap2 z2 _ len1 cap1 z1 (by omega) _ HM.out HO.out HA.out HI.out).mono ?_
  rintro e w1 ⟨c, g, rfl, hb, hCc, _⟩
  have hR1 := hR.below hb
  have hb1 := hb0.trans (hb.mono hb0.size)
  have HM11 := Lib.hid ((HM1.out.below hb).rl HI.out)
  clear hb hR hb0
  go_wp2_with fail
  refine (HC.out c _ hCc HM11.out).mono ?_
  rintro e w2 ⟨f, rfl, hb, _⟩
  have hR2 := hR1.below hb
  have hb2 := hb1.trans (hb.mono hb1.size)
  have hrz : w.heap.size + 1 < w2.heap.size := hR2.lt
  clear hb hR1 hb1 hCc
  have hR3 := Lib.hid (hR2.below (below_alloc1 w2 (.cells (arrC fun _ => 0) 76)))
  have hb3 := Lib.hid (hb2.trans ((below_alloc1 w2 (.cells (arrC fun _ => 0) 76)).mono hb2.size))
  clear hR2 hb2
  go_wp2_with (refine arr_store rfl _ _ rfl w2.heap.size (fun _ => 0) f rfl rfl (AAt.start w2 (fun _ => 0) 76) ?_; intro W2 HA2 HO2; obtain ⟨x, y, h0, h1⟩ := (hR3.out.only HO2.out (by omega)).ex; have f0 := (hR3.out.only HO2.out (by omega)).f0; have f1 := (hR3.out.only HO2.out (by omega)).f1)
  refine bodyPost_ret (v := .tuple #[.agg #[.int .i64 0, .slice none 0 0], .int .i64 4]) (mat_results (p := 6) (u := 7) (fn := Try.f21) rfl _ rfl (two_setCell _ _ _ _ h0 h1).1 (two_setCell _ _ _ _ h0 h1).2) rfl ⟨_, rfl, ?_, .nil none 0⟩
  exact (only2 _ _ _ _).below (HO2.out.below hb3.out (by omega)) (by simp)

set_option maxRecDepth 100000 in
set_option maxHeartbeats 6400000 in
theorem implMatrixOfLinear_C (m P n : Nat) (hF : Fld m P n) (b1 len1 cap1 : Nat) (z1 : List Int) (b2 len2 cap2 : Nat) (z2 : List Int) (hok : okL n z2 = true) (hi : allIn n z1 = true) (hs : basB m (nats z1) = true) (w : World) (hM1 : Mt w b1 len1 z1) (hM2 : Mt w b2 len2 z2) :
    Calls Try.prog 21 #[.agg #[.int .i64 m, .int .i64 P], .slice (some ⟨b1, 0, none⟩) len1 cap1, .slice (some ⟨b2, 0, none⟩) len2 cap2] w fun e w' => ∃ v, e = .returned (.tuple #[.agg #[.int .i64 m, v], .int .i64 0]) ∧ Below w.heap.size w w' ∧ Res w' w.heap.size w'.heap.size v (ints (mol m P (nats z1) (nats z2) m)) := by
  obtain ⟨i0, hi0, hz0, hz1, hz2'⟩ := info_parts Try.infoI
  have h32 := hF.n32
  have hm5 := hF.m5
  have hn := hF.n
  have hn0 : 0 < n := by have := hF.n2; omega
  have hBas := basB_bas hs
  have hl1 := nats_lt hi hn0
  have hlm : len1 = m := by have h1 := hM1.len; have h2 := hBas.len; have h3 := nats_length z1; omega
  subst hlm
  have hin2 := okL_in hok
  have hl2 := nats_lt hin2 hn0
  have hk2 := okL_len hok
  have hlen2 := hM2.len
  have hR := room1 w len1 P
  have hb0 := below_alloc2 w (.cells #[.int .i64 len1, .int .i64 P] 32) (.cells #[.int .i64 0, .slice none 0 0] 29)
  have HM := Lib.hid (hM2.below hb0)
  have HM1 := Lib.hid (hM1.below hb0)
  have HA := Lib.hid (hM1.below hb0).arg
  have HO := Lib.hid hok
  have HI := Lib.hid hi
  have HC := fun c w hC hR => coordinates_any c len1 P n hF (some ⟨b1, 0, none⟩) len1 cap1 (nats z1) hl1 (by omega) w hC hR
  rw [hs] at HC
  replace HC := Lib.hid HC
  have HV := Lib.hid (fun c g x hx w hC hR => value_any c len1 P n hF (some ⟨g, 0, none⟩) len2 len2 (nats z2) hl2 x hx (by omega) w hC hR)
  have HP := Lib.hid hl1
  have HVL := Lib.hid (fun x => vl_lt hF (nats z2) x)
  have HCR := Lib.hid (fun y (hy : y < n) => And.intro (crd_lt hBas (fun j => by rw [hn]; exact hl1 j) (show y < 2 ^ len1 by rw [hn]; exact hy)) (crd_tms hBas (fun j => by rw [hn]; exact hl1 j) (show y < 2 ^ len1 by rw [hn]; exact hy)))
  clear hM1 hM2 hok hi hs hBas hl1 hl2 hin2
  go_enter Try.func21, Try.ntmps21
  go_wp2_with fail
  refine (linearFor_C len1 P n hF b2 len2 cap2 z2 _ len1 cap1 z1 (by omega) _ HM.out HO.out HA.out HI.out).mono ?_
  rintro e w1 ⟨c, g, rfl, hb, hCc, hRl⟩
  have hR1 := hR.below hb
  have hb1 := hb0.trans (hb.mono hb0.size)
  have hM11 := (HM1.out.below hb).rl HI.out
  have HCc := Lib.hid hCc
  have HRl := Lib.hid hRl
  have HM11 := Lib.hid hM11
  clear hb hR hb0 hRl hCc hM11
  go_wp2_with fail
  refine (HC.out c _ HCc.out HM11.out).mono ?_
  rintro e w2 ⟨f, rfl, hb, hf⟩
  have hR2 := hR1.below hb
  have hb2 := hb1.trans (hb.mono hb1.size)
  have hC2 := HCc.out.below HCc.out.lt hb
  have hL2 := HRl.out.below hb
  have hS2 := HM11.out.below hb
  have hrz : w.heap.size + 1 < w2.heap.size := hR2.lt
  have HF2 := Lib.hid (hf trivial)
  have hba := below_alloc1 w2 (.cells (arrC fun _ => 0) 76)
  have HR3 := Lib.hid (hR2.below hba)
  have HB3 := Lib.hid (hb2.trans (hba.mono hb2.size))
  have HC3 := Lib.hid (hC2.below hC2.lt hba)
  have HL3 := Lib.hid (hL2.below hba)
  have HS3 := Lib.hid (hS2.below hba)
  have hcz := hC2.lt
  have hlz : ∀ b, some (⟨g, 0, none⟩ : Addr) = some ⟨b, 0, none⟩ → 0 < len2 → b ≠ w2.heap.size := fun b e h0 => by
    obtain ⟨g', e', hg', _⟩ := hL2.row h0
    rw [e] at e'; injection e' with e'; injection e' with e'; omega
  have hsz1 : ∀ b, some (⟨b1, 0, none⟩ : Addr) = some ⟨b, 0, none⟩ → 0 < len1 → b ≠ w2.heap.size := fun b e h0 => by
    obtain ⟨g', e', hg', _⟩ := hS2.row h0
    rw [e] at e'; injection e' with e'; injection e' with e'; omega
  clear hb hR1 hb1 HCc HRl HM11 hR2 hb2 hC2 hL2 hS2 hf hba
  go_wp2_with (refine arr_store rfl _ _ rfl w2.heap.size (fun _ => 0) f rfl rfl (AAt.start w2 (fun _ => 0) 76) ?_; intro W2 HA2 HO2; have hdg := (HO2.out.cell (p := ⟨c, 0, none⟩) (Nat.ne_of_lt hcz)).trans HC3.out.deg)
  clear hdg
  have hsz : W2.heap.size = w2.heap.size + 1 := by rw [HO2.out.size]; simp
  have hrz2 : w.heap.size + 1 < W2.heap.size := by omega
  have hq2 : w2.heap.size < W2.heap.size := by omega
  clear hsz
  have hR4 := HR3.out.only HO2.out (show w.heap.size + 1 ≠ w2.heap.size by omega)
  have HB4 := Lib.hid (HO2.out.below HB3.out (show w.heap.size ≤ w2.heap.size by omega))
  have HC4 := Lib.hid (HC3.out.onlyX HO2.out (Nat.ne_of_lt hcz))
  have HL4 := Lib.hid (HL3.out.onlyX HO2.out hlz)
  have HS4 := Lib.hid (HS3.out.onlyX HO2.out hsz1)
  have hcz4 := HC4.out.lt
  have hbo := below_alloc1 W2 (.cells #[.int .i64 len1, .slice none 0 0] 29)
  have hX := Box.one W2 (.int .i64 len1) (.slice none 0 0) 29
  have hOB : OB (W2.alloc (.cells #[.int .i64 len1, .slice none 0 0] 29)) (w.heap.size + 1) W2.heap.size (W2.heap.size + 1) len1 0 (.slice none 0 0) [] :=
    ⟨by omega, by omega, by omega, hX.c0, hX.c1, by simp [World.frozen?_alloc_at], hR4.below hbo, World.ownsRow_nil _ _ _ _, by simp⟩
  have HOB := Lib.hid hOB
  have HBO := Lib.hid hbo
  clear hOB hX hbo hR4 HR3 HB3 HC3 HL3 HS3
  go_loopw [44, 15] (fun i x wr => ∃ (k : Nat) (v : Value), k ≤ len1 ∧ i = .int .i64 k ∧ Below W2.heap.size W2 wr ∧ OB wr (w.heap.size + 1) W2.heap.size (W2.heap.size + 1) len1 k v (ints (mol len1 P (nats z1) (nats z2) k))) (fun i _ _ => len1 - (intOf i).toNat)
  case atStart => exact ⟨0, _, Nat.zero_le _, rfl, HBO.out, HOB.out⟩
  case round =>
    obtain ⟨k, v, hk, rfl, hBw, hOr⟩ := hrel
    clear HOB HBO
    by_cases hkC : k < len1
    · obtain ⟨g1, e1, hg1, hcr1⟩ := (HS4.out.below hBw).row (show 0 < len1 by omega)
      injection e1 with e1; injection e1 with e1; subst e1
      have hrow := hcr1 k hkC
      clear hcr1
      have hx := HP.out k
      have hts := mol_succ len1 P (nats z1) (nats z2) k
      generalize hxx : nth (nats z1) k = x at hrow hx hts
      have hvl := HVL.out x
      have HVX := HV.out c g x hx wr.drew (HC4.out.below hcz4 hBw.drew) (HL4.out.below hBw.drew)
      generalize hyy : vl P (nats z2) x = y at hvl hts HVX
      obtain ⟨hcl, hct⟩ := HCR.out y hvl
      have hfy := HF2.out _ (by rw [← hn]; exact hcl)
      rw [hct] at hfy
      have hay := (HA2.out.below hBw).cell y (by omega)
      rw [hfy] at hay
      obtain ⟨s, hs⟩ : ∃ s, crd len1 (nats z1) y = s := ⟨_, rfl⟩
      rw [hs] at hts hay
      have hay0 : wr.drew.cell? ⟨w2.heap.size, y, none⟩ = some (.int .i64 s) := hay
      have HTS := Lib.hid hts
      have HOr := Lib.hid hOr
      have HVX' := Lib.hid HVX
      have HBW := Lib.hid hBw
      have HOD := Lib.hid (show OB wr.drew (w.heap.size + 1) W2.heap.size (W2.heap.size + 1) len1 k v (ints (mol len1 P (nats z1) (nats z2) k)) from hOr.drewN 1)
      have a1 := hOr.a1
      have f1 := hOr.f1
      have hoz : W2.heap.size < wr.heap.size := by have := hOr.z; omega
      have e8 : IntKind.u8.wrap (x : Int) = x := by rw [IntKind.wrap_u8']; omega
      have hqz : w2.heap.size < wr.heap.size := by omega
      have hy32 : (y : Int) < 32 := by omega
      clear hts hs hOr hBw hxx hyy HVX hcl hct hfy
      go_wp2_with fail
      go_region_law (first | (refine step_append_own rfl (.tmp 49) (.tmp 57) 27 rfl (W2.heap.size + 1) 2 i0 (.int .i64 0) 1 8 Try.underlying27 hi0 hz0 hz1 hz2' rfl (by decide) v k _ (by simp [Act.eval]) (HOD.out.own.alloc _) ⟨wr.drew.heap.size, 0, none⟩ 1 1 [.int .i64 s] (by simp [Act.eval]) rfl (one_new wr.drew _ _) (one_one _ _) (by unfold maxLen; omega) (by omega) (by have := HOr.out.z; simp; omega) ?_; intro v' w4 hown' hgrow; obtain ⟨⟨g, cp, rfl⟩, hb2⟩ := HOD.out.grown hown' hgrow; obtain ⟨hN, hK⟩ := HOD.out.step hb2 hown'; have t1 := (hb2.cell (p := ⟨W2.heap.size, 1, none⟩) (by simp)).trans a1; have t5 := (hb2.frozen (p := ⟨W2.heap.size, 1, none⟩) (by simp)).trans f1; have HN := Lib.hid hN; have HK := Lib.hid hK; clear hown' hgrow hb2 hN hK) | (go_simp; go_wp2_with (go_at_call 58; refine HVX'.out.mono ?_; rintro e w6 ⟨rfl, rfl⟩)))
      all_goals
        clear hoz hqz t1 t5 a1 f1 hrow hay hay0
        go_wp2_with fail
        go_roundw
        case rel => exact ⟨k + 1, _, by omega, by go_num, HBW.out.drew.trans (HK.out.below _ (by omega) (by omega)), by rw [HTS.out, ints, List.map_append]; exact HN.out⟩
        case measure => simp [intOf]; omega
    · obtain rfl : k = len1 := by omega
      obtain ⟨ao, mm, cp, rfl⟩ := hOr.form
      have a0 := hOr.a0; have a1 := hOr.a1
      obtain ⟨x, y, h0, h1⟩ := hOr.room.ex
      have f0 := hOr.room.f0; have f1 := hOr.room.f1
      have HOr := Lib.hid hOr
      have HBW := Lib.hid hBw
      clear hOr hBw
      go_wp2_with fail
      refine bodyPost_ret (v := .tuple #[.agg #[.int .i64 k, .slice ao mm cp], .int .i64 0]) (mat_results (p := 6) (u := 7) (fn := Try.f21) rfl _ rfl (two_setCell _ _ _ _ h0 h1).1 (two_setCell _ _ _ _ h0 h1).2) rfl ⟨_, rfl, ?_, HOr.out.res (by omega) (by omega) _ _⟩
      exact (only2 _ _ _ _).below (HB4.out.trans (HBW.out.mono (by omega))) (by omega)

theorem specMatrixOfLinear_any (d p : Int) (b1 len1 cap1 : Nat) (z1 : List Int) (b2 len2 cap2 : Nat) (z2 : List Int) (w : World) (hM1 : Mt w b1 len1 z1) (hM2 : Mt w b2 len2 z2) :
    Calls Try.prog 18 #[.agg #[.int .i64 d, .int .i64 p], .slice (some ⟨b1, 0, none⟩) len1 cap1, .slice (some ⟨b2, 0, none⟩) len2 cap2] w fun e w' => ∃ v, e = .returned (.tuple #[.agg #[.int .i64 (fMatrixOfLinear d p z1 z2).1, v], .int .i64 (fMatrixOfLinear d p z1 z2).2.2]) ∧ Below w.heap.size w w' ∧ Res w' w.heap.size w'.heap.size v (fMatrixOfLinear d p z1 z2).2.1 := by
  cases hf : okFL d p z2 with
  | false => rw [fMOL_A hf]; exact specMatrixOfLinear_A d p _ b2 len2 cap2 z2 hf w hM2
  | true =>
    have hfd : fldI d p = true := by cases h : fldI d p with | true => rfl | false => rw [okFL_no h] at hf; cases hf
    obtain ⟨m, P, rfl, rfl, hF⟩ := fldI_nat hfd
    have hF := Fld.of hF
    rw [okFL_yes hF] at hf
    cases hi : allIn (2 ^ m) z1 with
    | false => rw [fMOL_R hF hf hi]; exact specMatrixOfLinear_B m P _ hF b1 len1 cap1 z1 b2 len2 cap2 z2 hf false false hi (by simp) (by decide) w hM1 hM2
    | true =>
      cases hs : basB m (nats z1) with
      | false => rw [fMOL_S hF hf hi hs]; exact specMatrixOfLinear_B m P _ hF b1 len1 cap1 z1 b2 len2 cap2 z2 hf true false hi (fun _ => hs) (by decide) w hM1 hM2
      | true => rw [fMOL_C hF hf hi hs]; exact specMatrixOfLinear_C m P _ hF b1 len1 cap1 z1 b2 len2 cap2 z2 hf hi hs w hM1 hM2
theorem implMatrixOfLinear_any (d p : Int) (b1 len1 cap1 : Nat) (z1 : List Int) (b2 len2 cap2 : Nat) (z2 : List Int) (w : World) (hl : -9223372036854775808 ≤ p) (hh : p ≤ 9223372036854775807) (hM1 : Mt w b1 len1 z1) (hM2 : Mt w b2 len2 z2) :
    Calls Try.prog 21 #[.agg #[.int .i64 d, .int .i64 p], .slice (some ⟨b1, 0, none⟩) len1 cap1, .slice (some ⟨b2, 0, none⟩) len2 cap2] w fun e w' => ∃ v, e = .returned (.tuple #[.agg #[.int .i64 (fMatrixOfLinear d p z1 z2).1, v], .int .i64 (fMatrixOfLinear d p z1 z2).2.2]) ∧ Below w.heap.size w w' ∧ Res w' w.heap.size w'.heap.size v (fMatrixOfLinear d p z1 z2).2.1 := by
  cases hf0 : fldI d p with
  | false => rw [fMOL_A (okFL_no hf0)]; exact implMatrixOfLinear_A d p hf0 hl hh _ _ w
  | true =>
    obtain ⟨m, P, rfl, rfl, hF⟩ := fldI_nat hf0
    have hF := Fld.of hF
    cases hf : okL (2 ^ m) z2 with
    | false => rw [fMOL_A (by rw [okFL_yes hF]; exact hf)]; exact implMatrixOfLinear_B m P _ hF _ b2 len2 cap2 z2 hf w hM2
    | true =>
      cases hi : allIn (2 ^ m) z1 with
      | false => rw [fMOL_R hF hf hi]; exact implMatrixOfLinear_R m P _ hF b1 len1 cap1 z1 b2 len2 cap2 z2 hf hi w hM1 hM2
      | true =>
        cases hs : basB m (nats z1) with
        | false => rw [fMOL_S hF hf hi hs]; exact implMatrixOfLinear_S m P _ hF b1 len1 cap1 z1 b2 len2 cap2 z2 hf hi hs w hM1 hM2
        | true => rw [fMOL_C hF hf hi hs]; exact implMatrixOfLinear_C m P _ hF b1 len1 cap1 z1 b2 len2 cap2 z2 hf hi hs w hM1 hM2
end Go.Proofs.Ytcdhdgflgdmhdaa
