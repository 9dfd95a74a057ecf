/- MatrixOfLinear: the model. -/
import Derived.Test.YtcdhdgflgdmhdaaMatLinS
import Derived.Test.YtcdhdgflgdmhdaaBasI
import Derived.Test.YtcdhdgflgdmhdaaLinI4
namespace Go.Proofs.Ytcdhdgflgdmhdaa
open Go.RowKit Go.Joins
set_option linter.unusedVariables false

/-- The coordinates of the values for the elements of a basis. -/
def mol (m P : Nat) (L p : List Nat) (k : Nat) : List Nat := lst (fun j => crd m L (vl P p (nth L j))) k
theorem mol_len (m P : Nat) (L p : List Nat) (k : Nat) : (mol m P L p k).length = k := lst_length _ _
theorem mol_succ (m P : Nat) (L p : List Nat) (k : Nat) : mol m P L p (k + 1) = mol m P L p k ++ [crd m L (vl P p (nth L k))] := by simp [mol, lst, List.range_succ]
def fMatrixOfLinear (d p : Int) (bs zs : List Int) : Int × List Int × Int :=
  if okFL d p zs = false then (0, [], 1) else if allIn (2 ^ d.toNat) bs = false then (0, [], 2) else if basB d.toNat (nats bs) = false then (0, [], 4) else (d, ints (mol d.toNat p.toNat (nats bs) (nats zs) d.toNat), 0)
theorem fMOL_A {d p : Int} {bs zs : List Int} (h : okFL d p zs = false) : fMatrixOfLinear d p bs zs = (0, [], 1) := by rw [fMatrixOfLinear, if_pos h]
theorem fMOL_R {m P n : Nat} (hF : Fld m P n) {bs zs : List Int} (h : okL n zs = true) (hb : allIn n bs = false) : fMatrixOfLinear m P bs zs = (0, [], 2) := by
  rw [fMatrixOfLinear, okFL_yes hF, if_neg (by rw [h]; simp), Int.toNat_natCast, hF.n, if_pos hb]
theorem fMOL_S {m P n : Nat} (hF : Fld m P n) {bs zs : List Int} (h : okL n zs = true) (hb : allIn n bs = true) (hs : basB m (nats bs) = false) : fMatrixOfLinear m P bs zs = (0, [], 4) := by
  rw [fMatrixOfLinear, okFL_yes hF, if_neg (by rw [h]; simp), Int.toNat_natCast, hF.n, if_neg (by rw [hb]; simp), if_pos hs]
theorem fMOL_C {m P n : Nat} (hF : Fld m P n) {bs zs : List Int} (h : okL n zs = true) (hb : allIn n bs = true) (hs : basB m (nats bs) = true) : fMatrixOfLinear m P bs zs = ((m : Int), ints (mol m P (nats bs) (nats zs) m), 0) := by
  rw [fMatrixOfLinear, okFL_yes hF, if_neg (by rw [h]; simp), Int.toNat_natCast, hF.n, if_neg (by rw [hb]; simp), if_neg (by rw [hs]; simp), Int.toNat_natCast]

theorem OB.below {wr w1 : World} {r o B : Nat} {c : Int} {k : Nat} {v : Value} {xs : List Int} (h : OB wr r o B c k v xs) (hb : Below wr.heap.size wr w1) : OB w1 r o B c k v xs :=
  have hz := h.z
  have ho := h.oB
  ⟨h.rB, h.oB, h.ne, (hb.cell (p := ⟨o, 0, none⟩) (by show o < _; omega)).trans h.a0, (hb.cell (p := ⟨o, 1, none⟩) (by show o < _; omega)).trans h.a1, (hb.frozen (p := ⟨o, 1, none⟩) (by show o < _; omega)).trans h.f1, h.room.below hb, ownsRow_below h.own hb, Nat.le_trans hz hb.size⟩
theorem OB.oz {wr : World} {r o B : Nat} {c : Int} {k : Nat} {v : Value} {xs : List Int} (h : OB wr r o B c k v xs) : o < wr.heap.size := Nat.lt_of_lt_of_le h.oB h.z
theorem FAt.moreX {w W W' : World} {m P : Int} (h : FAt w m P W) (hb : Below (w.heap.size + 1) W W') : FAt w m P W' :=
  ⟨h.b.trans (hb.mono (by omega)), Nat.le_trans h.z hb.size, (hb.cell (p := ⟨w.heap.size, 0, none⟩) (by simp)).trans h.c0, (hb.cell (p := ⟨w.heap.size, 1, none⟩) (by simp)).trans h.c1⟩

/-- What an answer without a matrix asks of the memory: the same four lines in each case. -/
theorem room1 (w : World) (m P : Int) : MRoom ((w.alloc (.cells #[.int .i64 m, .int .i64 P] 32)).alloc (.cells #[.int .i64 0, .slice none 0 0] 29)) (w.heap.size + 1) := by
  simpa using MRoom.start (w.alloc (.cells #[.int .i64 m, .int .i64 P] 32)) (.int .i64 0) (.slice none 0 0) 29

set_option maxHeartbeats 1600000 in
theorem specMatrixOfLinear_A (d p : Int) (v1 : Value) (b2 len2 cap2 : Nat) (z2 : List Int) (hok : okFL d p z2 = false) (w : World) (hM2 : Mt w b2 len2 z2) :
    Calls Try.prog 18 #[.agg #[.int .i64 d, .int .i64 p], v1, .slice (some ⟨b2, 0, none⟩) len2 cap2] w fun e w' => ∃ v, e = .returned (.tuple #[.agg #[.int .i64 (0), v], .int .i64 1]) ∧ Below w.heap.size w w' ∧ Res w' w.heap.size w'.heap.size v [] := by
  have hR := room1 w d p
  have hb0 := below_alloc2 w (.cells #[.int .i64 d, .int .i64 p] 32) (.cells #[.int .i64 0, .slice none 0 0] 29)
  have HM := Lib.hid (hM2.below hb0)
  have HO := Lib.hid hok
  clear hM2 hok
  go_enter Try.func18, Try.ntmps18
  go_wp2_with fail
  refine (specValidLinear_eq d p b2 len2 cap2 z2 _ HM.out false HO.out).mono ?_
  rintro e w1 ⟨rfl, hb⟩
  have hR1 := hR.below hb
  have hb1 := hb0.trans (hb.mono hb0.size)
  clear hb hR hb0
  obtain ⟨x, y, h0, h1⟩ := hR1.ex
  have f0 := hR1.f0
  have f1 := hR1.f1
  go_wp2_with fail
  refine bodyPost_ret (v := .tuple #[.agg #[.int .i64 0, .slice none 0 0], .int .i64 1]) (mat_results (p := 6) (u := 7) (fn := Try.f18) rfl _ rfl (two_setCell _ _ _ _ h0 h1).1 (two_setCell _ _ _ _ h0 h1).2) rfl ⟨_, rfl, ?_, .nil none 0⟩
  exact (only2 _ _ _ _).below hb1 (by simp)

set_option maxHeartbeats 1600000 in
theorem specMatrixOfLinear_B (m P n : Nat) (hF : Fld m P n) (b1 len1 cap1 : Nat) (z1 : List Int) (b2 len2 cap2 : Nat) (z2 : List Int) (hok : okL n z2 = true) (i s : Bool) (hi : allIn n z1 = i) (hs : i = true → basB m (nats z1) = s) (hc : ¬ cB i s = 0) (w : World) (hM1 : Mt w b1 len1 z1) (hM2 : Mt w b2 len2 z2) :
    Calls Try.prog 18 #[.agg #[.int .i64 m, .int .i64 P], .slice (some ⟨b1, 0, none⟩) len1 cap1, .slice (some ⟨b2, 0, none⟩) len2 cap2] w fun e w' => ∃ v, e = .returned (.tuple #[.agg #[.int .i64 (0), v], .int .i64 (cB i s)]) ∧ Below w.heap.size w w' ∧ Res w' w.heap.size w'.heap.size v [] := by
  have hR := room1 w m P
  have hb0 := below_alloc2 w (.cells #[.int .i64 m, .int .i64 P] 32) (.cells #[.int .i64 0, .slice none 0 0] 29)
  have hX := (Box.one w (.int .i64 m) (.int .i64 P) 32).next (below_alloc1 _ (.cells #[.int .i64 0, .slice none 0 0] 29))
  have HM2 := Lib.hid (hM2.below hb0)
  have HM1 := Lib.hid (hM1.below hb0)
  have HO := Lib.hid (show okFL m P z2 = true by rw [okFL_yes hF]; exact hok)
  have HB := Lib.hid (fun w hM => l03Based_any m P n hF b1 len1 cap1 z1 i s hi hs w hM)
  generalize cB i s = c at HB hc ⊢
  clear hM1 hM2 hok hi hs
  go_enter Try.func18, Try.ntmps18
  go_wp2_with fail
  refine (specValidLinear_eq m P b2 len2 cap2 z2 _ HM2.out true HO.out).mono ?_
  rintro e w1 ⟨rfl, hb⟩
  have hR1 := hR.below hb
  have hX1 := hX.next hb
  have HM11 := Lib.hid (HM1.out.below hb)
  have hb1 := hb0.trans (hb.mono hb0.size)
  have q0 := hX1.c0; have q1 := hX1.c1
  clear hb hR hb0 hX HM1
  go_wp2_with fail
  refine (HB.out _ HM11.out).mono ?_
  rintro e w2 ⟨rfl, hb⟩
  have hR2 := hR1.below hb
  have hb2 := hb1.trans (hb.mono hb1.size)
  clear hb hR1 hb1 q0 q1
  obtain ⟨x, y, h0, h1⟩ := hR2.ex
  have f0 := hR2.f0
  have f1 := hR2.f1
  go_wp2_with fail
  refine bodyPost_ret (v := .tuple #[.agg #[.int .i64 0, .slice none 0 0], .int .i64 c]) (mat_results (p := 6) (u := 7) (fn := Try.f18) rfl _ rfl (two_setCell _ _ _ _ h0 h1).1 (two_setCell _ _ _ _ h0 h1).2) rfl ⟨_, rfl, ?_, .nil none 0⟩
  exact (only2 _ _ _ _).below hb2 (by simp)

set_option maxRecDepth 100000 in
set_option maxHeartbeats 6400000 in
theorem specMatrixOfLinear_C (m P n : Nat) (hF : Fld m P n) (b1 len1 cap1 : Nat) (z1 : List Int) (b2 len2 cap2 : Nat) (z2 : List Int) (hok : okL n z2 = true) (hi : allIn n z1 = true) (hs : basB m (nats z1) = true) (w : World) (hM1 : Mt w b1 len1 z1) (hM2 : Mt w b2 len2 z2) :
    Calls Try.prog 18 #[.agg #[.int .i64 m, .int .i64 P], .slice (some ⟨b1, 0, none⟩) len1 cap1, .slice (some ⟨b2, 0, none⟩) len2 cap2] w fun e w' => ∃ v, e = .returned (.tuple #[.agg #[.int .i64 m, v], .int .i64 0]) ∧ Below w.heap.size w w' ∧ Res w' w.heap.size w'.heap.size v (ints (mol m P (nats z1) (nats z2) m)) := by
  obtain ⟨i0, hi0, hz0, hz1, hz2'⟩ := info_parts Try.infoI
  have h32 := hF.n32
  have hm5 := hF.m5
  have hn := hF.n
  have hn0 : 0 < n := by have := hF.n2; omega
  have hBas := basB_bas hs
  have hl1 := nats_lt hi hn0
  have hlm : len1 = m := by have h1 := hM1.len; have h2 := hBas.len; have h3 := nats_length z1; omega
  subst hlm
  have hin2 := okL_in hok
  have hl2 := nats_lt hin2 hn0
  have hk2 := okL_len hok
  have hlen2 := hM2.len
  have hR := room1 w len1 P
  have hb0 := below_alloc2 w (.cells #[.int .i64 len1, .int .i64 P] 32) (.cells #[.int .i64 0, .slice none 0 0] 29)
  have hA0 : FAt w len1 P _ := (FAt.start w len1 P 32).alloc (.cells #[.int .i64 0, .slice none 0 0] 29)
  have hbz1 : b1 < w.heap.size := hM1.lt
  have hbz2 : b2 < w.heap.size := hM2.lt
  have HM2 := Lib.hid (hM2.below hb0)
  have HM1 := Lib.hid (hM1.below hb0)
  have HO := Lib.hid (show okFL len1 P z2 = true by rw [okFL_yes hF]; exact hok)
  have HB := fun w hM => l03Based_any len1 P n hF b1 len1 cap1 z1 true true hi (fun _ => hs) w hM
  rw [show cB true true = 0 from rfl] at HB
  replace HB := Lib.hid HB
  have HI1 := Lib.hid hi
  have HI2 := Lib.hid hin2
  have HV := Lib.hid (fun x hx w hR => l03Value_any len1 P n hF (some ⟨b2, 0, none⟩) len2 cap2 (nats z2) hl2 x hx (by omega) w hR)
  have HCO := Lib.hid (fun a ha w hR => l03Coordinates_any len1 n hn hm5 (some ⟨b1, 0, none⟩) cap1 (nats z1) hBas hl1 a ha w hR)
  have HP := Lib.hid hl1
  have HVL := Lib.hid (fun x => vl_lt hF (nats z2) x)
  clear hM1 hM2 hok hi hs hBas hl1 hl2 hin2
  go_enter Try.func18, Try.ntmps18
  go_wp2_with fail
  refine (specValidLinear_eq len1 P b2 len2 cap2 z2 _ HM2.out true HO.out).mono ?_
  rintro e w1 ⟨rfl, hb⟩
  have hR1 := hR.below hb
  have hA1 := hA0.next hb
  have HM11 := Lib.hid (HM1.out.below hb)
  have HM21 := Lib.hid (HM2.out.below hb)
  have q0 := hA1.c0; have q1 := hA1.c1
  clear hb hR hb0 hA0 HM1 HM2
  go_wp2_with fail
  refine (HB.out _ HM11.out).mono ?_
  rintro e w2 ⟨rfl, hb⟩
  have hR2 := hR1.below hb
  have hA2 := hA1.next hb
  have hM12 := HM11.out.below hb
  have hM22 := HM21.out.below hb
  clear hb hR1 hA1 HM11 HM21 q0 q1
  have q0 := hA2.c0; have q1 := hA2.c1
  have hz2 : w.heap.size + 1 < w2.heap.size := hR2.lt
  have hbo := below_alloc1 w2 (.cells #[.int .i64 len1, .slice none 0 0] 29)
  have hX := Box.one w2 (.int .i64 len1) (.slice none 0 0) 29
  have hOB : OB (w2.alloc (.cells #[.int .i64 len1, .slice none 0 0] 29)) (w.heap.size + 1) w2.heap.size (w2.heap.size + 1) len1 0 (.slice none 0 0) [] :=
    ⟨by omega, by omega, by omega, hX.c0, hX.c1, by simp [World.frozen?_alloc_at], hR2.below hbo, World.ownsRow_nil _ _ _ _, by simp⟩
  have HOB := Lib.hid hOB
  have HA0 := Lib.hid (hA2.next hbo)
  have HM1 := Lib.hid (hM12.below hbo)
  have HM2 := Lib.hid (hM22.below hbo)
  clear hOB hX hbo hR2 hA2 hM12 hM22
  go_wp2_with fail
  clear q0 q1
  go_loopw [10] (fun i wr => ∃ (k : Nat) (v : Value), k ≤ len1 ∧ i = .int .i64 k ∧ FAt w len1 P wr ∧ Mt wr b1 len1 z1 ∧ Mt wr b2 len2 z2 ∧ OB wr (w.heap.size + 1) w2.heap.size (w2.heap.size + 1) len1 k v (ints (mol len1 P (nats z1) (nats z2) k))) (fun i _ => len1 - (intOf i).toNat)
  case atStart => exact ⟨0, _, Nat.zero_le _, rfl, HA0.out, HM1.out, HM2.out, HOB.out⟩
  case round =>
    obtain ⟨k, v, hk, rfl, hA, hMr1, hMr2, hOr⟩ := hrel
    clear HOB HA0 HM1 HM2
    by_cases hkC : k < len1
    · have c0 := hA.c0; have c1 := hA.c1
      obtain ⟨g1, e1, hg1, hcr1⟩ := (hMr1.rl HI1.out).row (show 0 < len1 by omega)
      injection e1 with e1; injection e1 with e1; subst e1
      have hrow := hcr1 k hkC
      clear hcr1
      have hx := HP.out k
      have hts := mol_succ len1 P (nats z1) (nats z2) k
      generalize hxx : nth (nats z1) k = x at hrow hx hts
      have hvl := HVL.out x
      have HVX := HV.out x hx
      generalize hyy : vl P (nats z2) x = y at hvl hts HVX
      have HCX := HCO.out y hvl
      obtain ⟨s, hs⟩ : ∃ s, crd len1 (nats z1) y = s := ⟨_, rfl⟩
      rw [hs] at hts HCX
      have HTS := Lib.hid hts
      have HOr := Lib.hid hOr
      have HAD := Lib.hid hA.drew
      have HD1 := Lib.hid (show Mt wr.drew b1 len1 z1 from hMr1.drewN 1)
      have HD2 := Lib.hid (show Mt wr.drew b2 len2 z2 from hMr2.drewN 1)
      have HL2 := Lib.hid (HD2.out.rl HI2.out)
      have HVX' := Lib.hid HVX
      have HCX' := Lib.hid HCX
      have HOD := Lib.hid (show OB wr.drew (w.heap.size + 1) w2.heap.size (w2.heap.size + 1) len1 k v (ints (mol len1 P (nats z1) (nats z2) k)) from hOr.drewN 1)
      have a1 := hOr.a1
      have f1 := hOr.f1
      have hoz : w2.heap.size < wr.heap.size := by have := hOr.z; omega
      have hzd : w.heap.size < wr.drew.heap.size := by have := hA.z; simp; omega
      clear hts hs hOr hA hMr1 hMr2 hxx hyy HVX HCX
      go_wp2_with fail
      go_region_law (first | (refine step_append_own rfl (.tmp 33) (.tmp 43) 27 rfl (w2.heap.size + 1) 2 i0 (.int .i64 0) 1 8 Try.underlying27 hi0 hz0 hz1 hz2' rfl (by decide) v k _ (by simp [Act.eval]) (HO5.out.own.alloc _) ⟨w5.heap.size, 0, none⟩ 1 1 [.int .i64 s] (by simp [Act.eval]) rfl (one_new w5 _ _) (one_one _ _) (by unfold maxLen; omega) (by omega) (by have := HO5.out.z; simp; omega) ?_; intro v' w4 hown' hgrow; obtain ⟨⟨g, cp, rfl⟩, hb2⟩ := HO5.out.grown hown' hgrow; obtain ⟨hN, hK⟩ := HO5.out.step hb2 hown'; have t1 := (hb2.cell (p := ⟨w2.heap.size, 1, none⟩) (by simp)).trans a5; have t5 := (hb2.frozen (p := ⟨w2.heap.size, 1, none⟩) (by simp)).trans f5; have HN := Lib.hid hN; have HK := Lib.hid hK; clear hown' hgrow hb2 hN hK) | (go_simp; go_wp2_with (first | (go_at_call 55; refine (HVX'.out _ HL2.out).mono ?_; rintro e w5 ⟨rfl, hbm⟩; have HO5 := Lib.hid (HOD.out.below hbm); have HA5 := Lib.hid (HAD.out.next hbm); have HM15 := Lib.hid (HD1.out.below hbm); have HM25 := Lib.hid (HD2.out.below hbm); have a5 := HO5.out.a1; have f5 := HO5.out.f1; have hoz5 := HO5.out.oz; clear hbm) | (go_at_call 54; refine (HCX'.out _ (HM15.out.rl HI1.out)).mono ?_; rintro e w6 ⟨rfl, rfl⟩))))
      all_goals
        have HA6 := Lib.hid (HA5.out.moreX (HK.out.below _ (by omega) (by omega)))
        have HM16 := Lib.hid (HM15.out.at (HK.out.heap b1 (by omega) (by omega)) HK.out.size)
        have HM26 := Lib.hid (HM25.out.at (HK.out.heap b2 (by omega) (by omega)) HK.out.size)
        clear hoz t1 t5 a1 f1 a5 f5 c0 c1 hrow hzd hoz5
        go_wp2_with fail
        go_roundw
        case rel => exact ⟨k + 1, _, by omega, by go_num, HA6.out, HM16.out, HM26.out, by rw [HTS.out, ints, List.map_append]; exact HN.out⟩
        case measure => simp [intOf]; omega
    · obtain rfl : k = len1 := by omega
      obtain ⟨ao, mm, cp, rfl⟩ := hOr.form
      have a0 := hOr.a0; have a1 := hOr.a1
      obtain ⟨x, y, h0, h1⟩ := hOr.room.ex
      have f0 := hOr.room.f0; have f1 := hOr.room.f1
      have HOr := Lib.hid hOr
      have HA := Lib.hid hA
      clear hOr hA
      go_wp2_with fail
      refine bodyPost_ret (v := .tuple #[.agg #[.int .i64 k, .slice ao mm cp], .int .i64 0]) (mat_results (p := 6) (u := 7) (fn := Try.f18) rfl _ rfl (two_setCell _ _ _ _ h0 h1).1 (two_setCell _ _ _ _ h0 h1).2) rfl ⟨_, rfl, ?_, HOr.out.res (by omega) (by omega) _ _⟩
      exact (only2 _ _ _ _).below HA.out.b (by simp)
end Go.Proofs.Ytcdhdgflgdmhdaa
