/- WordDistance: the program and the model. -/
import Derived.Test.YtejpjcdnhboooaaDoorWPlus
import Derived.Test.YtejpjcdnhboooaaDoorWAdd
import Derived.Test.YtejpjcdnhboooaaDoorRankS
namespace Go.Proofs.YtejpjcdnhboooaaDoor
open Go.RowKit Go.Joins
set_option linter.unusedVariables false

/-- The distance of two words, with ErrInvalid and ErrRange first. -/
def fWordDistance (d p : Int) (us ws : List Int) : Int × Int :=
  if fldI d p = false then (0, 1) else if okW (2 ^ d.toNat) us = true ∧ okW (2 ^ d.toNat) ws = true ∧ us.length = ws.length then ((((joined [] (xorW (nats us) (nats ws) us.length)).length : Nat) : Int), 0) else (0, 2)
theorem fWD_A {d p : Int} {us ws : List Int} (h : fldI d p = false) : fWordDistance d p us ws = (0, 1) := by simp [fWordDistance, h]
theorem fWD_B {m P n : Nat} (hF : Fld m P n) {us ws : List Int} (h : ¬ (okW n us = true ∧ okW n ws = true ∧ us.length = ws.length)) : fWordDistance m P us ws = (0, 2) := by
  have h1 := hF.n
  rw [fWordDistance, if_neg (by rw [fldI_of hF.f]; simp), Int.toNat_natCast, h1, if_neg h]
theorem fWD_C {m P n : Nat} (hF : Fld m P n) {us ws : List Int} (h : okW n us = true ∧ okW n ws = true ∧ us.length = ws.length) : fWordDistance m P us ws = ((((joined [] (xorW (nats us) (nats ws) us.length)).length : Nat) : Int), 0) := by
  have h1 := hF.n
  rw [fWordDistance, if_neg (by rw [fldI_of hF.f]; simp), Int.toNat_natCast, h1, if_pos h]
theorem addW_one {m P n : Nat} (hF : Fld m P n) {p q : List Nat} (hq : ∀ j, nth q j < n) (k : Nat) : addW P p q 1 k = xorW p q k :=
  lst_congr fun j hj => by rw [mul_one' hF (hq j)]

set_option maxHeartbeats 800000 in
theorem specWordDistance_A (d p : Int) (hf : fldI d p = false) (v v2 : Value) (w : World) :
    Calls Tryd.prog 12 #[.agg #[.int .i64 d, .int .i64 p], v, v2] w fun e w' => e = .returned (.tuple #[.int .i64 0, .int .i64 1]) ∧ Below w.heap.size w w' := by
  have HF := Lib.hid hf
  clear hf
  go_enter Tryd.func12, Tryd.ntmps12
  go_wp2_with fail
  refine (l01Ok_eq _ _ _ HF.out _).mono ?_
  rintro e w1 ⟨rfl, hb⟩
  go_wp2
  go_ret2
  exact ⟨rfl, ((Below.refl _ w).alloc (Nat.le_refl _) _).trans (hb.mono (by simp))⟩
set_option maxHeartbeats 1600000 in
theorem specWordDistance_B (m P n : Nat) (hF : Fld m P n) (b len cap : Nat) (zs : List Int) (b2 len2 cap2 : Nat) (z2 : List Int) (h : ¬ (okW n zs = true ∧ okW n z2 = true ∧ zs.length = z2.length)) (w : World) (hM : Mt w b len zs) (hM2 : Mt w b2 len2 z2) :
    Calls Tryd.prog 12 #[.agg #[.int .i64 m, .int .i64 P], .slice (some ⟨b, 0, none⟩) len cap, .slice (some ⟨b2, 0, none⟩) len2 cap2] w fun e w' => e = .returned (.tuple #[.int .i64 0, .int .i64 2]) ∧ Below w.heap.size w w' := by
  have hl1 := hM.len
  have hl2 := hM2.len
  have s1 := hM.small
  have s2 := hM2.small
  rw [hl1, hl2] at h
  have HH := Lib.hid h
  have HM := Lib.hid hM
  have HM2 := Lib.hid hM2
  have HF := Lib.hid (fldI_of hF.f)
  clear h hM hM2 hl1 hl2
  go_enter Tryd.func12, Tryd.ntmps12
  have h0 := FAt.start w m P 27
  go_wp2_with fail
  refine (l01Ok_eq _ _ _ HF.out _).mono ?_
  rintro e w1 ⟨rfl, hb⟩
  have h1 := h0.next hb
  have c1 := h1.c0; have d1 := h1.c1
  clear hb h0
  cases ho : okW n zs with
  | false =>
    go_wp2_with fail
    refine (l04Word_eq m P n hF b len cap zs _ ho _ (HM.out.below h1.b)).mono ?_
    rintro e w2 ⟨rfl, hb⟩
    have h2 := h1.next hb
    clear hb h1 c1 d1
    go_wp2_with fail
    go_ret2
    exact ⟨rfl, h2.b⟩
  | true =>
    go_wp2_with fail
    refine (l04Word_eq m P n hF b len cap zs _ ho _ (HM.out.below h1.b)).mono ?_
    rintro e w2 ⟨rfl, hb⟩
    have h2 := h1.next hb
    have c2 := h2.c0; have d2 := h2.c1
    clear hb h1 c1 d1
    cases ho2 : okW n z2 with
    | false =>
      go_wp2_with fail
      refine (l04Word_eq m P n hF b2 len2 cap2 z2 _ ho2 _ (HM2.out.below h2.b)).mono ?_
      rintro e w3 ⟨rfl, hb⟩
      have h3 := h2.next hb
      clear hb h2 c2 d2
      go_wp2_with fail
      go_ret2
      exact ⟨rfl, h3.b⟩
    | true =>
      have hne : ¬ (len : Int) = len2 := fun e => HH.out ⟨ho, ho2, by omega⟩
      go_wp2_with fail
      refine (l04Word_eq m P n hF b2 len2 cap2 z2 _ ho2 _ (HM2.out.below h2.b)).mono ?_
      rintro e w3 ⟨rfl, hb⟩
      have h3 := h2.next hb
      clear hb h2 c2 d2
      go_wp2_with fail
      go_ret2
      exact ⟨rfl, h3.b⟩
set_option maxHeartbeats 1600000 in
theorem l04Apart_any (m P n : Nat) (hF : Fld m P n) (A B : Option Addr) (k ca cb : Nat) (p q : List Nat) (hp : ∀ j, nth p j < n) (hq : ∀ j, nth q j < n) (h0 : 0 < k) (hk : k ≤ 1000) (w : World) (hS : Rl w .i64 A k p) (hT : Rl w .i64 B k q) :
    Calls Tryd.prog 28 #[.agg #[.int .i64 m, .int .i64 P], .slice A k ca, .slice B k cb] w fun e w' => e = .returned (.int .i64 ((joined [] (xorW p q k)).length : Nat)) ∧ Below w.heap.size w w' := by
  have hm5 := hF.m5
  have hn2 := hF.n2
  have hAD := addW_one hF (p := p) hq k
  have hpm := lt_mem hp
  have hqm := lt_mem hq
  rw [← hF.n] at hpm hqm
  have hxl := xorW_lt k hpm hqm
  have HAD := Lib.hid (fun w hS hT => l04Add_any m P n hF A B k ca cb p q 1 (by omega) hp hq hk w hS hT)
  rw [hAD] at HAD
  have HRK := Lib.hid (fun b cap w hM => l02Rank_any m b k cap (xorW p q k) (by omega) hxl (by omega) w hM)
  generalize (joined [] (xorW p q k)).length = r at HRK ⊢
  have HS := Lib.hid hS
  have HT := Lib.hid hT
  clear hp hq hS hT hpm hqm hxl hAD
  go_enter Tryd.func28, Tryd.ntmps28
  have h0' := FAt.start w m P 27
  go_wp2_with fail
  have h1 := h0'.drew
  have c1 := h1.c0; have d1 := h1.c1
  have HS1 := Lib.hid (HS.out.below h1.b)
  have HT1 := Lib.hid (HT.out.below h1.b)
  have H1 := Lib.hid h1
  clear h0' h1
  go_region_law (go_simp; go_wp2_with (first | (go_at_call 45; refine (HAD.out _ HS1.out HT1.out).mono ?_; rintro e w1 ⟨D, cd, rfl, hb, hO⟩; have h2 := H1.out.next hb; have c2 := h2.c0; have d2 := h2.c1; obtain ⟨g, rfl, _, hMt⟩ := hO.mt h0 (by omega); have HMT := Lib.hid hMt; have H2 := Lib.hid h2; clear hb hO hMt h2) | (go_at_call 23; refine (HRK.out _ _ _ HMT.out).mono ?_; rintro e w2 ⟨rfl, hb⟩; have h3 := H2.out.next hb; clear hb)))
  all_goals
    go_wp2_with fail
    go_ret
    exact ⟨rfl, h3.b⟩
set_option maxHeartbeats 1600000 in
theorem specWordDistance_C (m P n : Nat) (hF : Fld m P n) (b len cap : Nat) (zs : List Int) (b2 cap2 : Nat) (z2 : List Int) (ho : okW n zs = true) (ho2 : okW n z2 = true) (w : World) (hM : Mt w b len zs) (hM2 : Mt w b2 len z2) :
    Calls Tryd.prog 12 #[.agg #[.int .i64 m, .int .i64 P], .slice (some ⟨b, 0, none⟩) len cap, .slice (some ⟨b2, 0, none⟩) len cap2] w fun e w' => e = .returned (.tuple #[.int .i64 ((joined [] (xorW (nats zs) (nats z2) len)).length : Nat), .int .i64 0]) ∧ Below w.heap.size w w' := by
  have hn2 := hF.n2
  have hl1 := hM.len
  have hl5 := okW_len ho
  have HAP := Lib.hid (fun w hS hT => l04Apart_any m P n hF (some ⟨b, 0, none⟩) (some ⟨b2, 0, none⟩) len cap cap2 (nats zs) (nats z2) (nats_lt (okW_in ho) (by omega)) (nats_lt (okW_in ho2) (by omega)) (by omega) (by omega) w hS hT)
  generalize (joined [] (xorW (nats zs) (nats z2) len)).length = r at HAP ⊢
  have HS := Lib.hid (hM.rl (okW_in ho))
  have HT := Lib.hid (hM2.rl (okW_in ho2))
  have HO := Lib.hid ho
  have HO2 := Lib.hid ho2
  have HM := Lib.hid hM
  have HM2 := Lib.hid hM2
  have HF := Lib.hid (fldI_of hF.f)
  clear hM hM2 ho ho2
  go_enter Tryd.func12, Tryd.ntmps12
  have h0 := FAt.start w m P 27
  go_wp2_with fail
  refine (l01Ok_eq _ _ _ HF.out _).mono ?_
  rintro e w1 ⟨rfl, hb⟩
  have h1 := h0.next hb
  have c1 := h1.c0; have d1 := h1.c1
  clear hb h0
  go_wp2_with fail
  refine (l04Word_eq m P n hF b len cap zs _ HO.out _ (HM.out.below h1.b)).mono ?_
  rintro e w2 ⟨rfl, hb⟩
  have h2 := h1.next hb
  have c2 := h2.c0; have d2 := h2.c1
  clear hb h1 c1 d1
  go_wp2_with fail
  refine (l04Word_eq m P n hF b2 len cap2 z2 _ HO2.out _ (HM2.out.below h2.b)).mono ?_
  rintro e w3 ⟨rfl, hb⟩
  have h3 := h2.next hb
  have c3 := h3.c0; have d3 := h3.c1
  clear hb h2 c2 d2
  go_wp2_with fail
  refine (HAP.out _ (HS.out.below h3.b) (HT.out.below h3.b)).mono ?_
  rintro e w4 ⟨rfl, hb⟩
  have h4 := h3.next hb
  clear hb h3 c3 d3
  go_wp2_with fail
  go_ret2
  exact ⟨rfl, h4.b⟩
theorem specWordDistance_any (d p : Int) (b len cap : Nat) (zs : List Int) (b2 len2 cap2 : Nat) (z2 : List Int) (w : World) (hM : Mt w b len zs) (hM2 : Mt w b2 len2 z2) :
    Calls Tryd.prog 12 #[.agg #[.int .i64 d, .int .i64 p], .slice (some ⟨b, 0, none⟩) len cap, .slice (some ⟨b2, 0, none⟩) len2 cap2] w fun e w' => e = .returned (.tuple #[.int .i64 (fWordDistance d p zs z2).1, .int .i64 (fWordDistance d p zs z2).2]) ∧ Below w.heap.size w w' := by
  cases hf : fldI d p with
  | false => rw [fWD_A hf]; exact specWordDistance_A d p hf _ _ w
  | true =>
    obtain ⟨m, P, rfl, rfl, hF⟩ := fldI_nat hf
    have hF := Fld.of hF
    by_cases h : okW (2 ^ m) zs = true ∧ okW (2 ^ m) z2 = true ∧ zs.length = z2.length
    · have hl1 := hM.len
      have hl2 := hM2.len
      obtain rfl : len = len2 := by omega
      rw [fWD_C hF h, hl1]; exact specWordDistance_C m P _ hF b len cap zs b2 cap2 z2 h.1 h.2.1 w hM hM2
    · rw [fWD_B hF h]; exact specWordDistance_B m P _ hF b len cap zs b2 len2 cap2 z2 h w hM hM2

set_option maxHeartbeats 800000 in
theorem implWordDistance_A (d p : Int) (hf : fldI d p = false) (hl : -9223372036854775808 ≤ p) (hh : p ≤ 9223372036854775807) (v v2 : Value) (w : World) :
    Calls Tryd.prog 13 #[.agg #[.int .i64 d, .int .i64 p], v, v2] w fun e w' => e = .returned (.tuple #[.int .i64 0, .int .i64 1]) ∧ Below w.heap.size w w' := by
  have HF := Lib.hid hf
  clear hf
  go_enter Tryd.func13, Tryd.ntmps13
  go_wp2_with fail
  refine (wordFor_A d p HF.out hl hh _ _).mono ?_
  rintro e w1 ⟨rfl, hb⟩
  go_wp2
  go_ret2
  exact ⟨rfl, by first | exact ((Below.refl _ w).alloc (Nat.le_refl _) _).trans (hb.mono (by simp)) | exact hb⟩
set_option maxHeartbeats 1600000 in
theorem implWordDistance_B (m P n : Nat) (hF : Fld m P n) (b len cap : Nat) (zs : List Int) (b2 len2 cap2 : Nat) (z2 : List Int) (h : ¬ (okW n zs = true ∧ okW n z2 = true ∧ zs.length = z2.length)) (w : World) (hM : Mt w b len zs) (hM2 : Mt w b2 len2 z2) :
    Calls Tryd.prog 13 #[.agg #[.int .i64 m, .int .i64 P], .slice (some ⟨b, 0, none⟩) len cap, .slice (some ⟨b2, 0, none⟩) len2 cap2] w fun e w' => e = .returned (.tuple #[.int .i64 0, .int .i64 2]) ∧ Below w.heap.size w w' := by
  have hl1 := hM.len
  have hl2 := hM2.len
  have s1 := hM.small
  have s2 := hM2.small
  have HM := Lib.hid hM
  have HM2 := Lib.hid hM2
  clear hM hM2
  have hb0 := below_alloc1 w (.cells #[.int .i64 m, .int .i64 P] 27)
  cases ho : okW n zs with
  | false =>
    have HO := Lib.hid ho
    clear ho h
    go_enter Tryd.func13, Tryd.ntmps13
    go_wp2_with fail
    refine (wordFor_B m P n hF b len cap zs _ (HM.out.below hb0) HO.out).mono ?_
    rintro e w1 ⟨rfl, hb⟩
    go_wp2_with fail
    go_ret2
    exact ⟨rfl, hb0.trans (hb.mono hb0.size)⟩
  | true =>
    have hno : (len2 : Int) ≠ len ∨ allIn n z2 = false := by
      by_cases e : len = len2
      · right
        have hl5 := okW_len ho
        cases hi : allIn n z2 with
        | false => rfl
        | true => exact absurd ⟨ho, by simp [okW, hi]; omega, by omega⟩ h
      · left; omega
    have HNO := Lib.hid hno
    have HO := Lib.hid ho
    clear ho h hno
    go_enter Tryd.func13, Tryd.ntmps13
    go_wp2_with fail
    refine (wordFor_C m P n hF b len cap zs _ (HM.out.below hb0) HO.out).mono ?_
    rintro e w1 ⟨c, g, rfl, hb, hC, hR⟩
    have hD := hC.deg
    have HB := Lib.hid (hb0.trans (hb.mono hb0.size))
    clear hb hR hC
    go_wp2_with fail
    refine (word_no c m P n hF b2 len2 cap2 z2 _ _ (HM2.out.below HB.out) hD HNO.out).mono ?_
    rintro e w' ⟨rfl, rfl⟩
    go_wp2_with fail
    go_ret2
    exact ⟨rfl, HB.out⟩
set_option maxHeartbeats 1600000 in
theorem implWordDistance_C (m P n : Nat) (hF : Fld m P n) (b len cap : Nat) (zs : List Int) (b2 cap2 : Nat) (z2 : List Int) (ho : okW n zs = true) (ho2 : okW n z2 = true) (w : World) (hM : Mt w b len zs) (hM2 : Mt w b2 len z2) (hTb : Tab w) :
    Calls Tryd.prog 13 #[.agg #[.int .i64 m, .int .i64 P], .slice (some ⟨b, 0, none⟩) len cap, .slice (some ⟨b2, 0, none⟩) len cap2] w fun e w' => e = .returned (.tuple #[.int .i64 ((joined [] (xorW (nats zs) (nats z2) len)).length : Nat), .int .i64 0]) ∧ Below w.heap.size w w' := by
  have hn2 := hF.n2
  have hm5 := hF.m5
  have hl1 := hM.len
  have hl5 := okW_len ho
  have hpm := lt_mem (nats_lt (okW_in ho) (by omega : 0 < n))
  have hqm := lt_mem (nats_lt (okW_in ho2) (by omega : 0 < n))
  rw [← hF.n] at hpm hqm
  have HDI := Lib.hid (fun A B w hS hT hTb => wdist_any m hm5 A B len len len (nats zs) (nats z2) hpm hqm (by omega) w hS hT hTb)
  generalize (joined [] (xorW (nats zs) (nats z2) len)).length = r at HDI ⊢
  have HO := Lib.hid ho
  have HI2 := Lib.hid (okW_in ho2)
  have HM := Lib.hid hM
  have HM2 := Lib.hid hM2
  have HTB := Lib.hid hTb
  have hb0 := below_alloc1 w (.cells #[.int .i64 m, .int .i64 P] 27)
  clear hM hM2 ho ho2 hpm hqm hTb
  go_enter Tryd.func13, Tryd.ntmps13
  go_wp2_with fail
  refine (wordFor_C m P n hF b len cap zs _ (HM.out.below hb0) HO.out).mono ?_
  rintro e w1 ⟨c, g, rfl, hb, hC, hR⟩
  have hD := hC.deg
  have HB := Lib.hid (hb0.trans (hb.mono hb0.size))
  have HR := Lib.hid hR
  clear hb hR hC
  go_wp2_with fail
  refine (word_yes c m P n hF b2 len cap2 z2 _ (HM2.out.below HB.out) hD HI2.out).mono ?_
  rintro e w2 ⟨g2, rfl, hb, hR2⟩
  have HB2 := Lib.hid (HB.out.trans (hb.mono HB.out.size))
  have HR1 := Lib.hid (HR.out.below hb)
  have HR2 := Lib.hid hR2
  clear hb hR2
  go_wp2_with fail
  refine (HDI.out _ _ _ HR1.out HR2.out (HTB.out.below HB2.out)).mono ?_
  rintro e w3 ⟨rfl, hb⟩
  have HB3 := Lib.hid (HB2.out.trans (hb.mono HB2.out.size))
  clear hb
  go_wp2_with fail
  go_ret2
  exact ⟨rfl, HB3.out⟩
theorem implWordDistance_any (d p : Int) (b len cap : Nat) (zs : List Int) (b2 len2 cap2 : Nat) (z2 : List Int) (w : World) (hl : -9223372036854775808 ≤ p) (hh : p ≤ 9223372036854775807) (hM : Mt w b len zs) (hM2 : Mt w b2 len2 z2) (hTb : Tab w) :
    Calls Tryd.prog 13 #[.agg #[.int .i64 d, .int .i64 p], .slice (some ⟨b, 0, none⟩) len cap, .slice (some ⟨b2, 0, none⟩) len2 cap2] w fun e w' => e = .returned (.tuple #[.int .i64 (fWordDistance d p zs z2).1, .int .i64 (fWordDistance d p zs z2).2]) ∧ Below w.heap.size w w' := by
  cases hf : fldI d p with
  | false => rw [fWD_A hf]; exact implWordDistance_A d p hf hl hh _ _ w
  | true =>
    obtain ⟨m, P, rfl, rfl, hF⟩ := fldI_nat hf
    have hF := Fld.of hF
    by_cases h : okW (2 ^ m) zs = true ∧ okW (2 ^ m) z2 = true ∧ zs.length = z2.length
    · have hl1 := hM.len
      have hl2 := hM2.len
      obtain rfl : len = len2 := by omega
      rw [fWD_C hF h, hl1]; exact implWordDistance_C m P _ hF b len cap zs b2 cap2 z2 h.1 h.2.1 w hM hM2 hTb
    · rw [fWD_B hF h]; exact implWordDistance_B m P _ hF b len cap zs b2 len2 cap2 z2 h w hM hM2
end Go.Proofs.YtejpjcdnhboooaaDoor
