/- InterpolateLinear: what the model's and the program's function return. -/
import Derived.Test.YtfnmlhilgabjeaaIpS
import Derived.Test.YtfnmlhilgabjeaaIpI
namespace Go.Proofs.Ytfnmlhilgabjeaa
open Go.RowKit Go.Joins
set_option linter.unusedVariables false

def fInterpolateLinear (d p : Int) (z1 z2 : List Int) : List Int × Int :=
  if fldI d p = false then ([], 1) else if (allIn (2 ^ d.toNat) z1 && (allIn (2 ^ d.toNat) z2 && decide (z1.length = z2.length))) = false then ([], 2) else if ipB p.toNat (2 ^ d.toNat) (nth (nats z1)) (nth (nats z2)) z1.length = false then ([], 4) else (ints (ip p.toNat (2 ^ d.toNat) (nth (nats z1)) (nth (nats z2)) z1.length).2, 0)
theorem fInterpolateLinear_A {d p : Int} {z1 z2 : List Int} (h : fldI d p = false) : fInterpolateLinear d p z1 z2 = ([], 1) := by rw [fInterpolateLinear, if_pos h]
theorem fInterpolateLinear_B {m P n : Nat} (hF : Fld m P n) {z1 z2 : List Int} (h : (allIn n z1 && (allIn n z2 && decide (z1.length = z2.length))) = false) : fInterpolateLinear m P z1 z2 = ([], 2) := by
  rw [fInterpolateLinear, fldI_of hF.f, if_neg (by decide), Int.toNat_natCast, hF.n, if_pos h]
theorem fInterpolateLinear_S {m P n : Nat} (hF : Fld m P n) {z1 z2 : List Int} (h : (allIn n z1 && (allIn n z2 && decide (z1.length = z2.length))) = true) (h2 : ipB P n (nth (nats z1)) (nth (nats z2)) z1.length = false) : fInterpolateLinear m P z1 z2 = ([], 4) := by
  rw [fInterpolateLinear, fldI_of hF.f, if_neg (by decide), Int.toNat_natCast, Int.toNat_natCast, hF.n, h, if_neg (by decide), if_pos h2]
theorem fInterpolateLinear_C {m P n : Nat} (hF : Fld m P n) {z1 z2 : List Int} (h : (allIn n z1 && (allIn n z2 && decide (z1.length = z2.length))) = true) (h2 : ipB P n (nth (nats z1)) (nth (nats z2)) z1.length = true) : fInterpolateLinear m P z1 z2 = (ints (ip P n (nth (nats z1)) (nth (nats z2)) z1.length).2, 0) := by
  rw [fInterpolateLinear, fldI_of hF.f, if_neg (by decide), Int.toNat_natCast, Int.toNat_natCast, hF.n, h, if_neg (by decide), h2, if_neg (by decide)]

set_option maxHeartbeats 800000 in
theorem specInterpolateLinear_A (d p : Int) (hf : fldI d p = false) (v1 v2 : Value) (l1 c1 l2 c2 : Nat) (a1 a2 : Option Addr) (hv1 : v1 = .slice a1 l1 c1) (hv2 : v2 = .slice a2 l2 c2) (w : World) :
    Calls Try.prog 30 #[.agg #[.int .i64 d, .int .i64 p], v1, v2] w fun e w' => ∃ v, e = .returned (.tuple #[v, .int .i64 1]) ∧ Below w.heap.size w w' ∧ Res w' w.heap.size w'.heap.size v ([]) := by
  subst hv1 hv2
  have HF := Lib.hid hf
  clear hf
  go_enter Try.func30, Try.ntmps30
  have h0 := FAt.start w d p 26
  go_wp2_with fail
  refine (l01List_A d p HF.out _ _).mono ?_
  rintro e w1 ⟨rfl, hb⟩
  have h1 := Lib.hid (h0.next hb)
  clear hb h0
  go_wp2_with fail
  go_ret2
  exact ⟨_, rfl, (h1.out.alloc _).b, .nil _ _⟩
set_option maxHeartbeats 800000 in
theorem specInterpolateLinear_B1 (m P n : Nat) (hF : Fld m P n) (b1 l1 c1 : Nat) (z1 : List Int) (b2 l2 c2 : Nat) (z2 : List Int) (w : World) (hM1 : Mt w b1 l1 z1) (hM2 : Mt w b2 l2 z2) (hin : allIn n z1 = false) :
    Calls Try.prog 30 #[.agg #[.int .i64 m, .int .i64 P], .slice (some ⟨b1, 0, none⟩) l1 c1, .slice (some ⟨b2, 0, none⟩) l2 c2] w fun e w' => ∃ v, e = .returned (.tuple #[v, .int .i64 2]) ∧ Below w.heap.size w w' ∧ Res w' w.heap.size w'.heap.size v ([]) := by
  have HIN := Lib.hid hin
  have HM := Lib.hid hM1
  clear hin hM1 hM2
  go_enter Try.func30, Try.ntmps30
  have h0 := FAt.start w m P 26
  go_wp2_with fail
  have HL := l01List_any m P n hF b1 l1 c1 z1 _ (HM.out.below h0.b)
  rw [HIN.out] at HL
  refine HL.mono ?_
  clear HL
  rintro e w1 ⟨rfl, hb⟩
  have h1 := Lib.hid (h0.next hb)
  clear hb h0
  have ec : cIn false = 2 := rfl
  rw [ec]
  go_wp2_with fail
  go_ret2
  exact ⟨_, rfl, (h1.out.alloc _).b, .nil _ _⟩
set_option maxHeartbeats 1600000 in
theorem specInterpolateLinear_B2 (m P n : Nat) (hF : Fld m P n) (b1 l1 c1 : Nat) (z1 : List Int) (b2 l2 c2 : Nat) (z2 : List Int) (w : World) (hM1 : Mt w b1 l1 z1) (hM2 : Mt w b2 l2 z2) (hin : allIn n z1 = true) (hin2 : allIn n z2 = false) :
    Calls Try.prog 30 #[.agg #[.int .i64 m, .int .i64 P], .slice (some ⟨b1, 0, none⟩) l1 c1, .slice (some ⟨b2, 0, none⟩) l2 c2] w fun e w' => ∃ v, e = .returned (.tuple #[v, .int .i64 2]) ∧ Below w.heap.size w w' ∧ Res w' w.heap.size w'.heap.size v ([]) := by
  have h32 := hF.n32
  have hn2 := hF.n2
  have hl1 := hM1.len
  have hl2 := hM2.len
  have hs1 := hM1.small
  have hs2 := hM2.small
  have HIN := Lib.hid hin
  have HM := Lib.hid hM1
  have HM2 := Lib.hid hM2
  have HIN2 := Lib.hid hin2
  clear hin2
  clear hin hM1 hM2
  go_enter Try.func30, Try.ntmps30
  have h0 := FAt.start w m P 26
  go_wp2_with fail
  have HL := l01List_any m P n hF b1 l1 c1 z1 _ (HM.out.below h0.b)
  rw [HIN.out] at HL
  refine HL.mono ?_
  clear HL
  rintro e w1 ⟨rfl, hb⟩
  have h1 := h0.next hb
  have x1 := h1.c0; have y1 := h1.c1
  clear hb h0
  have ec : cIn true = 0 := rfl
  rw [ec]
  go_wp2_with fail
  have HL := l01List_any m P n hF b2 l2 c2 z2 _ (HM2.out.below h1.b)
  rw [HIN2.out] at HL
  refine HL.mono ?_
  clear HL
  rintro e w2 ⟨rfl, hb⟩
  have h2 := h1.next hb
  have x2 := h2.c0; have y2 := h2.c1
  clear hb h1 x1 y1 ec
  have ec : cIn false = 2 := rfl
  rw [ec]
  go_wp2_with fail
  go_ret2
  exact ⟨_, rfl, (h2.alloc _).b, .nil _ _⟩
set_option maxHeartbeats 1600000 in
theorem specInterpolateLinear_B3 (m P n : Nat) (hF : Fld m P n) (b1 l1 c1 : Nat) (z1 : List Int) (b2 l2 c2 : Nat) (z2 : List Int) (w : World) (hM1 : Mt w b1 l1 z1) (hM2 : Mt w b2 l2 z2) (hin : allIn n z1 = true) (hin2 : allIn n z2 = true) (hne : z1.length ≠ z2.length) :
    Calls Try.prog 30 #[.agg #[.int .i64 m, .int .i64 P], .slice (some ⟨b1, 0, none⟩) l1 c1, .slice (some ⟨b2, 0, none⟩) l2 c2] w fun e w' => ∃ v, e = .returned (.tuple #[v, .int .i64 2]) ∧ Below w.heap.size w w' ∧ Res w' w.heap.size w'.heap.size v ([]) := by
  have h32 := hF.n32
  have hn2 := hF.n2
  have hl1 := hM1.len
  have hl2 := hM2.len
  have hs1 := hM1.small
  have hs2 := hM2.small
  have HIN := Lib.hid hin
  have HM := Lib.hid hM1
  have HM2 := Lib.hid hM2
  have HIN2 := Lib.hid hin2
  clear hin2
  have g1 : ((l1 : Int) == (l2 : Int)) = false := by simp; omega
  have g2 : ((l1 : Int) != (l2 : Int)) = true := by simp; omega
  clear hin hM1 hM2
  go_enter Try.func30, Try.ntmps30
  have h0 := FAt.start w m P 26
  go_wp2_with fail
  have HL := l01List_any m P n hF b1 l1 c1 z1 _ (HM.out.below h0.b)
  rw [HIN.out] at HL
  refine HL.mono ?_
  clear HL
  rintro e w1 ⟨rfl, hb⟩
  have h1 := h0.next hb
  have x1 := h1.c0; have y1 := h1.c1
  clear hb h0
  have ec : cIn true = 0 := rfl
  rw [ec]
  go_wp2_with fail
  have HL := l01List_any m P n hF b2 l2 c2 z2 _ (HM2.out.below h1.b)
  rw [HIN2.out] at HL
  refine HL.mono ?_
  clear HL
  rintro e w2 ⟨rfl, hb⟩
  have h2 := h1.next hb
  have x2 := h2.c0; have y2 := h2.c1
  clear hb h1 x1 y1 ec
  have ec : cIn true = 0 := rfl
  rw [ec]
  go_wp2_with fail
  go_ret2
  exact ⟨_, rfl, (h2.alloc _).b, .nil _ _⟩
set_option maxHeartbeats 1600000 in
theorem specInterpolateLinear_S (m P n : Nat) (hF : Fld m P n) (b1 l1 c1 : Nat) (z1 : List Int) (b2 l2 c2 : Nat) (z2 : List Int) (w : World) (hM1 : Mt w b1 l1 z1) (hM2 : Mt w b2 l2 z2) (hin : allIn n z1 = true) (hin2 : allIn n z2 = true) (he : z1.length = z2.length) (hB : ipB P n (nth (nats z1)) (nth (nats z2)) z1.length = false) :
    Calls Try.prog 30 #[.agg #[.int .i64 m, .int .i64 P], .slice (some ⟨b1, 0, none⟩) l1 c1, .slice (some ⟨b2, 0, none⟩) l2 c2] w fun e w' => ∃ v, e = .returned (.tuple #[v, .int .i64 4]) ∧ Below w.heap.size w w' ∧ Res w' w.heap.size w'.heap.size v ([]) := by
  have h32 := hF.n32
  have hn2 := hF.n2
  have hl1 := hM1.len
  have hl2 := hM2.len
  have hs1 := hM1.small
  have hs2 := hM2.small
  have HIN := Lib.hid hin
  have HM := Lib.hid hM1
  have HM2 := Lib.hid hM2
  have HIN2 := Lib.hid hin2
  have HX := Lib.hid (nats_lt hin (by omega))
  have HY := Lib.hid (nats_lt hin2 (by omega))
  have RX := Lib.hid (hM1.rl hin)
  have RY := Lib.hid (hM2.rl hin2)
  obtain rfl : l1 = l2 := by omega
  rw [hl1] at hB
  have HBB := Lib.hid hB
  clear hin2 he hB
  clear hin hM1 hM2
  go_enter Try.func30, Try.ntmps30
  have h0 := FAt.start w m P 26
  go_wp2_with fail
  have HL := l01List_any m P n hF b1 l1 c1 z1 _ (HM.out.below h0.b)
  rw [HIN.out] at HL
  refine HL.mono ?_
  clear HL
  rintro e w1 ⟨rfl, hb⟩
  have h1 := h0.next hb
  have x1 := h1.c0; have y1 := h1.c1
  clear hb h0
  have ec : cIn true = 0 := rfl
  rw [ec]
  go_wp2_with fail
  have HL := l01List_any m P n hF b2 l1 c2 z2 _ (HM2.out.below h1.b)
  rw [HIN2.out] at HL
  refine HL.mono ?_
  clear HL
  rintro e w2 ⟨rfl, hb⟩
  have h2 := h1.next hb
  have x2 := h2.c0; have y2 := h2.c1
  clear hb h1 x1 y1 ec
  have ec : cIn true = 0 := rfl
  rw [ec]
  go_wp2_with fail
  have HH := l03Interpolate_any m P n hF _ _ l1 c1 c2 (nats z1) (nats z2) HX.out HY.out _ (by omega) (RX.out.below h2.b) (RY.out.below h2.b)
  rw [HBB.out] at HH
  refine HH.mono ?_
  clear HH
  rintro e w3 ⟨D, r, cd, rfl, hb, hR⟩
  have HB := Lib.hid (h2.next hb)
  clear hb hR h2 x2 y2
  go_wp2_with fail
  go_ret2
  exact ⟨_, rfl, (HB.out.alloc _).b, .nil _ _⟩
set_option maxHeartbeats 1600000 in
theorem specInterpolateLinear_C (m P n : Nat) (hF : Fld m P n) (b1 l1 c1 : Nat) (z1 : List Int) (b2 l2 c2 : Nat) (z2 : List Int) (w : World) (hM1 : Mt w b1 l1 z1) (hM2 : Mt w b2 l2 z2) (hin : allIn n z1 = true) (hin2 : allIn n z2 = true) (he : z1.length = z2.length) (hB : ipB P n (nth (nats z1)) (nth (nats z2)) z1.length = true) :
    Calls Try.prog 30 #[.agg #[.int .i64 m, .int .i64 P], .slice (some ⟨b1, 0, none⟩) l1 c1, .slice (some ⟨b2, 0, none⟩) l2 c2] w fun e w' => ∃ v, e = .returned (.tuple #[v, .int .i64 0]) ∧ Below w.heap.size w w' ∧ Res w' w.heap.size w'.heap.size v (ints (ip P n (nth (nats z1)) (nth (nats z2)) z1.length).2) := by
  have h32 := hF.n32
  have hn2 := hF.n2
  have hl1 := hM1.len
  have hl2 := hM2.len
  have hs1 := hM1.small
  have hs2 := hM2.small
  have HIN := Lib.hid hin
  have HM := Lib.hid hM1
  have HM2 := Lib.hid hM2
  have HIN2 := Lib.hid hin2
  have HX := Lib.hid (nats_lt hin (by omega))
  have HY := Lib.hid (nats_lt hin2 (by omega))
  have RX := Lib.hid (hM1.rl hin)
  have RY := Lib.hid (hM2.rl hin2)
  obtain rfl : l1 = l2 := by omega
  rw [hl1] at hB ⊢
  have HBB := Lib.hid hB
  clear hin2 he hB
  clear hin hM1 hM2
  go_enter Try.func30, Try.ntmps30
  have h0 := FAt.start w m P 26
  go_wp2_with fail
  have HL := l01List_any m P n hF b1 l1 c1 z1 _ (HM.out.below h0.b)
  rw [HIN.out] at HL
  refine HL.mono ?_
  clear HL
  rintro e w1 ⟨rfl, hb⟩
  have h1 := h0.next hb
  have x1 := h1.c0; have y1 := h1.c1
  clear hb h0
  have ec : cIn true = 0 := rfl
  rw [ec]
  go_wp2_with fail
  have HL := l01List_any m P n hF b2 l1 c2 z2 _ (HM2.out.below h1.b)
  rw [HIN2.out] at HL
  refine HL.mono ?_
  clear HL
  rintro e w2 ⟨rfl, hb⟩
  have h2 := h1.next hb
  have x2 := h2.c0; have y2 := h2.c1
  clear hb h1 x1 y1 ec
  have ec : cIn true = 0 := rfl
  rw [ec]
  go_wp2_with fail
  have HH := l03Interpolate_any m P n hF _ _ l1 c1 c2 (nats z1) (nats z2) HX.out HY.out _ (by omega) (RX.out.below h2.b) (RY.out.below h2.b)
  rw [HBB.out] at HH
  refine HH.mono ?_
  clear HH
  rintro e w3 ⟨D, r, cd, rfl, hb, hR⟩
  have hle := (ip_le P n (nth (nats z1)) (nth (nats z2)) l1).2
  have hs := (hR rfl).sv.len
  have HO := Lib.hid (((hR rfl).res (by have := ip_small hF HX.out (ipB_ok HBB.out); omega)).wide2 (B' := w.heap.size) h2.b.size)
  have HB := Lib.hid (h2.next hb)
  clear hb hR h2 x2 y2 hle hs
  go_wp2_with fail
  go_ret2
  exact ⟨_, rfl, HB.out.b, HO.out⟩
set_option maxHeartbeats 800000 in
theorem implInterpolateLinear_A (d p : Int) (hf : fldI d p = false) (hl : -9223372036854775808 ≤ p) (hh : p ≤ 9223372036854775807) (v1 v2 : Value) (w : World) :
    Calls Try.prog 31 #[.agg #[.int .i64 d, .int .i64 p], v1, v2] w fun e w' => ∃ v, e = .returned (.tuple #[v, .int .i64 1]) ∧ Below w.heap.size w w' ∧ Res w' w.heap.size w'.heap.size v ([]) := by
  have HF := Lib.hid hf
  clear hf
  go_enter Try.func31, Try.ntmps31
  have hb0 := below_alloc1 w (.cells #[.int .i64 d, .int .i64 p] 26)
  have HB0 := Lib.hid hb0
  clear hb0
  go_wp2_with fail
  refine (calculatorFor_invalid d p HF.out hl hh _ _).mono ?_
  rintro e w1 ⟨rfl, hb⟩
  have HB1 := Lib.hid (HB0.out.trans (hb.mono HB0.out.size))
  clear hb
  go_wp2_with fail
  go_ret2
  exact ⟨_, rfl, HB1.out, .nil _ _⟩
set_option maxHeartbeats 800000 in
theorem implInterpolateLinear_B1 (m P n : Nat) (hF : Fld m P n) (b1 l1 c1 : Nat) (z1 : List Int) (b2 l2 c2 : Nat) (z2 : List Int) (w : World) (hM1 : Mt w b1 l1 z1) (hM2 : Mt w b2 l2 z2) (hin : allIn n z1 = false) :
    Calls Try.prog 31 #[.agg #[.int .i64 m, .int .i64 P], .slice (some ⟨b1, 0, none⟩) l1 c1, .slice (some ⟨b2, 0, none⟩) l2 c2] w fun e w' => ∃ v, e = .returned (.tuple #[v, .int .i64 2]) ∧ Below w.heap.size w w' ∧ Res w' w.heap.size w'.heap.size v ([]) := by
  have hsmall := hM1.small
  have HIN := Lib.hid hin
  have HM := Lib.hid hM1
  clear hin hM1 hM2
  go_enter Try.func31, Try.ntmps31
  have hb0 := below_alloc1 w (.cells #[.int .i64 m, .int .i64 P] 26)
  have HB0 := Lib.hid hb0
  clear hb0
  go_wp2_with fail
  refine (calculatorFor_B m P n hF _ _ l1 c1 z1 ((HM.out.below HB0.out).arg) (by omega) HIN.out).mono ?_
  rintro e w1 ⟨rfl, hb⟩
  have HB1 := Lib.hid (HB0.out.trans (hb.mono HB0.out.size))
  clear hb
  go_wp2_with fail
  go_ret2
  exact ⟨_, rfl, HB1.out, .nil _ _⟩
set_option maxHeartbeats 1600000 in
theorem implInterpolateLinear_B2 (m P n : Nat) (hF : Fld m P n) (b1 l1 c1 : Nat) (z1 : List Int) (b2 l2 c2 : Nat) (z2 : List Int) (w : World) (hM1 : Mt w b1 l1 z1) (hM2 : Mt w b2 l2 z2) (hin : allIn n z1 = true) (hin2 : allIn n z2 = false) :
    Calls Try.prog 31 #[.agg #[.int .i64 m, .int .i64 P], .slice (some ⟨b1, 0, none⟩) l1 c1, .slice (some ⟨b2, 0, none⟩) l2 c2] w fun e w' => ∃ v, e = .returned (.tuple #[v, .int .i64 2]) ∧ Below w.heap.size w w' ∧ Res w' w.heap.size w'.heap.size v ([]) := by
  have h32 := hF.n32
  have hn2 := hF.n2
  have hl1 := hM1.len
  have hl2 := hM2.len
  have hs1 := hM1.small
  have hs2 := hM2.small
  have HIN := Lib.hid hin
  have HM := Lib.hid hM1
  have HM2 := Lib.hid hM2
  have HIN2 := Lib.hid hin2
  clear hin2
  clear hin hM1 hM2
  go_enter Try.func31, Try.ntmps31
  have hb0 := below_alloc1 w (.cells #[.int .i64 m, .int .i64 P] 26)
  have HB0 := Lib.hid hb0
  clear hb0
  go_wp2_with fail
  refine (calculatorFor_C m P n hF _ _ l1 c1 z1 ((HM.out.below HB0.out).arg) (by omega) HIN.out).mono ?_
  rintro e w1 ⟨c, rfl, hb, hC, hc⟩
  have HB1 := Lib.hid (HB0.out.trans (hb.mono HB0.out.size))
  have HC := Lib.hid hC
  clear hb hC hc
  go_wp2_with fail
  have HA : Hid (Calls Try.prog 57 #[.pointer (some ⟨c, 0, none⟩), .slice (some ⟨b2, 0, none⟩) l2 c2] w1 fun e w' => e = .returned (.bool false) ∧ w1 = w') := by
    have := hasAll_any c m P n hF _ l2 c2 z2 (by omega) w1 (HM2.out.below HB1.out).arg HC.out.deg
    rw [HIN2.out] at this
    exact this
  refine HA.out.mono ?_
  rintro e w2 ⟨rfl, rfl⟩
  clear HA
  go_wp2_with fail
  go_ret2
  exact ⟨_, rfl, HB1.out, .nil _ _⟩
set_option maxHeartbeats 1600000 in
theorem implInterpolateLinear_B3 (m P n : Nat) (hF : Fld m P n) (b1 l1 c1 : Nat) (z1 : List Int) (b2 l2 c2 : Nat) (z2 : List Int) (w : World) (hM1 : Mt w b1 l1 z1) (hM2 : Mt w b2 l2 z2) (hin : allIn n z1 = true) (hin2 : allIn n z2 = true) (hne : z1.length ≠ z2.length) :
    Calls Try.prog 31 #[.agg #[.int .i64 m, .int .i64 P], .slice (some ⟨b1, 0, none⟩) l1 c1, .slice (some ⟨b2, 0, none⟩) l2 c2] w fun e w' => ∃ v, e = .returned (.tuple #[v, .int .i64 2]) ∧ Below w.heap.size w w' ∧ Res w' w.heap.size w'.heap.size v ([]) := by
  have h32 := hF.n32
  have hn2 := hF.n2
  have hl1 := hM1.len
  have hl2 := hM2.len
  have hs1 := hM1.small
  have hs2 := hM2.small
  have HIN := Lib.hid hin
  have HM := Lib.hid hM1
  have HM2 := Lib.hid hM2
  have HIN2 := Lib.hid hin2
  clear hin2
  have g1 : ((l1 : Int) == (l2 : Int)) = false := by simp; omega
  have g2 : ((l1 : Int) != (l2 : Int)) = true := by simp; omega
  clear hin hM1 hM2
  go_enter Try.func31, Try.ntmps31
  have hb0 := below_alloc1 w (.cells #[.int .i64 m, .int .i64 P] 26)
  have HB0 := Lib.hid hb0
  clear hb0
  go_wp2_with fail
  refine (calculatorFor_C m P n hF _ _ l1 c1 z1 ((HM.out.below HB0.out).arg) (by omega) HIN.out).mono ?_
  rintro e w1 ⟨c, rfl, hb, hC, hc⟩
  have HB1 := Lib.hid (HB0.out.trans (hb.mono HB0.out.size))
  have HC := Lib.hid hC
  clear hb hC hc
  go_wp2_with fail
  have HA : Hid (Calls Try.prog 57 #[.pointer (some ⟨c, 0, none⟩), .slice (some ⟨b2, 0, none⟩) l2 c2] w1 fun e w' => e = .returned (.bool true) ∧ w1 = w') := by
    have := hasAll_any c m P n hF _ l2 c2 z2 (by omega) w1 (HM2.out.below HB1.out).arg HC.out.deg
    rw [HIN2.out] at this
    exact this
  refine HA.out.mono ?_
  rintro e w2 ⟨rfl, rfl⟩
  clear HA
  go_wp2_with fail
  go_ret2
  exact ⟨_, rfl, HB1.out, .nil _ _⟩
set_option maxHeartbeats 1600000 in
theorem implInterpolateLinear_S (m P n : Nat) (hF : Fld m P n) (b1 l1 c1 : Nat) (z1 : List Int) (b2 l2 c2 : Nat) (z2 : List Int) (w : World) (hM1 : Mt w b1 l1 z1) (hM2 : Mt w b2 l2 z2) (hin : allIn n z1 = true) (hin2 : allIn n z2 = true) (he : z1.length = z2.length) (hB : ipB P n (nth (nats z1)) (nth (nats z2)) z1.length = false) :
    Calls Try.prog 31 #[.agg #[.int .i64 m, .int .i64 P], .slice (some ⟨b1, 0, none⟩) l1 c1, .slice (some ⟨b2, 0, none⟩) l2 c2] w fun e w' => ∃ v, e = .returned (.tuple #[v, .int .i64 4]) ∧ Below w.heap.size w w' ∧ Res w' w.heap.size w'.heap.size v ([]) := by
  have h32 := hF.n32
  have hn2 := hF.n2
  have hl1 := hM1.len
  have hl2 := hM2.len
  have hs1 := hM1.small
  have hs2 := hM2.small
  have HIN := Lib.hid hin
  have HM := Lib.hid hM1
  have HM2 := Lib.hid hM2
  have HIN2 := Lib.hid hin2
  have HX := Lib.hid (nats_lt hin (by omega))
  have HY := Lib.hid (nats_lt hin2 (by omega))
  have RX := Lib.hid (hM1.rl hin)
  have RY := Lib.hid (hM2.rl hin2)
  obtain rfl : l1 = l2 := by omega
  rw [hl1] at hB
  have HBB := Lib.hid hB
  clear hin2 he hB
  clear hin hM1 hM2
  go_enter Try.func31, Try.ntmps31
  have hb0 := below_alloc1 w (.cells #[.int .i64 m, .int .i64 P] 26)
  have HB0 := Lib.hid hb0
  clear hb0
  go_wp2_with fail
  refine (calculatorFor_C m P n hF _ _ l1 c1 z1 ((HM.out.below HB0.out).arg) (by omega) HIN.out).mono ?_
  rintro e w1 ⟨c, rfl, hb, hC, hc⟩
  have HB1 := Lib.hid (HB0.out.trans (hb.mono HB0.out.size))
  have HC := Lib.hid hC
  clear hb hC hc
  go_wp2_with fail
  have HA : Hid (Calls Try.prog 57 #[.pointer (some ⟨c, 0, none⟩), .slice (some ⟨b2, 0, none⟩) l1 c2] w1 fun e w' => e = .returned (.bool true) ∧ w1 = w') := by
    have := hasAll_any c m P n hF _ l1 c2 z2 (by omega) w1 (HM2.out.below HB1.out).arg HC.out.deg
    rw [HIN2.out] at this
    exact this
  refine HA.out.mono ?_
  rintro e w2 ⟨rfl, rfl⟩
  clear HA
  go_wp2_with fail
  have HH := interpolated_any c m P n hF _ _ l1 c1 c2 (nats z1) (nats z2) HX.out HY.out _ (by omega) HC.out (RX.out.below HB1.out) (RY.out.below HB1.out)
  rw [HBB.out] at HH
  refine HH.mono ?_
  clear HH
  rintro e w3 ⟨D, r, cd, rfl, hb, hR⟩
  have HB2 := Lib.hid (HB1.out.trans (hb.mono HB1.out.size))
  clear hb
  clear hR
  go_wp2_with fail
  go_ret2
  exact ⟨_, rfl, HB2.out, .nil _ _⟩
set_option maxHeartbeats 1600000 in
theorem implInterpolateLinear_C (m P n : Nat) (hF : Fld m P n) (b1 l1 c1 : Nat) (z1 : List Int) (b2 l2 c2 : Nat) (z2 : List Int) (w : World) (hM1 : Mt w b1 l1 z1) (hM2 : Mt w b2 l2 z2) (hin : allIn n z1 = true) (hin2 : allIn n z2 = true) (he : z1.length = z2.length) (hB : ipB P n (nth (nats z1)) (nth (nats z2)) z1.length = true) :
    Calls Try.prog 31 #[.agg #[.int .i64 m, .int .i64 P], .slice (some ⟨b1, 0, none⟩) l1 c1, .slice (some ⟨b2, 0, none⟩) l2 c2] w fun e w' => ∃ v, e = .returned (.tuple #[v, .int .i64 0]) ∧ Below w.heap.size w w' ∧ Res w' w.heap.size w'.heap.size v (ints (ip P n (nth (nats z1)) (nth (nats z2)) z1.length).2) := by
  have h32 := hF.n32
  have hn2 := hF.n2
  have hl1 := hM1.len
  have hl2 := hM2.len
  have hs1 := hM1.small
  have hs2 := hM2.small
  have HIN := Lib.hid hin
  have HM := Lib.hid hM1
  have HM2 := Lib.hid hM2
  have HIN2 := Lib.hid hin2
  have HX := Lib.hid (nats_lt hin (by omega))
  have HY := Lib.hid (nats_lt hin2 (by omega))
  have RX := Lib.hid (hM1.rl hin)
  have RY := Lib.hid (hM2.rl hin2)
  obtain rfl : l1 = l2 := by omega
  rw [hl1] at hB ⊢
  have HBB := Lib.hid hB
  clear hin2 he hB
  clear hin hM1 hM2
  go_enter Try.func31, Try.ntmps31
  have hb0 := below_alloc1 w (.cells #[.int .i64 m, .int .i64 P] 26)
  have HB0 := Lib.hid hb0
  clear hb0
  go_wp2_with fail
  refine (calculatorFor_C m P n hF _ _ l1 c1 z1 ((HM.out.below HB0.out).arg) (by omega) HIN.out).mono ?_
  rintro e w1 ⟨c, rfl, hb, hC, hc⟩
  have HB1 := Lib.hid (HB0.out.trans (hb.mono HB0.out.size))
  have HC := Lib.hid hC
  clear hb hC hc
  go_wp2_with fail
  have HA : Hid (Calls Try.prog 57 #[.pointer (some ⟨c, 0, none⟩), .slice (some ⟨b2, 0, none⟩) l1 c2] w1 fun e w' => e = .returned (.bool true) ∧ w1 = w') := by
    have := hasAll_any c m P n hF _ l1 c2 z2 (by omega) w1 (HM2.out.below HB1.out).arg HC.out.deg
    rw [HIN2.out] at this
    exact this
  refine HA.out.mono ?_
  rintro e w2 ⟨rfl, rfl⟩
  clear HA
  go_wp2_with fail
  have HH := interpolated_any c m P n hF _ _ l1 c1 c2 (nats z1) (nats z2) HX.out HY.out _ (by omega) HC.out (RX.out.below HB1.out) (RY.out.below HB1.out)
  rw [HBB.out] at HH
  refine HH.mono ?_
  clear HH
  rintro e w3 ⟨D, r, cd, rfl, hb, hR⟩
  have HB2 := Lib.hid (HB1.out.trans (hb.mono HB1.out.size))
  clear hb
  have hle := (ip_le P n (nth (nats z1)) (nth (nats z2)) l1).2
  have HR := Lib.hid (hR rfl)
  have hs := HR.out.len
  have hsm := ip_small hF HX.out (ipB_ok HBB.out)
  have hr20 : r ≤ 1048576 := by omega
  have H256 := Lib.hid (fun i => show nth (ip P n (nth (nats z1)) (nth (nats z2)) l1).2 i < 256 by have := (ip_lt hF (nth (nats z1)) (nth (nats z2)) l1).2 i; omega)
  clear hR hle hs hsm
  go_wp2_with fail
  refine (numbers_any D r cd _ hr20 H256.out _ HR.out).mono ?_
  rintro e w4 ⟨b3, rfl, hbb, hb, hM⟩
  have hz := HB2.out.size
  have HB3 := Lib.hid (HB2.out.trans (hb.mono HB2.out.size))
  have HRES := Lib.hid (hM.res (cap := r) (B := w.heap.size) (by omega))
  clear hb hM
  go_wp2_with fail
  go_ret2
  exact ⟨_, rfl, HB3.out, HRES.out⟩
theorem specInterpolateLinear_any (d p : Int) (b1 l1 c1 : Nat) (z1 : List Int) (b2 l2 c2 : Nat) (z2 : List Int) (w : World)  (hM1 : Mt w b1 l1 z1) (hM2 : Mt w b2 l2 z2) (hc1 : l1 ≤ c1 := by exact Nat.le_refl _) (hc2 : l2 ≤ c2 := by exact Nat.le_refl _) :
    Calls Try.prog 30 #[.agg #[.int .i64 d, .int .i64 p], .slice (some ⟨b1, 0, none⟩) l1 c1, .slice (some ⟨b2, 0, none⟩) l2 c2] w fun e w' => ∃ v, e = .returned (.tuple #[v, .int .i64 (fInterpolateLinear d p z1 z2).2]) ∧ Below w.heap.size w w' ∧ Res w' w.heap.size w'.heap.size v ((fInterpolateLinear d p z1 z2).1) := by
  cases hf : fldI d p with
  | false => rw [fInterpolateLinear_A hf]; exact specInterpolateLinear_A d p hf _ _ _ _ _ _ _ _ rfl rfl w
  | true =>
    obtain ⟨m, P, rfl, rfl, hF⟩ := fldI_nat hf
    have hF := Fld.of hF
    cases hin : allIn (2 ^ m) z1 with
    | false => rw [fInterpolateLinear_B hF (by rw [hin]; rfl)]; exact specInterpolateLinear_B1 m P _ hF b1 l1 c1 z1 b2 l2 c2 z2 w hM1 hM2 hin
    | true =>
      cases hin2 : allIn (2 ^ m) z2 with
      | false => rw [fInterpolateLinear_B hF (by rw [hin, hin2]; rfl)]; exact specInterpolateLinear_B2 m P _ hF b1 l1 c1 z1 b2 l2 c2 z2 w hM1 hM2 hin hin2
      | true =>
        by_cases he : z1.length = z2.length
        · have hb : (allIn (2 ^ m) z1 && (allIn (2 ^ m) z2 && decide (z1.length = z2.length))) = true := by rw [hin, hin2]; simp [he]
          cases hB : ipB P (2 ^ m) (nth (nats z1)) (nth (nats z2)) z1.length with
          | false => rw [fInterpolateLinear_S hF hb hB]; exact specInterpolateLinear_S m P _ hF b1 l1 c1 z1 b2 l2 c2 z2 w hM1 hM2 hin hin2 he hB
          | true => rw [fInterpolateLinear_C hF hb hB]; exact specInterpolateLinear_C m P _ hF b1 l1 c1 z1 b2 l2 c2 z2 w hM1 hM2 hin hin2 he hB
        · rw [fInterpolateLinear_B hF (by rw [hin, hin2]; simp [he])]; exact specInterpolateLinear_B3 m P _ hF b1 l1 c1 z1 b2 l2 c2 z2 w hM1 hM2 hin hin2 he
theorem implInterpolateLinear_any (d p : Int) (b1 l1 c1 : Nat) (z1 : List Int) (b2 l2 c2 : Nat) (z2 : List Int) (w : World) (hl : -9223372036854775808 ≤ p) (hh : p ≤ 9223372036854775807) (hM1 : Mt w b1 l1 z1) (hM2 : Mt w b2 l2 z2) (hc1 : l1 ≤ c1 := by exact Nat.le_refl _) (hc2 : l2 ≤ c2 := by exact Nat.le_refl _) :
    Calls Try.prog 31 #[.agg #[.int .i64 d, .int .i64 p], .slice (some ⟨b1, 0, none⟩) l1 c1, .slice (some ⟨b2, 0, none⟩) l2 c2] w fun e w' => ∃ v, e = .returned (.tuple #[v, .int .i64 (fInterpolateLinear d p z1 z2).2]) ∧ Below w.heap.size w w' ∧ Res w' w.heap.size w'.heap.size v ((fInterpolateLinear d p z1 z2).1) := by
  cases hf : fldI d p with
  | false => rw [fInterpolateLinear_A hf]; exact implInterpolateLinear_A d p hf hl hh _ _ w
  | true =>
    obtain ⟨m, P, rfl, rfl, hF⟩ := fldI_nat hf
    have hF := Fld.of hF
    cases hin : allIn (2 ^ m) z1 with
    | false => rw [fInterpolateLinear_B hF (by rw [hin]; rfl)]; exact implInterpolateLinear_B1 m P _ hF b1 l1 c1 z1 b2 l2 c2 z2 w hM1 hM2 hin
    | true =>
      cases hin2 : allIn (2 ^ m) z2 with
      | false => rw [fInterpolateLinear_B hF (by rw [hin, hin2]; rfl)]; exact implInterpolateLinear_B2 m P _ hF b1 l1 c1 z1 b2 l2 c2 z2 w hM1 hM2 hin hin2
      | true =>
        by_cases he : z1.length = z2.length
        · have hb : (allIn (2 ^ m) z1 && (allIn (2 ^ m) z2 && decide (z1.length = z2.length))) = true := by rw [hin, hin2]; simp [he]
          cases hB : ipB P (2 ^ m) (nth (nats z1)) (nth (nats z2)) z1.length with
          | false => rw [fInterpolateLinear_S hF hb hB]; exact implInterpolateLinear_S m P _ hF b1 l1 c1 z1 b2 l2 c2 z2 w hM1 hM2 hin hin2 he hB
          | true => rw [fInterpolateLinear_C hF hb hB]; exact implInterpolateLinear_C m P _ hF b1 l1 c1 z1 b2 l2 c2 z2 w hM1 hM2 hin hin2 he hB
        · rw [fInterpolateLinear_B hF (by rw [hin, hin2]; simp [he])]; exact implInterpolateLinear_B3 m P _ hF b1 l1 c1 z1 b2 l2 c2 z2 w hM1 hM2 hin hin2 he
end Go.Proofs.Ytfnmlhilgabjeaa
