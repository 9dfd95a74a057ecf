/- ComposeLinear: what the model's and the program's function return. -/
import Derived.Test.YtfnmlhilgabjeaaLinS4
import Derived.Test.YtfnmlhilgabjeaaLins
namespace Go.Proofs.Ytfnmlhilgabjeaa
open Go.RowKit Go.Joins
set_option linter.unusedVariables false

def fComposeLinear (d p : Int) (z1 z2 : List Int) : List Int × Int :=
  if (okFL d p z1 && okFL d p z2) = false then ([], 1) else if 12 < (cmp p.toNat (nats z1) (nats z2)).length then ([], 3) else (ints (cmp p.toNat (nats z1) (nats z2)), 0)
theorem fComposeLinear_bad {d p : Int} {z1 z2 : List Int} (h : (okFL d p z1 && okFL d p z2) = false) : fComposeLinear d p z1 z2 = ([], 1) := by rw [fComposeLinear, if_pos h]
theorem fComposeLinear_L {m P n : Nat} (hF : Fld m P n) {z1 z2 : List Int} (h1 : okL n z1 = true) (h2 : okL n z2 = true) (hL : 12 < (cmp P (nats z1) (nats z2)).length) : fComposeLinear m P z1 z2 = ([], 3) := by
  rw [fComposeLinear, okFL_yes hF, okFL_yes hF, h1, h2, if_neg (by decide), Int.toNat_natCast, if_pos hL]
theorem fComposeLinear_C {m P n : Nat} (hF : Fld m P n) {z1 z2 : List Int} (h1 : okL n z1 = true) (h2 : okL n z2 = true) (hL : ¬ 12 < (cmp P (nats z1) (nats z2)).length) : fComposeLinear m P z1 z2 = (ints (cmp P (nats z1) (nats z2)), 0) := by
  rw [fComposeLinear, okFL_yes hF, okFL_yes hF, h1, h2, if_neg (by decide), Int.toNat_natCast, if_neg hL]

set_option maxHeartbeats 800000 in
theorem specComposeLinear_bad (d p : Int) (b1 l1 c1 : Nat) (z1 : List Int) (b2 l2 c2 : Nat) (z2 : List Int) (w : World) (hM1 : Mt w b1 l1 z1) (hM2 : Mt w b2 l2 z2) (h : (okFL d p z1 && okFL d p z2) = false) :
    Calls Try.prog 24 #[.agg #[.int .i64 d, .int .i64 p], .slice (some ⟨b1, 0, none⟩) l1 c1, .slice (some ⟨b2, 0, none⟩) l2 c2] w fun e w' => ∃ v, e = .returned (.tuple #[v, .int .i64 1]) ∧ Below w.heap.size w w' ∧ Res w' w.heap.size w'.heap.size v ([]) := by
  cases h1 : okFL d p z1 with
  | false =>
    have H1 := Lib.hid h1
    have HM1 := Lib.hid hM1
    clear h h1 hM1 hM2
    go_enter Try.func24, Try.ntmps24
    have h0 := FAt.start w d p 26
    go_wp2_with fail
    refine (specValidLinear_eq d p b1 l1 c1 z1 _ (HM1.out.below h0.b) _ H1.out).mono ?_
    rintro e w1 ⟨rfl, hb⟩
    have h2 := Lib.hid (h0.next hb)
    clear hb h0
    go_wp2_with fail
    go_ret2
    exact ⟨_, rfl, (h2.out.alloc _).b, .nil _ _⟩
  | true =>
    rw [h1, Bool.true_and] at h
    have H1 := Lib.hid h1
    have H2 := Lib.hid h
    have HM1 := Lib.hid hM1
    have HM2 := Lib.hid hM2
    clear h h1 hM1 hM2
    go_enter Try.func24, Try.ntmps24
    have h0 := FAt.start w d p 26
    go_wp2_with fail
    refine (specValidLinear_eq d p b1 l1 c1 z1 _ (HM1.out.below h0.b) _ H1.out).mono ?_
    rintro e w1 ⟨rfl, hb⟩
    have h2 := h0.next hb
    have x2 := h2.c0; have y2 := h2.c1
    clear hb h0
    go_wp2_with fail
    refine (specValidLinear_eq d p b2 l2 c2 z2 _ (HM2.out.below h2.b) _ H2.out).mono ?_
    rintro e w2 ⟨rfl, hb⟩
    have h3 := Lib.hid (h2.next hb)
    clear hb h2 x2 y2
    go_wp2_with fail
    go_ret2
    exact ⟨_, rfl, (h3.out.alloc _).b, .nil _ _⟩

set_option maxHeartbeats 800000 in
theorem implComposeLinear_bad (d p : Int) (b1 l1 c1 : Nat) (z1 : List Int) (b2 l2 c2 : Nat) (z2 : List Int) (w : World) (hl : -9223372036854775808 ≤ p) (hh : p ≤ 9223372036854775807) (hM1 : Mt w b1 l1 z1) (hM2 : Mt w b2 l2 z2) (h : (okFL d p z1 && okFL d p z2) = false) :
    Calls Try.prog 25 #[.agg #[.int .i64 d, .int .i64 p], .slice (some ⟨b1, 0, none⟩) l1 c1, .slice (some ⟨b2, 0, none⟩) l2 c2] w fun e w' => ∃ v, e = .returned (.tuple #[v, .int .i64 1]) ∧ Below w.heap.size w w' ∧ Res w' w.heap.size w'.heap.size v ([]) := by
  have H1 := Lib.hid h
  have HM1 := Lib.hid hM1
  have HM2 := Lib.hid hM2
  clear h hM1 hM2
  go_enter Try.func25, Try.ntmps25
  have hb0 := below_alloc1 w (.cells #[.int .i64 d, .int .i64 p] 26)
  have HB0 := Lib.hid hb0
  clear hb0
  go_wp2_with fail
  refine (linearsFor_bad d p hl hh b1 l1 c1 z1 b2 l2 c2 z2 _ (HM1.out.below HB0.out) (HM2.out.below HB0.out) H1.out).mono ?_
  rintro e w1 ⟨rfl, hb⟩
  have HB1 := Lib.hid (HB0.out.trans (hb.mono HB0.out.size))
  clear hb
  go_wp2_with fail
  go_ret2
  exact ⟨_, rfl, HB1.out, .nil _ _⟩

set_option maxHeartbeats 1600000 in
theorem specComposeLinear_ChL (m P n : Nat) (hF : Fld m P n) (b1 l1 c1 : Nat) (z1 : List Int) (b2 l2 c2 : Nat) (z2 : List Int) (w : World) (hM1 : Mt w b1 l1 z1) (hM2 : Mt w b2 l2 z2) (hc1 : l1 ≤ c1) (hc2 : l2 ≤ c2) (h1 : okL n z1 = true) (h2 : okL n z2 = true) (hL : ¬ 12 < (cmp P (nats z1) (nats z2)).length) :
    Calls Try.prog 24 #[.agg #[.int .i64 m, .int .i64 P], .slice (some ⟨b1, 0, none⟩) l1 c1, .slice (some ⟨b2, 0, none⟩) l2 c2] w fun e w' => ∃ v, e = .returned (.tuple #[v, .int .i64 0]) ∧ Below w.heap.size w w' ∧ Res w' w.heap.size w'.heap.size v (ints (cmp P (nats z1) (nats z2))) := by
  have h32 := hF.n32
  have hn2 := hF.n2
  have hl1 := hM1.len
  have hl2 := hM2.len
  have h112 := okL_len h1
  have h212 := okL_len h2
  have e1 := nats_lt (okL_in h1) (by omega)
  have e2 := nats_lt (okL_in h2) (by omega)
  have T1 := Lib.hid (okL_trm h1)
  have T2 := Lib.hid (okL_trm h2)
  have E1 := Lib.hid e1
  have E2 := Lib.hid e2
  have I1 := Lib.hid (okL_in h1)
  have I2 := Lib.hid (okL_in h2)
  have H1 := Lib.hid h1
  have H2 := Lib.hid h2
  have HM1 := Lib.hid hM1
  have HM2 := Lib.hid hM2
  clear h1 h2 hM1 hM2 e1 e2
  go_enter Try.func24, Try.ntmps24
  have h0 := FAt.start w m P 26
  go_wp2_with fail
  refine (specValidLinear_eq m P b1 l1 c1 z1 _ (HM1.out.below h0.b) _ ((okFL_yes hF _).trans H1.out)).mono ?_
  rintro e w1 ⟨rfl, hb⟩
  have h2 := h0.next hb
  have x2 := h2.c0; have y2 := h2.c1
  clear hb h0
  go_wp2_with fail
  refine (specValidLinear_eq m P b2 l2 c2 z2 _ (HM2.out.below h2.b) _ ((okFL_yes hF _).trans H2.out)).mono ?_
  rintro e w2 ⟨rfl, hb⟩
  have h3 := h2.next hb
  have x3 := h3.c0; have y3 := h3.c1
  clear hb h2 x2 y2
  have S1 := Lib.hid ((HM1.out.below h3.b).sv I1.out (show l1 ≤ c1 from hc1))
  have S2 := Lib.hid ((HM2.out.below h3.b).sv I2.out (show l2 ≤ c2 from hc2))
  go_wp2_with fail
  refine (l03Compose_any m P n hF _ _ l1 l2 c1 c2 _ _ E1.out E2.out T1.out T2.out (by omega) (by omega) _ S1.out S2.out).mono ?_
  rintro e w3 ⟨D, r, cd, rfl, hb, hO⟩
  have hr := hO.sv.len
  have hr12 : r ≤ 12 := by omega
  have HO := Lib.hid ((hO.res (by omega)).wide2 (B' := w.heap.size) h3.b.size)
  have HB := Lib.hid (h3.next hb)
  clear hO hb h3 x3 y3 hr hL
  go_wp2_with fail
  go_ret2
  exact ⟨_, rfl, HB.out.b, HO.out⟩

set_option maxHeartbeats 1600000 in
theorem implComposeLinear_ChL (m P n : Nat) (hF : Fld m P n) (b1 l1 c1 : Nat) (z1 : List Int) (b2 l2 c2 : Nat) (z2 : List Int) (w : World) (hM1 : Mt w b1 l1 z1) (hM2 : Mt w b2 l2 z2) (h1 : okL n z1 = true) (h2 : okL n z2 = true) (hL : ¬ 12 < (cmp P (nats z1) (nats z2)).length) :
    Calls Try.prog 25 #[.agg #[.int .i64 m, .int .i64 P], .slice (some ⟨b1, 0, none⟩) l1 c1, .slice (some ⟨b2, 0, none⟩) l2 c2] w fun e w' => ∃ v, e = .returned (.tuple #[v, .int .i64 0]) ∧ Below w.heap.size w w' ∧ Res w' w.heap.size w'.heap.size v (ints (cmp P (nats z1) (nats z2))) := by
  have h32 := hF.n32
  have hn2 := hF.n2
  have hl1 := hM1.len
  have hl2 := hM2.len
  have h112 := okL_len h1
  have h212 := okL_len h2
  have e1 := nats_lt (okL_in h1) (by omega)
  have e2 := nats_lt (okL_in h2) (by omega)
  have T1 := Lib.hid (okL_trm h1)
  have T2 := Lib.hid (okL_trm h2)
  have E1 := Lib.hid e1
  have E2 := Lib.hid e2
  have I1 := Lib.hid (okL_in h1)
  have I2 := Lib.hid (okL_in h2)
  have H1 := Lib.hid h1
  have H2 := Lib.hid h2
  have HM1 := Lib.hid hM1
  have HM2 := Lib.hid hM2
  clear h1 h2 hM1 hM2 e1 e2
  go_enter Try.func25, Try.ntmps25
  have hb0 := below_alloc1 w (.cells #[.int .i64 m, .int .i64 P] 26)
  have HB0 := Lib.hid hb0
  clear hb0
  go_wp2_with fail
  refine (linearsFor_C m P n hF b1 l1 c1 z1 b2 l2 c2 z2 _ (HM1.out.below HB0.out) (HM2.out.below HB0.out) H1.out H2.out).mono ?_
  rintro e w1 ⟨c, g1, g2, rfl, hb, hC, hR1, hR2⟩
  have HB1 := Lib.hid (HB0.out.trans (hb.mono HB0.out.size))
  have R1 := Lib.hid hR1
  have R2 := Lib.hid hR2
  clear hb hR1 hR2
  have HC := Lib.hid hC
  clear hC
  go_wp2_with fail
  refine (composed_any c m P n hF _ _ l1 l2 l1 l2 _ _ E1.out E2.out (by omega) (by omega) _ HC.out R1.out R2.out).mono ?_
  rintro e w2 ⟨D, r, rfl, hb, hR⟩
  have hr := hR.len
  have HB2 := Lib.hid (HB1.out.trans (hb.mono HB1.out.size))
  have HR := Lib.hid hR
  have hr12 : r ≤ 12 := by omega
  have hr20 : r ≤ 1048576 := by omega
  have H256 := Lib.hid (fun j => show nth (cmp P (nats z1) (nats z2)) j < 256 by have := cmp_lt hF (nats z1) (nats z2) j; omega)
  clear hb hR hr hL
  go_wp2_with fail
  refine (numbers_any D r r _ hr20 H256.out _ HR.out).mono ?_
  rintro e w3 ⟨b, rfl, hbb, hb, hM⟩
  have hs2 := HB2.out.size
  have HB3 := Lib.hid (HB2.out.trans (hb.mono HB2.out.size))
  have HRES := Lib.hid (hM.res (cap := r) (B := w.heap.size) (by omega))
  clear hb hM
  go_wp2_with fail
  go_ret2
  exact ⟨_, rfl, HB3.out, HRES.out⟩

set_option maxHeartbeats 1600000 in
theorem specComposeLinear_LhL (m P n : Nat) (hF : Fld m P n) (b1 l1 c1 : Nat) (z1 : List Int) (b2 l2 c2 : Nat) (z2 : List Int) (w : World) (hM1 : Mt w b1 l1 z1) (hM2 : Mt w b2 l2 z2) (hc1 : l1 ≤ c1) (hc2 : l2 ≤ c2) (h1 : okL n z1 = true) (h2 : okL n z2 = true) (hL : 12 < (cmp P (nats z1) (nats z2)).length) :
    Calls Try.prog 24 #[.agg #[.int .i64 m, .int .i64 P], .slice (some ⟨b1, 0, none⟩) l1 c1, .slice (some ⟨b2, 0, none⟩) l2 c2] w fun e w' => ∃ v, e = .returned (.tuple #[v, .int .i64 3]) ∧ Below w.heap.size w w' ∧ Res w' w.heap.size w'.heap.size v ([]) := by
  have h32 := hF.n32
  have hn2 := hF.n2
  have hl1 := hM1.len
  have hl2 := hM2.len
  have h112 := okL_len h1
  have h212 := okL_len h2
  have e1 := nats_lt (okL_in h1) (by omega)
  have e2 := nats_lt (okL_in h2) (by omega)
  have T1 := Lib.hid (okL_trm h1)
  have T2 := Lib.hid (okL_trm h2)
  have E1 := Lib.hid e1
  have E2 := Lib.hid e2
  have I1 := Lib.hid (okL_in h1)
  have I2 := Lib.hid (okL_in h2)
  have H1 := Lib.hid h1
  have H2 := Lib.hid h2
  have HM1 := Lib.hid hM1
  have HM2 := Lib.hid hM2
  clear h1 h2 hM1 hM2 e1 e2
  go_enter Try.func24, Try.ntmps24
  have h0 := FAt.start w m P 26
  go_wp2_with fail
  refine (specValidLinear_eq m P b1 l1 c1 z1 _ (HM1.out.below h0.b) _ ((okFL_yes hF _).trans H1.out)).mono ?_
  rintro e w1 ⟨rfl, hb⟩
  have h2 := h0.next hb
  have x2 := h2.c0; have y2 := h2.c1
  clear hb h0
  go_wp2_with fail
  refine (specValidLinear_eq m P b2 l2 c2 z2 _ (HM2.out.below h2.b) _ ((okFL_yes hF _).trans H2.out)).mono ?_
  rintro e w2 ⟨rfl, hb⟩
  have h3 := h2.next hb
  have x3 := h3.c0; have y3 := h3.c1
  clear hb h2 x2 y2
  have S1 := Lib.hid ((HM1.out.below h3.b).sv I1.out (show l1 ≤ c1 from hc1))
  have S2 := Lib.hid ((HM2.out.below h3.b).sv I2.out (show l2 ≤ c2 from hc2))
  go_wp2_with fail
  refine (l03Compose_any m P n hF _ _ l1 l2 c1 c2 _ _ E1.out E2.out T1.out T2.out (by omega) (by omega) _ S1.out S2.out).mono ?_
  rintro e w3 ⟨D, r, cd, rfl, hb, hO⟩
  have hr := hO.sv.len
  have hr12 : 12 < r := by omega
  have HB := Lib.hid (h3.next hb)
  clear hO hb h3 x3 y3 hr hL
  go_wp2_with fail
  go_ret2
  exact ⟨_, rfl, (HB.out.alloc _).b, .nil _ _⟩

set_option maxHeartbeats 1600000 in
theorem implComposeLinear_LhL (m P n : Nat) (hF : Fld m P n) (b1 l1 c1 : Nat) (z1 : List Int) (b2 l2 c2 : Nat) (z2 : List Int) (w : World) (hM1 : Mt w b1 l1 z1) (hM2 : Mt w b2 l2 z2) (h1 : okL n z1 = true) (h2 : okL n z2 = true) (hL : 12 < (cmp P (nats z1) (nats z2)).length) :
    Calls Try.prog 25 #[.agg #[.int .i64 m, .int .i64 P], .slice (some ⟨b1, 0, none⟩) l1 c1, .slice (some ⟨b2, 0, none⟩) l2 c2] w fun e w' => ∃ v, e = .returned (.tuple #[v, .int .i64 3]) ∧ Below w.heap.size w w' ∧ Res w' w.heap.size w'.heap.size v ([]) := by
  have h32 := hF.n32
  have hn2 := hF.n2
  have hl1 := hM1.len
  have hl2 := hM2.len
  have h112 := okL_len h1
  have h212 := okL_len h2
  have e1 := nats_lt (okL_in h1) (by omega)
  have e2 := nats_lt (okL_in h2) (by omega)
  have T1 := Lib.hid (okL_trm h1)
  have T2 := Lib.hid (okL_trm h2)
  have E1 := Lib.hid e1
  have E2 := Lib.hid e2
  have I1 := Lib.hid (okL_in h1)
  have I2 := Lib.hid (okL_in h2)
  have H1 := Lib.hid h1
  have H2 := Lib.hid h2
  have HM1 := Lib.hid hM1
  have HM2 := Lib.hid hM2
  clear h1 h2 hM1 hM2 e1 e2
  go_enter Try.func25, Try.ntmps25
  have hb0 := below_alloc1 w (.cells #[.int .i64 m, .int .i64 P] 26)
  have HB0 := Lib.hid hb0
  clear hb0
  go_wp2_with fail
  refine (linearsFor_C m P n hF b1 l1 c1 z1 b2 l2 c2 z2 _ (HM1.out.below HB0.out) (HM2.out.below HB0.out) H1.out H2.out).mono ?_
  rintro e w1 ⟨c, g1, g2, rfl, hb, hC, hR1, hR2⟩
  have HB1 := Lib.hid (HB0.out.trans (hb.mono HB0.out.size))
  have R1 := Lib.hid hR1
  have R2 := Lib.hid hR2
  clear hb hR1 hR2
  have HC := Lib.hid hC
  clear hC
  go_wp2_with fail
  refine (composed_any c m P n hF _ _ l1 l2 l1 l2 _ _ E1.out E2.out (by omega) (by omega) _ HC.out R1.out R2.out).mono ?_
  rintro e w2 ⟨D, r, rfl, hb, hR⟩
  have hr := hR.len
  have HB2 := Lib.hid (HB1.out.trans (hb.mono HB1.out.size))
  have HR := Lib.hid hR
  have hr12 : 12 < r := by omega
  clear hb hR hr hL
  go_wp2_with fail
  go_ret2
  exact ⟨_, rfl, HB2.out, .nil _ _⟩

theorem specComposeLinear_all (d p : Int) (b1 l1 c1 : Nat) (z1 : List Int) (b2 l2 c2 : Nat) (z2 : List Int) (w : World)  (hM1 : Mt w b1 l1 z1) (hM2 : Mt w b2 l2 z2) (hc1 : l1 ≤ c1) (hc2 : l2 ≤ c2) :
    Calls Try.prog 24 #[.agg #[.int .i64 d, .int .i64 p], .slice (some ⟨b1, 0, none⟩) l1 c1, .slice (some ⟨b2, 0, none⟩) l2 c2] w fun e w' => ∃ v, e = .returned (.tuple #[v, .int .i64 (fComposeLinear d p z1 z2).2]) ∧ Below w.heap.size w w' ∧ Res w' w.heap.size w'.heap.size v ((fComposeLinear d p z1 z2).1) := by
  cases h : (okFL d p z1 && okFL d p z2) with
  | false => rw [fComposeLinear_bad h]; exact specComposeLinear_bad d p b1 l1 c1 z1 b2 l2 c2 z2 w hM1 hM2 h
  | true =>
    have hf : fldI d p = true := by
      cases hf : fldI d p with
      | true => rfl
      | false => rw [okFL_no hf] at h; cases h
    obtain ⟨m, P, rfl, rfl, hF⟩ := fldI_nat hf
    have hF := Fld.of hF
    rw [okFL_yes hF, okFL_yes hF, Bool.and_eq_true] at h
    by_cases hL : 12 < (cmp P (nats z1) (nats z2)).length
    · rw [fComposeLinear_L hF h.1 h.2 hL]; exact specComposeLinear_LhL m P _ hF b1 l1 c1 z1 b2 l2 c2 z2 w hM1 hM2 hc1 hc2 h.1 h.2 hL
    · rw [fComposeLinear_C hF h.1 h.2 hL]; exact specComposeLinear_ChL m P _ hF b1 l1 c1 z1 b2 l2 c2 z2 w hM1 hM2 hc1 hc2 h.1 h.2 hL
theorem specComposeLinear_any (d p : Int) (b1 l1 k1 : Nat) (z1 : List Int) (b2 l2 k2 : Nat) (z2 : List Int) (w : World)  (hM1 : Mt w b1 l1 z1) (hM2 : Mt w b2 l2 z2) (hc1 : l1 ≤ k1 := by exact Nat.le_refl _) (hc2 : l2 ≤ k2 := by exact Nat.le_refl _) :
    Calls Try.prog 24 #[.agg #[.int .i64 d, .int .i64 p], .slice (some ⟨b1, 0, none⟩) l1 k1, .slice (some ⟨b2, 0, none⟩) l2 k2] w fun e w' => ∃ v, e = .returned (.tuple #[v, .int .i64 (fComposeLinear d p z1 z2).2]) ∧ Below w.heap.size w w' ∧ Res w' w.heap.size w'.heap.size v ((fComposeLinear d p z1 z2).1) :=
  specComposeLinear_all d p b1 l1 k1 z1 b2 l2 k2 z2 w hM1 hM2 hc1 hc2

theorem implComposeLinear_all (d p : Int) (b1 l1 c1 : Nat) (z1 : List Int) (b2 l2 c2 : Nat) (z2 : List Int) (w : World) (hl : -9223372036854775808 ≤ p) (hh : p ≤ 9223372036854775807) (hM1 : Mt w b1 l1 z1) (hM2 : Mt w b2 l2 z2)  :
    Calls Try.prog 25 #[.agg #[.int .i64 d, .int .i64 p], .slice (some ⟨b1, 0, none⟩) l1 c1, .slice (some ⟨b2, 0, none⟩) l2 c2] w fun e w' => ∃ v, e = .returned (.tuple #[v, .int .i64 (fComposeLinear d p z1 z2).2]) ∧ Below w.heap.size w w' ∧ Res w' w.heap.size w'.heap.size v ((fComposeLinear d p z1 z2).1) := by
  cases h : (okFL d p z1 && okFL d p z2) with
  | false => rw [fComposeLinear_bad h]; exact implComposeLinear_bad d p b1 l1 c1 z1 b2 l2 c2 z2 w hl hh hM1 hM2 h
  | true =>
    have hf : fldI d p = true := by
      cases hf : fldI d p with
      | true => rfl
      | false => rw [okFL_no hf] at h; cases h
    obtain ⟨m, P, rfl, rfl, hF⟩ := fldI_nat hf
    have hF := Fld.of hF
    rw [okFL_yes hF, okFL_yes hF, Bool.and_eq_true] at h
    by_cases hL : 12 < (cmp P (nats z1) (nats z2)).length
    · rw [fComposeLinear_L hF h.1 h.2 hL]; exact implComposeLinear_LhL m P _ hF b1 l1 c1 z1 b2 l2 c2 z2 w hM1 hM2 h.1 h.2 hL
    · rw [fComposeLinear_C hF h.1 h.2 hL]; exact implComposeLinear_ChL m P _ hF b1 l1 c1 z1 b2 l2 c2 z2 w hM1 hM2 h.1 h.2 hL
theorem implComposeLinear_any (d p : Int) (b1 l1 k1 : Nat) (z1 : List Int) (b2 l2 k2 : Nat) (z2 : List Int) (w : World) (hl : -9223372036854775808 ≤ p) (hh : p ≤ 9223372036854775807) (hM1 : Mt w b1 l1 z1) (hM2 : Mt w b2 l2 z2) (hc1 : l1 ≤ k1 := by exact Nat.le_refl _) (hc2 : l2 ≤ k2 := by exact Nat.le_refl _) :
    Calls Try.prog 25 #[.agg #[.int .i64 d, .int .i64 p], .slice (some ⟨b1, 0, none⟩) l1 k1, .slice (some ⟨b2, 0, none⟩) l2 k2] w fun e w' => ∃ v, e = .returned (.tuple #[v, .int .i64 (fComposeLinear d p z1 z2).2]) ∧ Below w.heap.size w w' ∧ Res w' w.heap.size w'.heap.size v ((fComposeLinear d p z1 z2).1) :=
  implComposeLinear_all d p b1 l1 k1 z1 b2 l2 k2 z2 w hl hh hM1 hM2
end Go.Proofs.Ytfnmlhilgabjeaa
