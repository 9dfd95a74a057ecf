/- ValueOf: what the model's and the program's function return. -/
import Derived.Test.YtfnmlhilgabjeaaLinS3
import Derived.Test.YtfnmlhilgabjeaaLinI4
namespace Go.Proofs.Ytfnmlhilgabjeaa
open Go.RowKit Go.Joins
set_option linter.unusedVariables false

def fValueOf (d p : Int) (zs : List Int) (x : Int) : Int × Int :=
  if okFL d p zs = false then (0, 1) else if 0 ≤ x ∧ x < ((2 ^ d.toNat : Nat) : Int) then (((vl p.toNat (nats zs) x.toNat : Nat) : Int), 0) else (0, 2)
theorem fValueOf_B {d p : Int} {zs : List Int} {x : Int} (h : okFL d p zs = false) : fValueOf d p zs x = (0, 1) := by simp [fValueOf, h]
theorem fValueOf_R {m P n : Nat} (hF : Fld m P n) {zs : List Int} {x : Int} (h : okL n zs = true) (hx : x < 0 ∨ (n : Int) ≤ x) : fValueOf m P zs x = (0, 2) := by
  have h1 := hF.n
  rw [fValueOf, okFL_yes hF, h, if_neg (by simp), Int.toNat_natCast, h1, if_neg (by omega)]
theorem fValueOf_C {m P n : Nat} (hF : Fld m P n) {zs : List Int} {x : Nat} (h : okL n zs = true) (hx : x < n) : fValueOf m P zs x = (((vl P (nats zs) x : Nat) : Int), 0) := by
  have h1 := hF.n
  rw [fValueOf, okFL_yes hF, h, if_neg (by simp), Int.toNat_natCast, h1, if_pos (by omega)]
  simp

set_option maxHeartbeats 800000 in
theorem specValueOf_A (d p : Int) (hf : fldI d p = false) (v : Value) (x : Int) (w : World) :
    Calls Try.prog 18 #[.agg #[.int .i64 d, .int .i64 p], v, .int .i64 x] w fun e w' => e = .returned (.tuple #[.int .i64 0, .int .i64 1]) ∧ Below w.heap.size w w' := by
  have HF := Lib.hid hf
  clear hf
  go_enter Try.func18, Try.ntmps18
  go_wp2_with fail
  refine (specValidLinear_A d p HF.out _ _).mono ?_
  rintro e w1 ⟨rfl, hb⟩
  go_wp2
  go_ret2
  exact ⟨rfl, ((Below.refl _ w).alloc (Nat.le_refl _) _).trans (hb.mono (by simp))⟩
set_option maxHeartbeats 800000 in
theorem specValueOf_B (m P n : Nat) (hF : Fld m P n) (b len cap : Nat) (zs : List Int) (x : Int) (hok : okL n zs = false) (w : World) (hM : Mt w b len zs) :
    Calls Try.prog 18 #[.agg #[.int .i64 m, .int .i64 P], .slice (some ⟨b, 0, none⟩) len cap, .int .i64 x] w fun e w' => e = .returned (.tuple #[.int .i64 0, .int .i64 1]) ∧ Below w.heap.size w w' := by
  have HOK := Lib.hid hok
  have HM := Lib.hid hM
  clear hok hM
  go_enter Try.func18, Try.ntmps18
  have h0 := FAt.start w m P 26
  go_wp2_with fail
  refine (specValidLinear_C m P n hF b len cap zs _ (HM.out.below h0.b) _ HOK.out).mono ?_
  rintro e w1 ⟨rfl, hb⟩
  have h1 := h0.next hb
  clear hb
  go_wp2_with fail
  go_ret2
  exact ⟨rfl, h1.b⟩
set_option maxHeartbeats 800000 in
theorem specValueOf_R (m P n : Nat) (hF : Fld m P n) (b len cap : Nat) (zs : List Int) (x : Int) (hok : okL n zs = true) (hx : x < 0 ∨ (n : Int) ≤ x) (w : World) (hM : Mt w b len zs) :
    Calls Try.prog 18 #[.agg #[.int .i64 m, .int .i64 P], .slice (some ⟨b, 0, none⟩) len cap, .int .i64 x] w fun e w' => e = .returned (.tuple #[.int .i64 0, .int .i64 2]) ∧ Below w.heap.size w w' := by
  have h32 := hF.n32
  have HOK := Lib.hid hok
  have HM := Lib.hid hM
  have HX := Lib.hid hx
  clear hok hM hx
  go_enter Try.func18, Try.ntmps18
  have h0 := FAt.start w m P 26
  go_wp2_with fail
  refine (specValidLinear_C m P n hF b len cap zs _ (HM.out.below h0.b) _ HOK.out).mono ?_
  rintro e w1 ⟨rfl, hb⟩
  have h1 := h0.next hb
  have c1 := h1.c0; have d1 := h1.c1
  clear hb h0
  go_wp2_with fail
  refine (l01Size_any _ _ _ hF _).mono ?_
  rintro e w2 ⟨rfl, hb2⟩
  have h2 := h1.next hb2
  clear hb2 h1 c1 d1
  go_wp2_with fail
  refine (l00In_no _ _ _ (by have := HX.out; omega) _).mono ?_
  rintro e w' ⟨rfl, rfl⟩
  go_wp2
  go_ret2
  exact ⟨rfl, h2.b⟩
set_option maxHeartbeats 800000 in
theorem specValueOf_C (m P n : Nat) (hF : Fld m P n) (b len cap : Nat) (zs : List Int) (x : Nat) (hok : okL n zs = true) (hx : x < n) (w : World) (hM : Mt w b len zs) :
    Calls Try.prog 18 #[.agg #[.int .i64 m, .int .i64 P], .slice (some ⟨b, 0, none⟩) len cap, .int .i64 x] w fun e w' => e = .returned (.tuple #[.int .i64 (vl P (nats zs) x : Nat), .int .i64 0]) ∧ Below w.heap.size w w' := by
  have h32 := hF.n32
  have hn2 := hF.n2
  have hlen := hM.len
  have h12 := okL_len hok
  have HIN := Lib.hid (okL_in hok)
  have HOK := Lib.hid hok
  have HM := Lib.hid hM
  clear hok hM
  go_enter Try.func18, Try.ntmps18
  have h0 := FAt.start w m P 26
  go_wp2_with fail
  refine (specValidLinear_C m P n hF b len cap zs _ (HM.out.below h0.b) _ HOK.out).mono ?_
  rintro e w1 ⟨rfl, hb⟩
  have h1 := h0.next hb
  have c1 := h1.c0; have d1 := h1.c1
  clear hb h0
  go_wp2_with fail
  refine (l01Size_any _ _ _ hF _).mono ?_
  rintro e w2 ⟨rfl, hb2⟩
  have h2 := h1.next hb2
  have c2 := h2.c0; have d2 := h2.c1
  clear hb2 h1 c1 d1
  go_wp2_with fail
  refine (l00In_yes _ _ _ (by omega) (by omega) _).mono ?_
  rintro e w' ⟨rfl, rfl⟩
  go_wp2_with fail
  refine (l03Value_any m P n hF _ len cap (nats zs) (nats_lt HIN.out (by omega)) x hx (by omega) _ ((HM.out.below h2.b).rl HIN.out)).mono ?_
  rintro e w3 ⟨rfl, hb3⟩
  have h3 := h2.next hb3
  clear hb3 h2 c2 d2
  go_wp2
  go_ret2
  exact ⟨rfl, h3.b⟩
theorem specValueOf_any (d p : Int) (b len cap : Nat) (zs : List Int) (x : Int) (w : World) (hM : Mt w b len zs) :
    Calls Try.prog 18 #[.agg #[.int .i64 d, .int .i64 p], .slice (some ⟨b, 0, none⟩) len cap, .int .i64 x] w fun e w' => e = .returned (.tuple #[.int .i64 (fValueOf d p zs x).1, .int .i64 (fValueOf d p zs x).2]) ∧ Below w.heap.size w w' := by
  cases hf : fldI d p with
  | false => rw [fValueOf_B (okFL_no hf)]; exact specValueOf_A d p hf _ x w
  | true =>
    obtain ⟨m, P, rfl, rfl, hF⟩ := fldI_nat hf
    have hF := Fld.of hF
    cases hok : okL (2 ^ m) zs with
    | false => rw [fValueOf_B (by rw [okFL_yes hF]; exact hok)]; exact specValueOf_B m P _ hF b len cap zs x hok w hM
    | true =>
      by_cases hx : x < 0 ∨ ((2 ^ m : Nat) : Int) ≤ x
      · rw [fValueOf_R hF hok hx]; exact specValueOf_R m P _ hF b len cap zs x hok hx w hM
      · obtain ⟨y, rfl⟩ := Int.eq_ofNat_of_zero_le (by omega : 0 ≤ x)
        rw [fValueOf_C hF hok (by omega)]; exact specValueOf_C m P _ hF b len cap zs y hok (by omega) w hM
set_option maxHeartbeats 800000 in
theorem implValueOf_A (d p : Int) (hf : fldI d p = false) (hl : -9223372036854775808 ≤ p) (hh : p ≤ 9223372036854775807) (v : Value) (x : Int) (w : World) :
    Calls Try.prog 19 #[.agg #[.int .i64 d, .int .i64 p], v, .int .i64 x] w fun e w' => e = .returned (.tuple #[.int .i64 0, .int .i64 1]) ∧ Below w.heap.size w w' := by
  have HF := Lib.hid hf
  clear hf
  go_enter Try.func19, Try.ntmps19
  go_wp2_with fail
  refine (linearFor_A d p HF.out hl hh _ _ _).mono ?_
  rintro e w1 ⟨rfl, hb⟩
  go_wp2
  go_ret2
  exact ⟨rfl, (((Below.refl _ w).alloc (Nat.le_refl _) _).alloc (by simp) _).trans (hb.mono (by simp; omega))⟩
set_option maxHeartbeats 800000 in
theorem implValueOf_B (m P n : Nat) (hF : Fld m P n) (b len cap : Nat) (zs : List Int) (x : Int) (hok : okL n zs = false) (w : World) (hM : Mt w b len zs) :
    Calls Try.prog 19 #[.agg #[.int .i64 m, .int .i64 P], .slice (some ⟨b, 0, none⟩) len cap, .int .i64 x] w fun e w' => e = .returned (.tuple #[.int .i64 0, .int .i64 1]) ∧ Below w.heap.size w w' := by
  have h32 := hF.n32
  have hn2 := hF.n2
  have HOK := Lib.hid hok
  have HM := Lib.hid hM
  clear hok hM
  go_enter Try.func19, Try.ntmps19
  have hb0 := (below_alloc1 w (.cells #[.int .i64 m, .int .i64 P] 26)).alloc (by simp) (.cells #[.int .i64 x] 2)
  have HB0 := Lib.hid hb0
  clear hb0
  go_wp2_with fail
  refine (linearFor_B m P n hF b len cap zs _ _ (HM.out.below HB0.out) HOK.out).mono ?_
  rintro e w1 ⟨rfl, hb⟩
  have HB1 := Lib.hid (HB0.out.trans (hb.mono HB0.out.size))
  clear hb
  go_wp2_with fail
  go_ret2
  exact ⟨rfl, HB1.out⟩
set_option maxHeartbeats 800000 in
theorem implValueOf_R (m P n : Nat) (hF : Fld m P n) (b len cap : Nat) (zs : List Int) (x : Int) (hok : okL n zs = true) (hx : x < 0 ∨ (n : Int) ≤ x) (w : World) (hM : Mt w b len zs) :
    Calls Try.prog 19 #[.agg #[.int .i64 m, .int .i64 P], .slice (some ⟨b, 0, none⟩) len cap, .int .i64 x] w fun e w' => e = .returned (.tuple #[.int .i64 0, .int .i64 2]) ∧ Below w.heap.size w w' := by
  have h32 := hF.n32
  have hn2 := hF.n2
  have HOK := Lib.hid hok
  have HM := Lib.hid hM
  have HX := Lib.hid hx
  clear hok hM hx
  go_enter Try.func19, Try.ntmps19
  have hb0 := (below_alloc1 w (.cells #[.int .i64 m, .int .i64 P] 26)).alloc (by simp) (.cells #[.int .i64 x] 2)
  have HB0 := Lib.hid hb0
  clear hb0
  go_wp2_with fail
  refine (linearFor_R m P n hF b len cap zs _ 1 1 [x] (by omega) _ (HM.out.below HB0.out) HOK.out (arg_one _ (w.heap.size + 1) x (by simp) (by simp)) (by have := HX.out; simp [allIn]; omega)).mono ?_
  rintro e w1 ⟨rfl, hb⟩
  have HB1 := Lib.hid (HB0.out.trans (hb.mono HB0.out.size))
  clear hb
  go_wp2_with fail
  go_ret2
  exact ⟨rfl, HB1.out⟩
set_option maxHeartbeats 800000 in
theorem implValueOf_C (m P n : Nat) (hF : Fld m P n) (b len cap : Nat) (zs : List Int) (x : Nat) (hok : okL n zs = true) (hx : x < n) (w : World) (hM : Mt w b len zs) :
    Calls Try.prog 19 #[.agg #[.int .i64 m, .int .i64 P], .slice (some ⟨b, 0, none⟩) len cap, .int .i64 x] w fun e w' => e = .returned (.tuple #[.int .i64 (vl P (nats zs) x : Nat), .int .i64 0]) ∧ Below w.heap.size w w' := by
  have h32 := hF.n32
  have hn2 := hF.n2
  have HOK := Lib.hid hok
  have HM := Lib.hid hM
  have hlen := hM.len
  have h12 := okL_len hok
  have HIN := Lib.hid (okL_in hok)
  clear hok hM
  have e1 : IntKind.u8.wrap (x : Int) = x := by rw [IntKind.wrap_u8']; omega
  have hQ := fun (c g : Nat) (w : World) (hC : Calc c m P n w) (hR : Rl w .u8 (some ⟨g, 0, none⟩) len (nats zs)) => value_any c m P n hF (some ⟨g, 0, none⟩) len len (nats zs) (nats_lt HIN.out (by omega)) x hx (by omega) w hC hR
  have hr0 := vl_lt hF (nats zs) x
  obtain ⟨r, hr⟩ : ∃ r, vl P (nats zs) x = r := ⟨_, rfl⟩
  rw [hr] at hr0
  rw [hr] at hQ
  rw [hr]
  have e2 : IntKind.i64.wrap (r : Int) = r := wrapNat r (by omega)
  have HQ := Lib.hid hQ
  clear hQ hr
  go_enter Try.func19, Try.ntmps19
  have hb0 := (below_alloc1 w (.cells #[.int .i64 m, .int .i64 P] 26)).alloc (by simp) (.cells #[.int .i64 x] 2)
  have HB0 := Lib.hid hb0
  clear hb0
  go_wp2_with fail
  refine (linearFor_C m P n hF b len cap zs _ 1 1 [(x : Int)] (by omega) _ (HM.out.below HB0.out) HOK.out (arg_one _ (w.heap.size + 1) x (by simp) (by simp)) (by simp [allIn]; omega)).mono ?_
  rintro e w1 ⟨c, g, rfl, hb, hC, hR⟩
  have HB1 := Lib.hid (HB0.out.trans (hb.mono HB0.out.size))
  clear hb
  go_wp2_with fail
  refine (HQ.out c g _ hC hR).mono ?_
  rintro e w' ⟨rfl, rfl⟩
  clear hC hR
  go_wp2_with fail
  go_ret2
  exact ⟨rfl, HB1.out⟩
theorem implValueOf_any (d p : Int) (b len cap : Nat) (zs : List Int) (x : Int) (w : World) (hl : -9223372036854775808 ≤ p) (hh : p ≤ 9223372036854775807) (hM : Mt w b len zs) :
    Calls Try.prog 19 #[.agg #[.int .i64 d, .int .i64 p], .slice (some ⟨b, 0, none⟩) len cap, .int .i64 x] w fun e w' => e = .returned (.tuple #[.int .i64 (fValueOf d p zs x).1, .int .i64 (fValueOf d p zs x).2]) ∧ Below w.heap.size w w' := by
  cases hf : fldI d p with
  | false => rw [fValueOf_B (okFL_no hf)]; exact implValueOf_A d p hf hl hh _ x w
  | true =>
    obtain ⟨m, P, rfl, rfl, hF⟩ := fldI_nat hf
    have hF := Fld.of hF
    cases hok : okL (2 ^ m) zs with
    | false => rw [fValueOf_B (by rw [okFL_yes hF]; exact hok)]; exact implValueOf_B m P _ hF b len cap zs x hok w hM
    | true =>
      by_cases hx : x < 0 ∨ ((2 ^ m : Nat) : Int) ≤ x
      · rw [fValueOf_R hF hok hx]; exact implValueOf_R m P _ hF b len cap zs x hok hx w hM
      · obtain ⟨y, rfl⟩ := Int.eq_ofNat_of_zero_le (by omega : 0 ≤ x)
        rw [fValueOf_C hF hok (by omega)]; exact implValueOf_C m P _ hF b len cap zs y hok (by omega) w hM
end Go.Proofs.Ytfnmlhilgabjeaa
