/- AnnihilatorOf: what the model's and the program's function return. -/
import Derived.Test.YtfnmlhilgabjeaaAnnS
import Derived.Test.YtfnmlhilgabjeaaLinI4
namespace Go.Proofs.Ytfnmlhilgabjeaa
open Go.RowKit Go.Joins
set_option linter.unusedVariables false

def fAnnihilatorOf (d p : Int) (zs : List Int) : List Int × Int :=
  if fldI d p = false then ([], 1) else if allIn (2 ^ d.toNat) zs = false then ([], 2) else (ints (ann p.toNat (nth (nats zs)) zs.length), 0)
theorem fAnnihilatorOf_A {d p : Int} {zs : List Int} (h : fldI d p = false) : fAnnihilatorOf d p zs = ([], 1) := by rw [fAnnihilatorOf, if_pos h]
theorem fAnnihilatorOf_B {m P n : Nat} (hF : Fld m P n) {zs : List Int} (h : allIn n zs = false) : fAnnihilatorOf m P zs = ([], 2) := by
  rw [fAnnihilatorOf, fldI_of hF.f, if_neg (by decide), Int.toNat_natCast, hF.n, if_pos h]
theorem fAnnihilatorOf_C {m P n : Nat} (hF : Fld m P n) {zs : List Int} (h : allIn n zs = true) : fAnnihilatorOf m P zs = (ints (ann P (nth (nats zs)) zs.length), 0) := by
  rw [fAnnihilatorOf, fldI_of hF.f, if_neg (by decide), Int.toNat_natCast, hF.n, h, if_neg (by decide), Int.toNat_natCast]

set_option maxHeartbeats 800000 in
theorem specAnnihilatorOf_A (d p : Int) (hf : fldI d p = false) (v : Value) (w : World) :
    Calls Try.prog 28 #[.agg #[.int .i64 d, .int .i64 p], v] w fun e w' => ∃ v, e = .returned (.tuple #[v, .int .i64 1]) ∧ Below w.heap.size w w' ∧ Res w' w.heap.size w'.heap.size v ([]) := by
  have HF := Lib.hid hf
  clear hf
  go_enter Try.func28, Try.ntmps28
  have h0 := FAt.start w d p 26
  go_wp2_with fail
  refine (l01List_A d p HF.out _ _).mono ?_
  rintro e w1 ⟨rfl, hb⟩
  have h1 := Lib.hid (h0.next hb)
  clear hb h0
  go_wp2_with fail
  go_ret2
  exact ⟨_, rfl, (h1.out.alloc _).b, .nil _ _⟩
set_option maxHeartbeats 800000 in
theorem specAnnihilatorOf_B (m P n : Nat) (hF : Fld m P n) (b len cap : Nat) (zs : List Int) (hin : allIn n zs = false) (w : World) (hM : Mt w b len zs) :
    Calls Try.prog 28 #[.agg #[.int .i64 m, .int .i64 P], .slice (some ⟨b, 0, none⟩) len cap] w fun e w' => ∃ v, e = .returned (.tuple #[v, .int .i64 2]) ∧ Below w.heap.size w w' ∧ Res w' w.heap.size w'.heap.size v ([]) := by
  have HIN := Lib.hid hin
  have HM := Lib.hid hM
  clear hin hM
  go_enter Try.func28, Try.ntmps28
  have h0 := FAt.start w m P 26
  go_wp2_with fail
  have HL := l01List_any m P n hF b len cap zs _ (HM.out.below h0.b)
  rw [HIN.out] at HL
  refine HL.mono ?_
  clear HL
  rintro e w1 ⟨rfl, hb⟩
  have h1 := Lib.hid (h0.next hb)
  clear hb h0
  have ec : cIn false = 2 := rfl
  rw [ec]
  go_wp2_with fail
  go_ret2
  exact ⟨_, rfl, (h1.out.alloc _).b, .nil _ _⟩
set_option maxHeartbeats 1600000 in
theorem specAnnihilatorOf_C (m P n : Nat) (hF : Fld m P n) (b len cap : Nat) (zs : List Int) (hin : allIn n zs = true) (w : World) (hM : Mt w b len zs) :
    Calls Try.prog 28 #[.agg #[.int .i64 m, .int .i64 P], .slice (some ⟨b, 0, none⟩) len cap] w fun e w' => ∃ v, e = .returned (.tuple #[v, .int .i64 0]) ∧ Below w.heap.size w w' ∧ Res w' w.heap.size w'.heap.size v (ints (ann P (nth (nats zs)) zs.length)) := by
  have hn2 := hF.n2
  have hlen := hM.len
  have hsmall := hM.small
  have HX := Lib.hid (nats_lt hin (by omega))
  have HIN := Lib.hid hin
  have HM := Lib.hid hM
  clear hin hM
  rw [hlen]
  go_enter Try.func28, Try.ntmps28
  have h0 := FAt.start w m P 26
  go_wp2_with fail
  have HL := l01List_any m P n hF b len cap zs _ (HM.out.below h0.b)
  rw [HIN.out] at HL
  refine HL.mono ?_
  clear HL
  rintro e w1 ⟨rfl, hb⟩
  have h1 := h0.next hb
  have c1 := h1.c0; have d1 := h1.c1
  clear hb h0
  have ec : cIn true = 0 := rfl
  rw [ec]
  go_wp2_with fail
  refine (l03Annihilator_any m P n hF b len cap (nats zs) HX.out _ hsmall ((HM.out.below h1.b).rl HIN.out)).mono ?_
  rintro e w2 ⟨D, r, cd, rfl, hb, hR⟩
  have hsm := ann_small hF HX.out len
  have hrl := hR.sv.len
  have HO := Lib.hid ((hR.res (by omega)).wide2 (B' := w.heap.size) h1.b.size)
  have HB := Lib.hid (h1.next hb)
  clear hb hR h1 c1 d1 hsm hrl
  go_wp2_with fail
  go_ret2
  exact ⟨_, rfl, HB.out.b, HO.out⟩
theorem specAnnihilatorOf_any (d p : Int) (b len cap : Nat) (zs : List Int) (w : World) (hM : Mt w b len zs) :
    Calls Try.prog 28 #[.agg #[.int .i64 d, .int .i64 p], .slice (some ⟨b, 0, none⟩) len cap] w fun e w' => ∃ v, e = .returned (.tuple #[v, .int .i64 (fAnnihilatorOf d p zs).2]) ∧ Below w.heap.size w w' ∧ Res w' w.heap.size w'.heap.size v ((fAnnihilatorOf d p zs).1) := by
  cases hf : fldI d p with
  | false => rw [fAnnihilatorOf_A hf]; exact specAnnihilatorOf_A d p hf _ w
  | true =>
    obtain ⟨m, P, rfl, rfl, hF⟩ := fldI_nat hf
    have hF := Fld.of hF
    cases hin : allIn (2 ^ m) zs with
    | false => rw [fAnnihilatorOf_B hF hin]; exact specAnnihilatorOf_B m P _ hF b len cap zs hin w hM
    | true => rw [fAnnihilatorOf_C hF hin]; exact specAnnihilatorOf_C m P _ hF b len cap zs hin w hM
set_option maxHeartbeats 800000 in
theorem implAnnihilatorOf_A (d p : Int) (hf : fldI d p = false) (hl : -9223372036854775808 ≤ p) (hh : p ≤ 9223372036854775807) (v : Value) (w : World) :
    Calls Try.prog 29 #[.agg #[.int .i64 d, .int .i64 p], v] w fun e w' => ∃ v, e = .returned (.tuple #[v, .int .i64 1]) ∧ Below w.heap.size w w' ∧ Res w' w.heap.size w'.heap.size v ([]) := by
  have HF := Lib.hid hf
  clear hf
  go_enter Try.func29, Try.ntmps29
  have hb0 := below_alloc1 w (.cells #[.int .i64 d, .int .i64 p] 26)
  have HB0 := Lib.hid hb0
  clear hb0
  go_wp2_with fail
  refine (calculatorFor_invalid d p HF.out hl hh _ _).mono ?_
  rintro e w1 ⟨rfl, hb⟩
  have HB1 := Lib.hid (HB0.out.trans (hb.mono HB0.out.size))
  clear hb
  go_wp2_with fail
  go_ret2
  exact ⟨_, rfl, HB1.out, .nil _ _⟩
set_option maxHeartbeats 800000 in
theorem implAnnihilatorOf_B (m P n : Nat) (hF : Fld m P n) (b len cap : Nat) (zs : List Int) (hin : allIn n zs = false) (w : World) (hM : Mt w b len zs) :
    Calls Try.prog 29 #[.agg #[.int .i64 m, .int .i64 P], .slice (some ⟨b, 0, none⟩) len cap] w fun e w' => ∃ v, e = .returned (.tuple #[v, .int .i64 2]) ∧ Below w.heap.size w w' ∧ Res w' w.heap.size w'.heap.size v ([]) := by
  have hsmall := hM.small
  have HIN := Lib.hid hin
  have HM := Lib.hid hM
  clear hin hM
  go_enter Try.func29, Try.ntmps29
  have hb0 := below_alloc1 w (.cells #[.int .i64 m, .int .i64 P] 26)
  have HB0 := Lib.hid hb0
  clear hb0
  go_wp2_with fail
  refine (calculatorFor_B m P n hF _ _ len cap zs ((HM.out.below HB0.out).arg) (by omega) HIN.out).mono ?_
  rintro e w1 ⟨rfl, hb⟩
  have HB1 := Lib.hid (HB0.out.trans (hb.mono HB0.out.size))
  clear hb
  go_wp2_with fail
  go_ret2
  exact ⟨_, rfl, HB1.out, .nil _ _⟩
/-- A literal list of one element. -/
theorem rl_lit1 (w : World) (a : Nat) : Rl (w.alloc (.cells #[.int .u8 a] 50)) .u8 (some ⟨w.heap.size, 0, none⟩) 1 [a] :=
  ⟨rfl, fun _ => ⟨_, rfl, by simp, fun j hj => by
    obtain rfl : j = 0 := by omega
    simp [nth]⟩⟩
set_option maxRecDepth 100000 in
set_option maxHeartbeats 3200000 in
theorem annihilator_any (c m P n : Nat) (hF : Fld m P n) (A : Option Addr) (len cap : Nat) (xs : List Nat) (hx : ∀ j, nth xs j < n) (hl : len ≤ 1048576) (w : World) (hC : Calc c m P n w) (hS : Rl w .i64 A len xs) :
    Calls Try.prog 55 #[.pointer (some ⟨c, 0, none⟩), .slice A len cap] w fun e w' => ∃ D r cd, e = .returned (.slice D r cd) ∧ Below w.heap.size w w' ∧ Rl w' .u8 D r (ann P (nth xs) len) := by
  have h32 := hF.n32
  have hn2 := hF.n2
  have HX := Lib.hid hx
  have HRL := Lib.hid hS
  have HC := Lib.hid hC
  clear hx hC hS
  go_enter Try.func55, Try.ntmps55
  have hl1 := below_alloc1 w (.cells #[.int .u8 1] 50)
  have HB2 := Lib.hid hl1
  have HC2 := Lib.hid (HC.out.below HC.out.lt hl1)
  have HR2 : Hid (Rl (w.alloc (.cells #[.int .u8 1] 50)) .u8 (some ⟨w.heap.size, 0, none⟩) 1 (ann P (nth xs) 0)) := rl_lit1 w 1
  clear hl1
  go_wp2_with fail
  go_loopw [5, 12] (fun v i wr => ∃ (j : Nat) (D : Option Addr) (r cd : Nat), j ≤ len ∧ i = .int .i64 j ∧ v = .slice D r cd ∧ Below w.heap.size w wr ∧ Calc c m P n wr ∧ Rl wr .u8 D r (ann P (nth xs) j)) (fun _ i _ => len - (intOf i).toNat)
  case atStart => exact ⟨0, _, 1, 1, Nat.zero_le _, rfl, rfl, HB2.out, HC2.out, HR2.out⟩
  case round =>
    obtain ⟨j, D, r, cd, hj, rfl, rfl, hb, hC, hR⟩ := hrel
    clear HB2 HC2 HR2 HC
    have hsm : (ann P (nth xs) j).length ≤ 33 := ann_small hF HX.out j
    have hrl := hR.len
    have hr33 : r ≤ 1000 := by omega
    by_cases hlt : j < len
    · obtain ⟨g, hg1, hg, hcs⟩ := (HRL.out.below hb).row (by omega)
      subst hg1
      have hck := hcs j hlt
      clear hcs
      have hxj := HX.out j
      obtain ⟨x, hxe⟩ : ∃ x, nth xs j = x := ⟨_, rfl⟩
      rw [hxe] at hck hxj
      have HXE := Lib.hid hxe
      clear hxe
      have e1 : IntKind.u8.wrap (x : Int) = x := by rw [IntKind.wrap_u8']; omega
      have HV := Lib.hid (value_any c m P n hF D r cd (ann P (nth xs) j) (ann_lt hF (nth xs) j) x hxj (by omega) wr hC hR)
      have hvn := vl_lt hF (ann P (nth xs) j) x
      obtain ⟨v, hve⟩ : ∃ v, vl P (ann P (nth xs) j) x = v := ⟨_, rfl⟩
      rw [hve] at HV hvn
      have HVE := Lib.hid hve
      have HB := Lib.hid hb
      have HCR := Lib.hid hC
      have HR := Lib.hid hR
      clear hve hb hC hR hsm hrl
      by_cases hv0 : v = 0
      · have HE := Lib.hid (show ann P (nth xs) (j + 1) = ann P (nth xs) j by simp only [ann]; rw [HXE.out, HVE.out, if_pos hv0])
        subst hv0
        go_wp2_with (go_at_call 44; refine HV.out.mono ?_; rintro e w' ⟨rfl, rfl⟩)
        go_roundw
        case rel => exact ⟨j + 1, D, r, cd, by omega, by go_num, rfl, HB.out, HCR.out, by rw [HE.out]; exact HR.out⟩
        case measure => simp [intOf]; omega
      · have HE := Lib.hid (show ann P (nth xs) (j + 1) = cmp P [v, 1] (ann P (nth xs) j) by simp only [ann]; rw [HXE.out, HVE.out, if_neg hv0])
        have g0 : ((v : Int) == 0) = false := by simp; omega
        have g1 : ((v : Int) != 0) = true := by simp; omega
        go_wp2_with (first | (go_at_call 44; refine HV.out.mono ?_; rintro e w' ⟨rfl, rfl⟩) | (go_at_call 84; refine (zeroAt_any v _).mono ?_; rintro e w2 ⟨g2, rfl, hb2, hR2⟩; have HB2 := Lib.hid (HB.out.trans (hb2.mono HB.out.size)); have HC2 := Lib.hid (HCR.out.below HCR.out.lt hb2); have HRR := Lib.hid (HR.out.below hb2); have HL2 := Lib.hid hR2; clear hb2 hR2) | (go_at_call 50; refine (composed_any c m P n hF _ D 2 r 2 cd [v, 1] (ann P (nth xs) j) (two_lt hF hvn) (ann_lt hF (nth xs) j) (by omega) (by omega) _ HC2.out HL2.out HRR.out).mono ?_; rintro e w3 ⟨D3, r3, rfl, hb3, hR3⟩; have HB3 := Lib.hid (HB2.out.trans (hb3.mono HB2.out.size)); have HC3 := Lib.hid (HC2.out.below HC2.out.lt hb3); have HR3 := Lib.hid hR3; clear hb3 hR3))
        go_roundw
        case rel => exact ⟨j + 1, D3, r3, r3, by omega, by go_num, rfl, HB3.out, HC3.out, by rw [HE.out]; exact HR3.out⟩
        case measure => simp [intOf]; omega
    · obtain rfl : j = len := by omega
      have HB := Lib.hid hb
      have HR := Lib.hid hR
      clear hb hC hR hsm hrl
      go_wp2_with fail
      go_ret
      exact ⟨_, _, _, rfl, HB.out, HR.out⟩
set_option maxRecDepth 100000 in
set_option maxHeartbeats 3200000 in
theorem implAnnihilatorOf_C (m P n : Nat) (hF : Fld m P n) (b len cap : Nat) (zs : List Int) (hin : allIn n zs = true) (w : World) (hM : Mt w b len zs) :
    Calls Try.prog 29 #[.agg #[.int .i64 m, .int .i64 P], .slice (some ⟨b, 0, none⟩) len cap] w fun e w' => ∃ v, e = .returned (.tuple #[v, .int .i64 0]) ∧ Below w.heap.size w w' ∧ Res w' w.heap.size w'.heap.size v (ints (ann P (nth (nats zs)) zs.length)) := by
  have h32 := hF.n32
  have hn2 := hF.n2
  have hlen := hM.len
  have hsmall := hM.small
  have HX := Lib.hid (nats_lt hin (by omega))
  have HIN := Lib.hid hin
  have HM := Lib.hid hM
  have HRL := Lib.hid (hM.rl hin)
  clear hin hM
  rw [hlen]
  obtain ⟨xs, hxs⟩ : ∃ xs, nats zs = xs := ⟨_, rfl⟩
  rw [hxs] at HX HRL ⊢
  clear hxs
  go_enter Try.func29, Try.ntmps29
  have hb0 := below_alloc1 w (.cells #[.int .i64 m, .int .i64 P] 26)
  have HB0 := Lib.hid hb0
  clear hb0
  go_wp2_with fail
  refine (calculatorFor_C m P n hF _ _ len cap zs ((HM.out.below HB0.out).arg) (by omega) HIN.out).mono ?_
  rintro e w1 ⟨c, rfl, hb, hC, hc⟩
  have HB1 := Lib.hid (HB0.out.trans (hb.mono HB0.out.size))
  have HC := Lib.hid hC
  clear hb hC hc
  have HA := Lib.hid (annihilator_any c m P n hF _ len cap xs HX.out (by omega) w1 HC.out (HRL.out.below HB1.out))
  go_wp2_with fail
  refine HA.out.mono ?_
  rintro e w2 ⟨D, r, cd, rfl, hb, hR⟩
  have hsm : (ann P (nth xs) len).length ≤ 33 := ann_small hF HX.out len
  have hrl := hR.len
  have HB := Lib.hid (HB1.out.trans (hb.mono HB1.out.size))
  have HR := Lib.hid hR
  have hr20 : r ≤ 1048576 := by omega
  have H256 := Lib.hid (fun i => show nth (ann P (nth xs) len) i < 256 by have := ann_lt hF (nth xs) len i; omega)
  clear hb hR hsm hrl HA
  go_wp2_with fail
  refine (numbers_any D r cd _ hr20 H256.out _ HR.out).mono ?_
  rintro e w3 ⟨b3, rfl, hbb, hb, hM⟩
  have hs2 := HB.out.size
  have HB3 := Lib.hid (HB.out.trans (hb.mono HB.out.size))
  have HRES := Lib.hid (hM.res (cap := r) (B := w.heap.size) (by omega))
  clear hb hM
  go_wp2_with fail
  go_ret2
  exact ⟨_, rfl, HB3.out, HRES.out⟩
theorem implAnnihilatorOf_any (d p : Int) (b len cap : Nat) (zs : List Int) (w : World) (hl : -9223372036854775808 ≤ p) (hh : p ≤ 9223372036854775807) (hM : Mt w b len zs) :
    Calls Try.prog 29 #[.agg #[.int .i64 d, .int .i64 p], .slice (some ⟨b, 0, none⟩) len cap] w fun e w' => ∃ v, e = .returned (.tuple #[v, .int .i64 (fAnnihilatorOf d p zs).2]) ∧ Below w.heap.size w w' ∧ Res w' w.heap.size w'.heap.size v ((fAnnihilatorOf d p zs).1) := by
  cases hf : fldI d p with
  | false => rw [fAnnihilatorOf_A hf]; exact implAnnihilatorOf_A d p hf hl hh _ w
  | true =>
    obtain ⟨m, P, rfl, rfl, hF⟩ := fldI_nat hf
    have hF := Fld.of hF
    cases hin : allIn (2 ^ m) zs with
    | false => rw [fAnnihilatorOf_B hF hin]; exact implAnnihilatorOf_B m P _ hF b len cap zs hin w hM
    | true => rw [fAnnihilatorOf_C hF hin]; exact implAnnihilatorOf_C m P _ hF b len cap zs hin w hM
end Go.Proofs.Ytfnmlhilgabjeaa
