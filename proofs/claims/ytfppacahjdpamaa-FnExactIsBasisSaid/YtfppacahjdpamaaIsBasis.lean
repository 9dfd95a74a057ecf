/- IsBasis: the program and the model. -/
import Derived.Test.YtfppacahjdpamaaBasS
import Derived.Test.YtfppacahjdpamaaBasI
namespace Go.Proofs.Ytfppacahjdpamaa
open Go.RowKit Go.Joins
set_option linter.unusedVariables false

def fIsBasis (d p : Int) (zs : List Int) : Bool × Int :=
  if fldI d p = false then (false, 1) else if allIn (2 ^ d.toNat) zs = false then (false, 2) else (basB d.toNat (nats zs), 0)
theorem fIB_A {d p : Int} {zs : List Int} (h : fldI d p = false) : fIsBasis d p zs = (false, 1) := by simp [fIsBasis, h]
theorem fIB_B {m P n : Nat} (hF : Fld m P n) {zs : List Int} (h : allIn n zs = false) : fIsBasis m P zs = (false, 2) := by
  rw [fIsBasis, if_neg (by rw [fldI_of hF.f]; simp), Int.toNat_natCast, hF.n, if_pos h]
theorem fIB_C {m P n : Nat} (hF : Fld m P n) {zs : List Int} (h : allIn n zs = true) : fIsBasis m P zs = (basB m (nats zs), 0) := by
  rw [fIsBasis, if_neg (by rw [fldI_of hF.f]; simp), Int.toNat_natCast, hF.n, if_neg (by rw [h]; simp)]

set_option maxHeartbeats 1600000 in
theorem specIsBasis_any (d p : Int) (b len cap : Nat) (zs : List Int) (w : World) (hM : Mt w b len zs) :
    Calls Try.prog 19 #[.agg #[.int .i64 d, .int .i64 p], .slice (some ⟨b, 0, none⟩) len cap] w fun e w' => e = .returned (.tuple #[.bool (fIsBasis d p zs).1, .int .i64 (fIsBasis d p zs).2]) ∧ Below w.heap.size w w' := by
  have HM := Lib.hid hM
  have hsm := hM.small
  cases hf : fldI d p with
  | false =>
    rw [fIB_A hf]
    have HF := Lib.hid hf
    clear hf hM
    go_enter Try.func19, Try.ntmps19
    have h0 := FAt.start w d p 27
    go_wp2_with fail
    refine (l01List_A d p HF.out _ _).mono ?_
    rintro e w1 ⟨rfl, hb⟩
    have h1 := h0.next hb
    clear hb h0
    go_wp2_with fail
    go_ret2
    exact ⟨rfl, h1.b⟩
  | true =>
    obtain ⟨m, P, rfl, rfl, hF⟩ := fldI_nat hf
    have hF := Fld.of hF
    have S := fun w hM => l01List_any m P _ hF b len cap zs w hM
    cases hi : allIn (2 ^ m) zs with
    | false =>
      rw [fIB_B hF hi]
      rw [hi] at S
      have HS := Lib.hid S
      clear hi S hM hf
      go_enter Try.func19, Try.ntmps19
      have h0 := FAt.start w m P 27
      go_wp2_with fail
      refine (HS.out _ (HM.out.below h0.b)).mono ?_
      rintro e w1 ⟨rfl, hb⟩
      have h1 := h0.next hb
      clear hb h0
      go_wp2_with fail
      go_ret2
      exact ⟨rfl, h1.b⟩
    | true =>
      rw [fIB_C hF hi]
      rw [hi] at S
      have HS := Lib.hid S
      have HB := Lib.hid (fun w hR => l01Basis_any m P _ hF (some ⟨b, 0, none⟩) len cap (nats zs) (nats_lt hi (by have := hF.n2; omega)) hsm w hR)
      have HR := Lib.hid (hM.rl hi)
      obtain ⟨r, hr⟩ : ∃ r, basB m (nats zs) = r := ⟨_, rfl⟩
      rw [hr] at HB ⊢
      clear hi S hM hf hr
      go_enter Try.func19, Try.ntmps19
      have h0 := FAt.start w m P 27
      go_wp2_with fail
      refine (HS.out _ (HM.out.below h0.b)).mono ?_
      rintro e w1 ⟨rfl, hb⟩
      have h1 := h0.next hb
      have c1 := h1.c0; have d1 := h1.c1
      clear hb h0
      go_wp2_with fail
      refine (HB.out _ (HR.out.below h1.b)).mono ?_
      rintro e w2 ⟨rfl, hb⟩
      have h2 := h1.next hb
      clear hb h1 c1 d1
      go_wp2_with fail
      go_ret2
      exact ⟨rfl, h2.b⟩
set_option maxHeartbeats 1600000 in
theorem implIsBasis_any (d p : Int) (b len cap : Nat) (zs : List Int) (w : World) (hl : -9223372036854775808 ≤ p) (hh : p ≤ 9223372036854775807) (hM : Mt w b len zs) :
    Calls Try.prog 21 #[.agg #[.int .i64 d, .int .i64 p], .slice (some ⟨b, 0, none⟩) len cap] w fun e w' => e = .returned (.tuple #[.bool (fIsBasis d p zs).1, .int .i64 (fIsBasis d p zs).2]) ∧ Below w.heap.size w w' := by
  have hsm := hM.small
  have HM := Lib.hid hM
  have hb0 := below_alloc1 w (.cells #[.int .i64 d, .int .i64 p] 27)
  cases hf : fldI d p with
  | false =>
    rw [fIB_A hf]
    have HF := Lib.hid hf
    clear hf hM
    go_enter Try.func21, Try.ntmps21
    go_wp2_with fail
    refine (calculatorFor_invalid d p HF.out hl hh _ _).mono ?_
    rintro e w1 ⟨rfl, hb⟩
    go_wp2_with fail
    go_ret2
    exact ⟨rfl, by first | exact hb0.trans (hb.mono hb0.size) | exact hb⟩
  | true =>
    obtain ⟨m, P, rfl, rfl, hF⟩ := fldI_nat hf
    have hF := Fld.of hF
    cases hi : allIn (2 ^ m) zs with
    | false =>
      rw [fIB_B hF hi]
      have HI := Lib.hid hi
      clear hi hM hf
      go_enter Try.func21, Try.ntmps21
      go_wp2_with fail
      refine (calculatorFor_B m P _ hF _ _ len cap zs (HM.out.below hb0).arg (by omega) HI.out).mono ?_
      rintro e w1 ⟨rfl, hb⟩
      go_wp2_with fail
      go_ret2
      exact ⟨rfl, by first | exact hb0.trans (hb.mono hb0.size) | exact hb⟩
    | true =>
      rw [fIB_C hF hi]
      have HI := Lib.hid hi
      have HR := Lib.hid (hM.rl hi)
      have HC := Lib.hid (fun c w hC hR => coordinates_any c m P _ hF (some ⟨b, 0, none⟩) len cap (nats zs) (nats_lt hi (by have := hF.n2; omega)) hsm w hC hR)
      obtain ⟨r, hr⟩ : ∃ r, basB m (nats zs) = r := ⟨_, rfl⟩
      rw [hr] at HC ⊢
      clear hi hM hf hr
      go_enter Try.func21, Try.ntmps21
      go_wp2_with fail
      refine (calculatorFor_C m P _ hF _ _ len cap zs (HM.out.below hb0).arg (by omega) HI.out).mono ?_
      rintro e w1 ⟨c, rfl, hb, hC, hc⟩
      have HB := Lib.hid (hb0.trans (hb.mono hb0.size))
      have HR1 := Lib.hid (HR.out.below HB.out)
      clear hb hb0
      go_wp2_with fail
      refine (HC.out c _ hC HR1.out).mono ?_
      rintro e w2 ⟨f, rfl, hb, _⟩
      have HB2 := Lib.hid (HB.out.trans (hb.mono HB.out.size))
      have hz := HB2.out.size
      clear hb
      go_wp2_with (refine arr_store rfl _ _ rfl w2.heap.size (fun _ => 0) f rfl rfl (AAt.start w2 (fun _ => 0) 83) ?_; intro W2 HA2 HO2)
      go_ret2
      exact ⟨rfl, HO2.out.below (HB2.out.alloc (Nat.le_trans (Nat.le_refl _) hz) _) hz⟩
end Go.Proofs.Ytfppacahjdpamaa
