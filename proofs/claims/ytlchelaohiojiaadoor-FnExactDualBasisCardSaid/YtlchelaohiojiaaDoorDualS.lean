/- DualBasis: what the model and the program return where there is none. -/
import Derived.Test.YtlchelaohiojiaaDoorTracesI
import Derived.Test.YtlchelaohiojiaaDoorBasS
import Derived.Test.YtlchelaohiojiaaDoorListS
import Derived.Test.YtlchelaohiojiaaDoorMtRes
import Derived.Test.YtlchelaohiojiaaDoorMake
namespace Go.Proofs.YtlchelaohiojiaaDoor
open Go.RowKit Go.Joins
set_option linter.unusedVariables false

/-- What DualBasis returns. -/
def fDualBasis (d p : Int) (zs : List Int) : List Int × Int :=
  if fldI d p = false then ([], 1)
  else if allIn (2 ^ d.toNat) zs = false then ([], 2)
  else if basB d.toNat (nats zs) = false then ([], 4)
  else (ints ((List.range d.toNat).map (dul p.toNat d.toNat (2 ^ d.toNat) (nats zs))), 0)

set_option maxHeartbeats 1600000 in
theorem specDual_no (d p : Int) (b len cap : Nat) (zs : List Int) (w : World) (hM : Mt w b len zs) (k : Int) (hk : (fDualBasis d p zs).2 = k) (h0 : k ≠ 0) :
    Calls Tryd.prog 22 #[.agg #[.int .i64 d, .int .i64 p], .slice (some ⟨b, 0, none⟩) len cap] w fun e w' => ∃ v, e = .returned (.tuple #[v, .int .i64 k]) ∧ Below w.heap.size w w' ∧ Res w' w.heap.size w'.heap.size v [] := by
  have HM := Lib.hid hM
  have hsm := hM.small
  cases hf : fldI d p with
  | false =>
    obtain rfl : k = 1 := by rw [← hk, fDualBasis, if_pos hf]
    have HF := Lib.hid hf
    clear hf hM hk h0
    go_enter Tryd.func22, Tryd.ntmps22
    have h0 := FAt.start w d p 25
    go_wp2_with fail
    refine (l01List_A d p HF.out _ _).mono ?_
    rintro e w1 ⟨rfl, hb⟩
    have H1 := Lib.hid (h0.next hb)
    clear hb h0
    go_wp2_with fail
    go_ret2
    exact ⟨_, rfl, (H1.out.alloc _).b, .nil _ _⟩
  | true =>
    obtain ⟨m, P, rfl, rfl, hF⟩ := fldI_nat hf
    have hF := Fld.of hF
    have S := fun w hM => l01List_any m P _ hF b len cap zs w hM
    cases hi : allIn (2 ^ m) zs with
    | false =>
      obtain rfl : k = 2 := by rw [← hk, fDualBasis, if_neg (by rw [hf]; simp), if_pos (by simpa using hi)]
      rw [hi] at S
      have HS := Lib.hid S
      clear hi S hM hf hk h0
      go_enter Tryd.func22, Tryd.ntmps22
      have h0 := FAt.start w m P 25
      go_wp2_with fail
      refine (HS.out _ (HM.out.below h0.b)).mono ?_
      rintro e w1 ⟨rfl, hb⟩
      have H1 := Lib.hid (h0.next hb)
      clear hb h0
      rw [show cIn false = 2 from rfl]
      go_wp2_with fail
      go_ret2
      exact ⟨_, rfl, (H1.out.alloc _).b, .nil _ _⟩
    | true =>
      cases hs : basB m (nats zs) with
      | true => exact absurd (by rw [← hk, fDualBasis, if_neg (by rw [hf]; simp), if_neg (by simpa using hi), if_neg (by simpa using hs)]) h0
      | false =>
        obtain rfl : k = 4 := by rw [← hk, fDualBasis, if_neg (by rw [hf]; simp), if_neg (by simpa using hi), if_pos (by simpa using hs)]
        rw [hi] at S
        have HS := Lib.hid S
        have HB := Lib.hid (fun w hR => l01Basis_any m P _ hF (some ⟨b, 0, none⟩) len cap (nats zs) (nats_lt hi (by have := hF.n2; omega)) hsm w hR)
        have HR := Lib.hid (hM.rl hi)
        rw [hs] at HB
        clear hi S hM hf hk h0 hs
        go_enter Tryd.func22, Tryd.ntmps22
        have h0 := FAt.start w m P 25
        go_wp2_with fail
        refine (HS.out _ (HM.out.below h0.b)).mono ?_
        rintro e w1 ⟨rfl, hb⟩
        have h1 := h0.next hb
        have c1 := h1.c0; have d1 := h1.c1
        have H1 := Lib.hid h1
        clear hb h0 h1
        rw [show cIn true = 0 from rfl]
        go_wp2_with fail
        refine (HB.out _ (HR.out.below H1.out.b)).mono ?_
        rintro e w2 ⟨rfl, hb⟩
        have H2 := Lib.hid (H1.out.next hb)
        clear hb c1 d1
        go_wp2_with fail
        go_ret2
        exact ⟨_, rfl, (H2.out.alloc _).b, .nil _ _⟩

set_option maxHeartbeats 1600000 in
theorem implDual_no (d p : Int) (hl : -9223372036854775808 ≤ p) (hh : p ≤ 9223372036854775807) (b len cap : Nat) (zs : List Int) (w : World) (hM : Mt w b len zs) (k : Int) (hk : (fDualBasis d p zs).2 = k) (h0 : k ≠ 0) :
    Calls Tryd.prog 12 #[.agg #[.int .i64 d, .int .i64 p], .slice (some ⟨b, 0, none⟩) len cap] w fun e w' => ∃ v, e = .returned (.tuple #[v, .int .i64 k]) ∧ Below w.heap.size w w' ∧ Res w' w.heap.size w'.heap.size v [] := by
  have HM := Lib.hid hM
  have hsm := hM.small
  have HB0 := Lib.hid (below_alloc2 w (.cells #[.int .i64 d, .int .i64 p] 25) (.cells #[.slice (some ⟨b, 0, none⟩) len cap] 28))
  cases hf : fldI d p with
  | false =>
    obtain rfl : k = 1 := by rw [← hk, fDualBasis, if_pos hf]
    have HF := Lib.hid hf
    clear hf hM hk h0
    go_enter Tryd.func12, Tryd.ntmps12
    go_wp2_with fail
    refine (calculatorFor_invalid d p HF.out hl hh _ _).mono ?_
    rintro e w1 ⟨rfl, hb⟩
    have HB1 := Lib.hid (HB0.out.trans (hb.mono HB0.out.size))
    clear hb
    have hz := HB1.out.size
    go_wp2_with fail
    go_ret2
    exact ⟨_, rfl, HB1.out.alloc hz _, .nil _ _⟩
  | true =>
    obtain ⟨m, P, rfl, rfl, hF⟩ := fldI_nat hf
    have hF := Fld.of hF
    cases hi : allIn (2 ^ m) zs with
    | false =>
      obtain rfl : k = 2 := by rw [← hk, fDualBasis, if_neg (by rw [hf]; simp), if_pos (by simpa using hi)]
      have HI := Lib.hid hi
      clear hi hM hf hk h0
      go_enter Tryd.func12, Tryd.ntmps12
      go_wp2_with fail
      refine (calculatorFor_B m P _ hF _ _ len cap zs (HM.out.below HB0.out).arg (by omega) HI.out).mono ?_
      rintro e w1 ⟨rfl, hb⟩
      have HB1 := Lib.hid (HB0.out.trans (hb.mono HB0.out.size))
      clear hb
      have hz := HB1.out.size
      go_wp2_with fail
      go_ret2
      exact ⟨_, rfl, HB1.out.alloc hz _, .nil _ _⟩
    | true =>
      cases hs : basB m (nats zs) with
      | true => exact absurd (by rw [← hk, fDualBasis, if_neg (by rw [hf]; simp), if_neg (by simpa using hi), if_neg (by simpa using hs)]) h0
      | false =>
        obtain rfl : k = 4 := by rw [← hk, fDualBasis, if_neg (by rw [hf]; simp), if_neg (by simpa using hi), if_pos (by simpa using hs)]
        have HI := Lib.hid hi
        have HR := Lib.hid (hM.rl hi)
        have HC := Lib.hid (fun c w hC hR => coordinates_any c m P _ hF (some ⟨b, 0, none⟩) len cap (nats zs) (nats_lt hi (by have := hF.n2; omega)) hsm w hC hR)
        rw [hs] at HC
        have hk0 : ((w.alloc (.cells #[.int .i64 m, .int .i64 P] 25)).alloc (.cells #[.slice (some ⟨b, 0, none⟩) len cap] 28)).cell? ⟨w.heap.size + 1, 0, none⟩ = some (.slice (some ⟨b, 0, none⟩) len cap) := by simp [World.cell?_alloc_at]
        have hlt0 : w.heap.size + 1 < ((w.alloc (.cells #[.int .i64 m, .int .i64 P] 25)).alloc (.cells #[.slice (some ⟨b, 0, none⟩) len cap] 28)).heap.size := by simp
        have HK0 := Lib.hid hk0
        have HL0 := Lib.hid hlt0
        clear hi hM hf hk h0 hs hk0 hlt0
        go_enter Tryd.func12, Tryd.ntmps12
        go_wp2_with fail
        refine (calculatorFor_C m P _ hF _ _ len cap zs (HM.out.below HB0.out).arg (by omega) HI.out).mono ?_
        rintro e w1 ⟨c, rfl, hb, hC, hc⟩
        have HB1 := Lib.hid (HB0.out.trans (hb.mono HB0.out.size))
        have hz := HB1.out.size
        have hk1 : w1.cell? ⟨w.heap.size + 1, 0, none⟩ = some (.slice (some ⟨b, 0, none⟩) len cap) := (hb.cell (p := ⟨w.heap.size + 1, 0, none⟩) HL0.out).trans HK0.out
        have hlt1 : w.heap.size + 1 < w1.heap.size := Nat.lt_of_lt_of_le HL0.out hb.size
        have HC1 := Lib.hid hC
        clear hb hC hc
        go_wp2_with fail
        have hba := below_alloc1 w1 (.cells #[.pointer (some ⟨c, 0, none⟩)] 64)
        refine (HC.out c _ (HC1.out.below HC1.out.lt hba) (HR.out.below (HB1.out.trans (hba.mono HB1.out.size)))).mono ?_
        rintro e w2 ⟨f, rfl, hb, _⟩
        have HB2 := Lib.hid ((HB1.out.trans (hba.mono HB1.out.size)).trans (hb.mono (by have := hba.size; omega)))
        have hz2 := HB2.out.size
        clear hb hba
        go_wp2_with (refine arr_store rfl _ _ rfl w2.heap.size (fun _ => 0) f rfl rfl (AAt.start w2 (fun _ => 0) 67) ?_; intro W2 HA2 HO2)
        go_ret2
        exact ⟨_, rfl, HO2.out.below (HB2.out.alloc (Nat.le_trans (Nat.le_refl _) hz2) _) hz2, .nil _ _⟩
end Go.Proofs.YtlchelaohiojiaaDoor
