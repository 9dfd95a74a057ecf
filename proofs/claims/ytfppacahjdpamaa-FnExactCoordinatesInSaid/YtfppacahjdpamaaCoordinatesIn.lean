/- CoordinatesIn: the program and the model. -/
import Derived.Test.YtfppacahjdpamaaBasS
import Derived.Test.YtfppacahjdpamaaBasI
import Derived.Test.YtfppacahjdpamaaGiven
namespace Go.Proofs.Ytfppacahjdpamaa
open Go.RowKit Go.Joins
set_option linter.unusedVariables false

def fCoordinatesIn (d p : Int) (zs : List Int) (a : Int) : Int × Int :=
  if fldI d p = false then (0, 1) else if allIn (2 ^ d.toNat) zs = false ∨ a < 0 ∨ ((2 ^ d.toNat : Nat) : Int) ≤ a then (0, 2) else if basB d.toNat (nats zs) = false then (0, 4) else (((crd d.toNat (nats zs) a.toNat : Nat) : Int), 0)
theorem fCI_A {d p a : Int} {zs : List Int} (h : fldI d p = false) : fCoordinatesIn d p zs a = (0, 1) := by simp [fCoordinatesIn, h]
theorem fCI_B {m P n : Nat} (hF : Fld m P n) {zs : List Int} {a : Int} (h : allIn n zs = false ∨ a < 0 ∨ (n : Int) ≤ a) : fCoordinatesIn m P zs a = (0, 2) := by
  rw [fCoordinatesIn, if_neg (by rw [fldI_of hF.f]; simp), Int.toNat_natCast, hF.n, if_pos h]
theorem fCI_S {m P n : Nat} (hF : Fld m P n) {zs : List Int} {a : Int} (h : ¬ (allIn n zs = false ∨ a < 0 ∨ (n : Int) ≤ a)) (hb : basB m (nats zs) = false) : fCoordinatesIn m P zs a = (0, 4) := by
  rw [fCoordinatesIn, if_neg (by rw [fldI_of hF.f]; simp), Int.toNat_natCast, hF.n, if_neg h, if_pos hb]
theorem fCI_C {m P n : Nat} (hF : Fld m P n) {zs : List Int} {a : Nat} (hi : allIn n zs = true) (ha : a < n) (hb : basB m (nats zs) = true) : fCoordinatesIn m P zs a = (((crd m (nats zs) a : Nat) : Int), 0) := by
  rw [fCoordinatesIn, if_neg (by rw [fldI_of hF.f]; simp), Int.toNat_natCast, hF.n, if_neg (by rw [hi]; simp; omega), if_neg (by rw [hb]; simp), Int.toNat_natCast]

set_option maxHeartbeats 1600000 in
theorem specCoordinatesIn_A (d p : Int) (hf : fldI d p = false) (v : Value) (a : Int) (w : World) :
    Calls Try.prog 22 #[.agg #[.int .i64 d, .int .i64 p], v, .int .i64 a] w fun e w' => e = .returned (.tuple #[.int .i64 0, .int .i64 1]) ∧ Below w.heap.size w w' := by
  have HF := Lib.hid hf
  clear hf
  go_enter Try.func22, Try.ntmps22
  have h0 := FAt.start w d p 27
  go_wp2_with fail
  refine (l01List_A d p HF.out _ _).mono ?_
  rintro e w1 ⟨rfl, hb⟩
  have h1 := h0.next hb
  clear hb h0
  go_wp2
  go_ret2
  exact ⟨rfl, h1.b⟩
set_option maxHeartbeats 1600000 in
theorem specCoordinatesIn_B (m P n : Nat) (hF : Fld m P n) (b len cap : Nat) (zs : List Int) (a : Int) (h : allIn n zs = false) (w : World) (hM : Mt w b len zs) :
    Calls Try.prog 22 #[.agg #[.int .i64 m, .int .i64 P], .slice (some ⟨b, 0, none⟩) len cap, .int .i64 a] w fun e w' => e = .returned (.tuple #[.int .i64 0, .int .i64 2]) ∧ Below w.heap.size w w' := by
  have HM := Lib.hid hM
  have S := fun w hM => l01List_any m P _ hF b len cap zs w hM
  rw [h] at S
  have HS := Lib.hid S
  clear S hM h
  go_enter Try.func22, Try.ntmps22
  have h0 := FAt.start w m P 27
  go_wp2_with fail
  refine (HS.out _ (HM.out.below h0.b)).mono ?_
  rintro e w1 ⟨rfl, hb⟩
  have h1 := h0.next hb
  clear hb h0
  go_wp2
  go_ret2
  exact ⟨rfl, h1.b⟩
set_option maxHeartbeats 1600000 in
theorem specCoordinatesIn_R (m P n : Nat) (hF : Fld m P n) (b len cap : Nat) (zs : List Int) (a : Int) (h : allIn n zs = true) (ha : a < 0 ∨ (n : Int) ≤ a) (w : World) (hM : Mt w b len zs) :
    Calls Try.prog 22 #[.agg #[.int .i64 m, .int .i64 P], .slice (some ⟨b, 0, none⟩) len cap, .int .i64 a] w fun e w' => e = .returned (.tuple #[.int .i64 0, .int .i64 2]) ∧ Below w.heap.size w w' := by
  have HM := Lib.hid hM
  have S := fun w hM => l01List_any m P _ hF b len cap zs w hM
  rw [h] at S
  have HS := Lib.hid S
  have HA := Lib.hid (show (a < 0 ∨ (n : Int) ≤ a) ∨ ((0 : Int) < 0 ∨ (n : Int) ≤ 0) from .inl ha)
  clear S hM h ha
  go_enter Try.func22, Try.ntmps22
  have h0 := FAt.start w m P 27
  go_wp2_with fail
  refine (HS.out _ (HM.out.below h0.b)).mono ?_
  rintro e w1 ⟨rfl, hb⟩
  have h1 := h0.next hb
  have c1 := h1.c0; have d1 := h1.c1
  clear hb h0
  go_wp2_with fail
  refine (l01Given_B _ _ _ hF _ _ HA.out _).mono ?_
  rintro e w2 ⟨rfl, hb⟩
  have h2 := h1.next hb
  clear hb h1 c1 d1
  go_wp2
  go_ret2
  exact ⟨rfl, h2.b⟩
set_option maxRecDepth 100000 in
set_option maxHeartbeats 3200000 in
theorem specCoordinatesIn_C (m P n : Nat) (hF : Fld m P n) (b len cap : Nat) (zs : List Int) (a : Nat) (h : allIn n zs = true) (ha : a < n) (w : World) (hM : Mt w b len zs) :
    Calls Try.prog 22 #[.agg #[.int .i64 m, .int .i64 P], .slice (some ⟨b, 0, none⟩) len cap, .int .i64 a] w fun e w' => e = .returned (.tuple (if basB m (nats zs) then #[.int .i64 (crd m (nats zs) a : Nat), .int .i64 0] else #[.int .i64 0, .int .i64 4])) ∧ Below w.heap.size w w' := by
  have h32 := hF.n32
  have hm5 := hF.m5
  have hn := hF.n
  have hn2 := hF.n2
  have hsm := hM.small
  have hlt := nats_lt h (by omega)
  have HM := Lib.hid hM
  have HRL := Lib.hid (hM.rl h)
  have S := fun w hM => l01List_any m P _ hF b len cap zs w hM
  rw [h] at S
  have HS := Lib.hid S
  obtain ⟨p, hp⟩ : ∃ p, nats zs = p := ⟨_, rfl⟩
  rw [hp] at hlt HRL ⊢
  have hlp := HRL.out.len
  have HB := Lib.hid (fun w hR => l01Basis_any m P _ hF (some ⟨b, 0, none⟩) len cap p hlt hsm w hR)
  have HP := Lib.hid hlt
  clear S hM h hp hlt
  cases hbs : basB m p with
  | false =>
    rw [hbs] at HB
    go_enter Try.func22, Try.ntmps22
    have h0 := FAt.start w m P 27
    go_wp2_with fail
    refine (HS.out _ (HM.out.below h0.b)).mono ?_
    rintro e w1 ⟨rfl, hb⟩
    have h1 := h0.next hb
    have c1 := h1.c0; have d1 := h1.c1
    clear hb h0
    go_wp2_with fail
    refine (l01Given_C _ _ _ hF a 0 ha (by omega) _).mono ?_
    rintro e w2 ⟨rfl, hb⟩
    have h2 := h1.next hb
    have c2 := h2.c0; have d2 := h2.c1
    clear hb h1 c1 d1
    go_wp2_with fail
    refine (HB.out _ (HRL.out.below h2.b)).mono ?_
    rintro e w3 ⟨rfl, hb⟩
    have h3 := h2.next hb
    clear hb h2 c2 d2
    go_wp2
    go_ret2
    exact ⟨rfl, h3.b⟩
  | true =>
    rw [hbs] at HB
    have hBas := basB_bas hbs
    have hlm := hBas.len
    obtain rfl : len = m := by omega
    obtain ⟨x, hx⟩ : ∃ x, crd len p a = x := ⟨_, rfl⟩
    have hxl : x < n := by rw [← hx, ← hn]; exact crd_lt hBas (fun j => by rw [hn]; exact HP.out j) (by rw [hn]; exact ha)
    have hxt : tms x p len = a := by rw [← hx]; exact crd_tms hBas (fun j => by rw [hn]; exact HP.out j) (by rw [hn]; exact ha)
    have hno : ∀ y, y < x → tms y p len ≠ a := fun y hy e => by
      have := hBas.inj (a := y) (b := x) (by rw [hn]; omega) (by rw [hn]; omega) (by rw [e, hxt]); omega
    rw [hx]
    have HX := Lib.hid hxt
    have HN := Lib.hid hno
    clear hbs hBas hx hxt hno
    go_enter Try.func22, Try.ntmps22
    have h0 := FAt.start w len P 27
    go_wp2_with fail
    refine (HS.out _ (HM.out.below h0.b)).mono ?_
    rintro e w1 ⟨rfl, hb⟩
    have h1 := h0.next hb
    have c1 := h1.c0; have d1 := h1.c1
    clear hb h0
    go_wp2_with fail
    refine (l01Given_C _ _ _ hF a 0 ha (by omega) _).mono ?_
    rintro e w2 ⟨rfl, hb⟩
    have h2 := h1.next hb
    have c2 := h2.c0; have d2 := h2.c1
    clear hb h1 c1 d1
    go_wp2_with fail
    refine (HB.out _ (HRL.out.below h2.b)).mono ?_
    rintro e w3 ⟨rfl, hb⟩
    have h3 := h2.next hb
    clear hb h2 c2 d2
    go_wp2_with fail
    have HR3 := Lib.hid (HRL.out.below h3.b)
    have HB3 := Lib.hid h3.b
    clear h3
    go_loopw [9] (fun i wr => ∃ j : Nat, j ≤ x ∧ i = .int .i64 j ∧ wr = w3) (fun i _ => x - (intOf i).toNat)
    case atStart => exact ⟨0, Nat.zero_le _, rfl, rfl⟩
    case round =>
      obtain ⟨j, hj, rfl, rfl⟩ := hrel
      obtain ⟨s, hs⟩ : ∃ s, tms j p len = s := ⟨_, rfl⟩
      have hSum := l01Sum_any (some ⟨b, 0, none⟩) len cap p (fun i => by have := HP.out i; omega) (by omega) j (by omega) wr HR3.out
      rw [hs] at hSum
      have HSUM := Lib.hid hSum
      clear hSum
      by_cases hjx : j = x
      · subst hjx
        have hsa : s = a := by rw [← hs]; exact HX.out
        subst hsa
        clear hs HX HN
        go_wp2_with (go_at_call 58; refine HSUM.out.mono ?_; rintro e w' ⟨rfl, rfl⟩)
        go_ret2
        exact ⟨rfl, HB3.out⟩
      · have hne : ¬ s = a := by rw [← hs]; exact HN.out j (by omega)
        have hne' : ((s : Int) == (a : Int)) = false := by simp; omega
        clear hs
        go_wp2_with (go_at_call 58; refine HSUM.out.mono ?_; rintro e w' ⟨rfl, rfl⟩)
        go_roundw
        case rel => exact ⟨j + 1, by omega, by go_num, by first | trivial | rfl⟩
        case measure => simp [intOf]; omega
theorem specCoordinatesIn_any (d p : Int) (b len cap : Nat) (zs : List Int) (a : Int) (w : World) (hM : Mt w b len zs) :
    Calls Try.prog 22 #[.agg #[.int .i64 d, .int .i64 p], .slice (some ⟨b, 0, none⟩) len cap, .int .i64 a] w fun e w' => e = .returned (.tuple #[.int .i64 (fCoordinatesIn d p zs a).1, .int .i64 (fCoordinatesIn d p zs a).2]) ∧ Below w.heap.size w w' := by
  cases hf : fldI d p with
  | false => rw [fCI_A hf]; exact specCoordinatesIn_A d p hf _ a w
  | true =>
    obtain ⟨m, P, rfl, rfl, hF⟩ := fldI_nat hf
    have hF := Fld.of hF
    cases hi : allIn (2 ^ m) zs with
    | false => rw [fCI_B hF (.inl hi)]; exact specCoordinatesIn_B m P _ hF b len cap zs a hi w hM
    | true =>
      by_cases ha : a < 0 ∨ ((2 ^ m : Nat) : Int) ≤ a
      · rw [fCI_B hF (.inr ha)]; exact specCoordinatesIn_R m P _ hF b len cap zs a hi ha w hM
      · obtain ⟨x, rfl⟩ := Int.eq_ofNat_of_zero_le (by omega : 0 ≤ a)
        have hx : x < 2 ^ m := by have := Int.ofNat_lt (n := x) (m := 2 ^ m); omega
        have := specCoordinatesIn_C m P _ hF b len cap zs x hi hx w hM
        cases hb : basB m (nats zs) with
        | false => rw [fCI_S hF (by rw [hi]; exact fun h => h.elim (by simp) ha) hb]; rw [hb] at this; exact this
        | true => rw [fCI_C hF hi hx hb]; rw [hb] at this; exact this

set_option maxHeartbeats 1600000 in
theorem implCoordinatesIn_A (d p : Int) (hf : fldI d p = false) (hl : -9223372036854775808 ≤ p) (hh : p ≤ 9223372036854775807) (v : Value) (a : Int) (w : World) :
    Calls Try.prog 23 #[.agg #[.int .i64 d, .int .i64 p], v, .int .i64 a] w fun e w' => e = .returned (.tuple #[.int .i64 0, .int .i64 1]) ∧ Below w.heap.size w w' := by
  have HF := Lib.hid hf
  have hb0 := below_alloc1 w (.cells #[.int .i64 d, .int .i64 p] 27)
  clear hf
  go_enter Try.func23, Try.ntmps23
  go_wp2_with fail
  refine (calculatorFor_invalid d p HF.out hl hh _ _).mono ?_
  rintro e w1 ⟨rfl, hb⟩
  go_wp2
  go_ret2
  exact ⟨rfl, by first | exact hb0.trans (hb.mono hb0.size) | exact hb⟩
set_option maxHeartbeats 1600000 in
theorem implCoordinatesIn_B (m P n : Nat) (hF : Fld m P n) (b len cap : Nat) (zs : List Int) (a : Int) (h : allIn n zs = false) (w : World) (hM : Mt w b len zs) :
    Calls Try.prog 23 #[.agg #[.int .i64 m, .int .i64 P], .slice (some ⟨b, 0, none⟩) len cap, .int .i64 a] w fun e w' => e = .returned (.tuple #[.int .i64 0, .int .i64 2]) ∧ Below w.heap.size w w' := by
  have HI := Lib.hid h
  have HM := Lib.hid hM
  have hsm := hM.small
  have hb0 := below_alloc1 w (.cells #[.int .i64 m, .int .i64 P] 27)
  clear h hM
  go_enter Try.func23, Try.ntmps23
  go_wp2_with fail
  refine (calculatorFor_B m P _ hF _ _ len cap zs (HM.out.below hb0).arg (by omega) HI.out).mono ?_
  rintro e w1 ⟨rfl, hb⟩
  go_wp2
  go_ret2
  exact ⟨rfl, by first | exact hb0.trans (hb.mono hb0.size) | exact hb⟩
set_option maxHeartbeats 1600000 in
theorem implCoordinatesIn_R (m P n : Nat) (hF : Fld m P n) (b len cap : Nat) (zs : List Int) (a : Int) (h : allIn n zs = true) (ha : a < 0 ∨ (n : Int) ≤ a) (w : World) (hM : Mt w b len zs) :
    Calls Try.prog 23 #[.agg #[.int .i64 m, .int .i64 P], .slice (some ⟨b, 0, none⟩) len cap, .int .i64 a] w fun e w' => e = .returned (.tuple #[.int .i64 0, .int .i64 2]) ∧ Below w.heap.size w w' := by
  have HI := Lib.hid h
  have HM := Lib.hid hM
  have HA := Lib.hid ha
  have hsm := hM.small
  have hb0 := below_alloc1 w (.cells #[.int .i64 m, .int .i64 P] 27)
  clear h hM ha
  go_enter Try.func23, Try.ntmps23
  go_wp2_with fail
  refine (calculatorFor_C m P _ hF _ _ len cap zs (HM.out.below hb0).arg (by omega) HI.out).mono ?_
  rintro e w1 ⟨c, rfl, hb, hC, hc⟩
  have HB := Lib.hid (hb0.trans (hb.mono hb0.size))
  have hD := hC.deg
  clear hb hb0
  go_wp2_with fail
  refine (has_no c m P _ hF a HA.out _ hD).mono ?_
  rintro e w' ⟨rfl, rfl⟩
  go_wp2
  go_ret2
  exact ⟨rfl, HB.out⟩
set_option maxRecDepth 100000 in
set_option maxHeartbeats 3200000 in
theorem implCoordinatesIn_C (m P n : Nat) (hF : Fld m P n) (b len cap : Nat) (zs : List Int) (a : Nat) (h : allIn n zs = true) (ha : a < n) (w : World) (hM : Mt w b len zs) :
    Calls Try.prog 23 #[.agg #[.int .i64 m, .int .i64 P], .slice (some ⟨b, 0, none⟩) len cap, .int .i64 a] w fun e w' => e = .returned (.tuple (if basB m (nats zs) then #[.int .i64 (crd m (nats zs) a : Nat), .int .i64 0] else #[.int .i64 0, .int .i64 4])) ∧ Below w.heap.size w w' := by
  have h32 := hF.n32
  have hm5 := hF.m5
  have hn := hF.n
  have hsm := hM.small
  have hlt := nats_lt h (by have := hF.n2; omega)
  have HI := Lib.hid h
  have HM := Lib.hid hM
  have HR := Lib.hid (hM.rl h)
  have HC := Lib.hid (fun c w hC hR => coordinates_any c m P _ hF (some ⟨b, 0, none⟩) len cap (nats zs) hlt hsm w hC hR)
  have hb0 := below_alloc1 w (.cells #[.int .i64 m, .int .i64 P] 27)
  obtain ⟨p, hp⟩ : ∃ p, nats zs = p := ⟨_, rfl⟩
  rw [hp] at HC HR hlt ⊢
  have HP := Lib.hid hlt
  clear h hM hlt hp
  cases hbs : basB m p with
  | false =>
    rw [hbs] at HC
    clear hbs
    go_enter Try.func23, Try.ntmps23
    go_wp2_with fail
    refine (calculatorFor_C m P _ hF _ _ len cap zs (HM.out.below hb0).arg (by omega) HI.out).mono ?_
    rintro e w1 ⟨c, rfl, hb, hC, hc⟩
    have HB := Lib.hid (hb0.trans (hb.mono hb0.size))
    have HR1 := Lib.hid (HR.out.below HB.out)
    have hD := hC.deg
    clear hb hb0
    go_wp2_with fail
    refine (has_yes c m P _ hF a (by omega) (by omega) _ hD).mono ?_
    rintro e w' ⟨rfl, rfl⟩
    go_wp2_with fail
    refine (HC.out c _ hC HR1.out).mono ?_
    rintro e w2 ⟨f, rfl, hb, _⟩
    have HB2 := Lib.hid (HB.out.trans (hb.mono HB.out.size))
    have hz := HB2.out.size
    clear hb
    go_wp2_with (refine arr_store rfl _ _ rfl w2.heap.size (fun _ => 0) f rfl rfl (AAt.start w2 (fun _ => 0) 83) ?_; intro W2 HA2 HO2)
    go_ret2
    exact ⟨rfl, HO2.out.below (HB2.out.alloc (Nat.le_trans (Nat.le_refl _) hz) _) hz⟩
  | true =>
    rw [hbs] at HC
    have hBas := basB_bas hbs
    have hcl : crd m p a < n := by rw [← hn]; exact crd_lt hBas (fun j => by rw [hn]; exact HP.out j) (by rw [hn]; exact ha)
    have HT := Lib.hid (crd_tms hBas (fun j => by rw [hn]; exact HP.out j) (by rw [hn]; exact ha) : tms (crd m p a) p m = a)
    obtain ⟨x, hx⟩ : ∃ x, crd m p a = x := ⟨_, rfl⟩
    rw [hx] at hcl HT ⊢
    clear hbs hBas hx
    go_enter Try.func23, Try.ntmps23
    go_wp2_with fail
    refine (calculatorFor_C m P _ hF _ _ len cap zs (HM.out.below hb0).arg (by omega) HI.out).mono ?_
    rintro e w1 ⟨c, rfl, hb, hC, hc⟩
    have HB := Lib.hid (hb0.trans (hb.mono hb0.size))
    have HR1 := Lib.hid (HR.out.below HB.out)
    have hD := hC.deg
    clear hb hb0
    go_wp2_with fail
    refine (has_yes c m P _ hF a (by omega) (by omega) _ hD).mono ?_
    rintro e w' ⟨rfl, rfl⟩
    go_wp2_with fail
    refine (HC.out c _ hC HR1.out).mono ?_
    rintro e w2 ⟨f, rfl, hb, hf⟩
    have HB2 := Lib.hid (HB.out.trans (hb.mono HB.out.size))
    have HFX := Lib.hid (show f a = x by have := hf trivial x hcl; rwa [HT.out] at this)
    have hz := HB2.out.size
    clear hb hf
    go_wp2_with (refine arr_store rfl _ _ rfl w2.heap.size (fun _ => 0) f rfl rfl (AAt.start w2 (fun _ => 0) 83) ?_; intro W2 HA2 HO2; have hca := HA2.out.cell a (by omega); rw [HFX.out] at hca)
    go_ret2
    exact ⟨rfl, HO2.out.below (HB2.out.alloc (Nat.le_trans (Nat.le_refl _) hz) _) hz⟩
theorem implCoordinatesIn_any (d p : Int) (b len cap : Nat) (zs : List Int) (a : Int) (w : World) (hl : -9223372036854775808 ≤ p) (hh : p ≤ 9223372036854775807) (hM : Mt w b len zs) :
    Calls Try.prog 23 #[.agg #[.int .i64 d, .int .i64 p], .slice (some ⟨b, 0, none⟩) len cap, .int .i64 a] w fun e w' => e = .returned (.tuple #[.int .i64 (fCoordinatesIn d p zs a).1, .int .i64 (fCoordinatesIn d p zs a).2]) ∧ Below w.heap.size w w' := by
  cases hf : fldI d p with
  | false => rw [fCI_A hf]; exact implCoordinatesIn_A d p hf hl hh _ a w
  | true =>
    obtain ⟨m, P, rfl, rfl, hF⟩ := fldI_nat hf
    have hF := Fld.of hF
    cases hi : allIn (2 ^ m) zs with
    | false => rw [fCI_B hF (.inl hi)]; exact implCoordinatesIn_B m P _ hF b len cap zs a hi w hM
    | true =>
      by_cases ha : a < 0 ∨ ((2 ^ m : Nat) : Int) ≤ a
      · rw [fCI_B hF (.inr ha)]; exact implCoordinatesIn_R m P _ hF b len cap zs a hi ha w hM
      · obtain ⟨x, rfl⟩ := Int.eq_ofNat_of_zero_le (by omega : 0 ≤ a)
        have hx : x < 2 ^ m := by have := Int.ofNat_lt (n := x) (m := 2 ^ m); omega
        have := implCoordinatesIn_C m P _ hF b len cap zs x hi hx w hM
        cases hb : basB m (nats zs) with
        | false => rw [fCI_S hF (by rw [hi]; exact fun h => h.elim (by simp) ha) hb]; rw [hb] at this; exact this
        | true => rw [fCI_C hF hi hx hb]; rw [hb] at this; exact this
end Go.Proofs.Ytfppacahjdpamaa
