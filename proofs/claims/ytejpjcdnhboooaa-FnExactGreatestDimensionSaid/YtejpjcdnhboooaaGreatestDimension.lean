/- GreatestDimension: the program and the model. -/
import Derived.Test.YtejpjcdnhboooaaSpecMul
import Derived.Test.YtejpjcdnhboooaaImplField
import Derived.Test.YtejpjcdnhboooaaMake
import Derived.Test.YtejpjcdnhboooaaLength
import Derived.Test.YtejpjcdnhboooaaMin
namespace Go.Proofs.Ytejpjcdnhboooaa
open Go.RowKit
set_option linter.unusedVariables false

/-- A bound for the dimension: of a field of the degree m, a length and a distance. -/
def gd (m L D : Nat) : Nat := if m < L then min (L - D + 1) (L * (m - D + 1) / m) else L - D + 1
def fGreatestDimension (d p L D : Int) : Int × Int :=
  if fldI d p = false then (0, 1) else if ¬ ((1 ≤ L ∧ L ≤ 5) ∧ 1 ≤ D) then (0, 2) else if L < D ∨ d < D then (0, 0) else ((gd d.toNat L.toNat D.toNat : Nat), 0)
theorem fGD_A {d p L D : Int} (h : fldI d p = false) : fGreatestDimension d p L D = (0, 1) := by simp [fGreatestDimension, h]
theorem fGD_B {m P n : Nat} (hF : Fld m P n) {L D : Int} (h : ¬ ((1 ≤ L ∧ L ≤ 5) ∧ 1 ≤ D)) : fGreatestDimension m P L D = (0, 2) := by
  rw [fGreatestDimension, if_neg (by rw [fldI_of hF.f]; simp), if_pos h]
theorem fGD_Z {m P n : Nat} (hF : Fld m P n) {L D : Int} (h : (1 ≤ L ∧ L ≤ 5) ∧ 1 ≤ D) (h2 : L < D ∨ (m : Int) < D) : fGreatestDimension m P L D = (0, 0) := by
  rw [fGreatestDimension, if_neg (by rw [fldI_of hF.f]; simp), if_neg (by omega), if_pos h2]
theorem fGD_C {m P n : Nat} (hF : Fld m P n) {L D : Nat} (h : (1 ≤ L ∧ L ≤ 5) ∧ 1 ≤ D) (h2 : D ≤ L ∧ D ≤ m) : fGreatestDimension m P L D = (((gd m L D : Nat) : Int), 0) := by
  rw [fGreatestDimension, if_neg (by rw [fldI_of hF.f]; simp), if_neg (by omega), if_neg (by omega)]; rfl
theorem gd_all : ∀ m L D : Fin 6, 1 ≤ m.val → D.val ≤ L.val → D.val ≤ m.val → m.val < L.val → min ((L.val : Int) - D.val + 1) (wrap64 ((wrap64 ((L.val : Int) * ((m.val : Int) - D.val + 1))).tdiv m.val)) = ((gd m.val L.val D.val : Nat) : Int) := by decide +kernel
theorem gd_at {m L D : Nat} (hm : m ≤ 5) (hL : L ≤ 5) (h1 : 1 ≤ m) (h2 : D ≤ L) (h3 : D ≤ m) (h4 : m < L) : min ((L : Int) - D + 1) (wrap64 ((wrap64 ((L : Int) * ((m : Int) - D + 1))).tdiv m)) = ((gd m L D : Nat) : Int) :=
  gd_all ⟨m, by omega⟩ ⟨L, by omega⟩ ⟨D, by omega⟩ h1 h2 h3 h4

set_option maxHeartbeats 800000 in
theorem specGreatestDimension_A (d p : Int) (hf : fldI d p = false) (L D : Int) (w : World) :
    Calls Try.prog 16 #[.agg #[.int .i64 d, .int .i64 p], .int .i64 L, .int .i64 D] w fun e w' => e = .returned (.tuple #[.int .i64 0, .int .i64 1]) ∧ Below w.heap.size w w' := by
  have HF := Lib.hid hf
  clear hf
  go_enter Try.func16, Try.ntmps16
  go_wp2_with fail
  refine (l01Ok_eq _ _ _ HF.out _).mono ?_
  rintro e w1 ⟨rfl, hb⟩
  go_wp2
  go_ret2
  exact ⟨rfl, ((Below.refl _ w).alloc (Nat.le_refl _) _).trans (hb.mono (by simp))⟩
set_option maxHeartbeats 800000 in
theorem specGreatestDimension_B (m P n : Nat) (hF : Fld m P n) (L D : Int) (h : ¬ ((1 ≤ L ∧ L ≤ 5) ∧ 1 ≤ D)) (w : World) :
    Calls Try.prog 16 #[.agg #[.int .i64 m, .int .i64 P], .int .i64 L, .int .i64 D] w fun e w' => e = .returned (.tuple #[.int .i64 0, .int .i64 2]) ∧ Below w.heap.size w w' := by
  have HF := Lib.hid (fldI_of hF.f)
  by_cases hL : 1 ≤ L ∧ L ≤ 5
  · have hD : D < 1 := by omega
    obtain ⟨h1, h2⟩ := hL
    clear h
    go_enter Try.func16, Try.ntmps16
    have h0 := FAt.start w m P 29
    go_wp2_with fail
    refine (l01Ok_eq _ _ _ HF.out _).mono ?_
    rintro e w1 ⟨rfl, hb⟩
    have h1 := h0.next hb
    have c1 := h1.c0; have d1 := h1.c1
    clear hb h0
    go_wp2_with (go_at_call 48; refine (l00In_yes _ 1 5 (by omega) (by omega) _).mono ?_; rintro e w' ⟨rfl, rfl⟩)
    go_ret2
    exact ⟨rfl, h1.b⟩
  · have hL : L < 1 ∨ 5 < L := by omega
    have HL := Lib.hid hL
    clear h hL
    go_enter Try.func16, Try.ntmps16
    have h0 := FAt.start w m P 29
    go_wp2_with fail
    refine (l01Ok_eq _ _ _ HF.out _).mono ?_
    rintro e w1 ⟨rfl, hb⟩
    have h1 := h0.next hb
    have c1 := h1.c0; have d1 := h1.c1
    clear hb h0
    go_wp2_with (go_at_call 48; refine (l00In_no _ 1 5 HL.out _).mono ?_; rintro e w' ⟨rfl, rfl⟩)
    go_ret2
    exact ⟨rfl, h1.b⟩
set_option maxHeartbeats 800000 in
theorem specGreatestDimension_Z (m P n : Nat) (hF : Fld m P n) (L D : Int) (h1 : 1 ≤ L) (h2 : L ≤ 5) (h3 : 1 ≤ D) (hz : L < D ∨ (m : Int) < D) (w : World) :
    Calls Try.prog 16 #[.agg #[.int .i64 m, .int .i64 P], .int .i64 L, .int .i64 D] w fun e w' => e = .returned (.tuple #[.int .i64 0, .int .i64 0]) ∧ Below w.heap.size w w' := by
  have HF := Lib.hid (fldI_of hF.f)
  have HZ := Lib.hid hz
  clear hz
  by_cases hLD : L < D
  all_goals
    go_enter Try.func16, Try.ntmps16
    have h0 := FAt.start w m P 29
    go_wp2_with fail
    refine (l01Ok_eq _ _ _ HF.out _).mono ?_
    rintro e w1 ⟨rfl, hb⟩
    have h1' := h0.next hb
    have c1 := h1'.c0; have d1 := h1'.c1
    have hz := HZ.out
    clear hb h0
  · clear hz
    go_wp2_with (go_at_call 48; refine (l00In_yes _ 1 5 (by omega) (by omega) _).mono ?_; rintro e w' ⟨rfl, rfl⟩)
    go_ret2
    exact ⟨rfl, h1'.b⟩
  · have hmD : (m : Int) < D := by omega
    clear hz
    go_wp2_with (go_at_call 48; refine (l00In_yes _ 1 5 (by omega) (by omega) _).mono ?_; rintro e w' ⟨rfl, rfl⟩)
    go_ret2
    exact ⟨rfl, h1'.b⟩
set_option maxHeartbeats 800000 in
theorem specGreatestDimension_C (m P n : Nat) (hF : Fld m P n) (L D : Nat) (h1 : 1 ≤ L) (h2 : L ≤ 5) (h3 : 1 ≤ D) (h4 : D ≤ L) (h5 : D ≤ m) (w : World) :
    Calls Try.prog 16 #[.agg #[.int .i64 m, .int .i64 P], .int .i64 L, .int .i64 D] w fun e w' => e = .returned (.tuple #[.int .i64 (gd m L D : Nat), .int .i64 0]) ∧ Below w.heap.size w w' := by
  have HF := Lib.hid (fldI_of hF.f)
  have hm1 := hF.m1
  have hm5 := hF.m5
  by_cases hmL : m < L
  · have HG := Lib.hid (gd_at hm5 h2 hm1 h4 h5 hmL)
    have hm0 : ¬ (m : Int) = 0 := by omega
    go_enter Try.func16, Try.ntmps16
    have h0 := FAt.start w m P 29
    go_wp2_with fail
    refine (l01Ok_eq _ _ _ HF.out _).mono ?_
    rintro e w1 ⟨rfl, hb⟩
    have h1' := h0.next hb
    have c1 := h1'.c0; have d1 := h1'.c1
    clear hb h0
    go_wp2_with (first | (go_at_call 48; refine (l00In_yes _ 1 5 (by omega) (by omega) _).mono ?_; rintro e w' ⟨rfl, rfl⟩) | (go_at_call 49; refine (l00Min_any _ _ _).mono ?_; rintro e w' ⟨rfl, rfl⟩))
    go_ret2
    exact ⟨by show Ending.returned (.tuple #[.int .i64 (min ((L : Int) - D + 1) (wrap64 ((wrap64 ((L : Int) * ((m : Int) - D + 1))).tdiv m))), .int .i64 0]) = _; rw [HG.out], h1'.b⟩
  · have hg : gd m L D = L - D + 1 := if_neg hmL
    have HG := Lib.hid hg
    clear hg
    go_enter Try.func16, Try.ntmps16
    have h0 := FAt.start w m P 29
    go_wp2_with fail
    refine (l01Ok_eq _ _ _ HF.out _).mono ?_
    rintro e w1 ⟨rfl, hb⟩
    have h1' := h0.next hb
    have c1 := h1'.c0; have d1 := h1'.c1
    clear hb h0
    go_wp2_with (first | (go_at_call 48; refine (l00In_yes _ 1 5 (by omega) (by omega) _).mono ?_; rintro e w' ⟨rfl, rfl⟩))
    go_ret2
    exact ⟨by show Ending.returned (.tuple #[.int .i64 ((L : Int) - D + 1), .int .i64 0]) = _; rw [show ((gd m L D : Nat) : Int) = (L : Int) - D + 1 by rw [HG.out]; omega], h1'.b⟩
theorem specGreatestDimension_any (d p L D : Int) (w : World) :
    Calls Try.prog 16 #[.agg #[.int .i64 d, .int .i64 p], .int .i64 L, .int .i64 D] w fun e w' => e = .returned (.tuple #[.int .i64 (fGreatestDimension d p L D).1, .int .i64 (fGreatestDimension d p L D).2]) ∧ Below w.heap.size w w' := by
  cases hf : fldI d p with
  | false => rw [fGD_A hf]; exact specGreatestDimension_A d p hf L D w
  | true =>
    obtain ⟨m, P, rfl, rfl, hF⟩ := fldI_nat hf
    have hF := Fld.of hF
    by_cases h : (1 ≤ L ∧ L ≤ 5) ∧ 1 ≤ D
    · by_cases hz : L < D ∨ (m : Int) < D
      · rw [fGD_Z hF h hz]; exact specGreatestDimension_Z m P _ hF L D h.1.1 h.1.2 h.2 hz w
      · obtain ⟨L, rfl⟩ := Int.eq_ofNat_of_zero_le (by omega : 0 ≤ L)
        obtain ⟨D, rfl⟩ := Int.eq_ofNat_of_zero_le (by omega : 0 ≤ D)
        rw [fGD_C hF (by omega) (by omega)]; exact specGreatestDimension_C m P _ hF L D (by omega) (by omega) (by omega) (by omega) (by omega) w
    · rw [fGD_B hF h]; exact specGreatestDimension_B m P _ hF L D h w
set_option maxHeartbeats 800000 in
theorem implGreatestDimension_A (d p : Int) (hf : fldI d p = false) (hl : -9223372036854775808 ≤ p) (hh : p ≤ 9223372036854775807) (L D : Int) (w : World) :
    Calls Try.prog 18 #[.agg #[.int .i64 d, .int .i64 p], .int .i64 L, .int .i64 D] w fun e w' => e = .returned (.tuple #[.int .i64 0, .int .i64 1]) ∧ Below w.heap.size w w' := by
  have HF := Lib.hid hf
  clear hf
  go_enter Try.func18, Try.ntmps18
  go_wp2_with fail
  refine (validField_eq _ _ _ HF.out (by omega) (by omega) _).mono ?_
  rintro e w1 ⟨rfl, hb⟩
  go_wp2
  go_ret2
  exact ⟨rfl, ((Below.refl _ w).alloc (Nat.le_refl _) _).trans (hb.mono (by simp))⟩
set_option maxHeartbeats 800000 in
theorem implGreatestDimension_B (m P n : Nat) (hF : Fld m P n) (L D : Int) (h : ¬ ((1 ≤ L ∧ L ≤ 5) ∧ 1 ≤ D)) (w : World) :
    Calls Try.prog 18 #[.agg #[.int .i64 m, .int .i64 P], .int .i64 L, .int .i64 D] w fun e w' => e = .returned (.tuple #[.int .i64 0, .int .i64 2]) ∧ Below w.heap.size w w' := by
  have HF := Lib.hid (fldI_of hF.f)
  have hP := hF.P64
  by_cases hL : 1 ≤ L ∧ L ≤ 5
  · have hD : D < 1 := by omega
    obtain ⟨h1, h2⟩ := hL
    clear h
    go_enter Try.func18, Try.ntmps18
    have h0 := FAt.start w m P 29
    go_wp2_with fail
    refine (validField_eq _ _ _ HF.out (by omega) (by omega) _).mono ?_
    rintro e w1 ⟨rfl, hb⟩
    have h1 := h0.next hb
    have c1 := h1.c0; have d1 := h1.c1
    clear hb h0
    go_wp2_with (go_at_call 51; refine (isLength_eq _ true (by simp; omega) _).mono ?_; rintro e w' ⟨rfl, rfl⟩)
    go_ret2
    exact ⟨rfl, h1.b⟩
  · have hL : L < 1 ∨ 5 < L := by omega
    have HL := Lib.hid hL
    clear h hL
    go_enter Try.func18, Try.ntmps18
    have h0 := FAt.start w m P 29
    go_wp2_with fail
    refine (validField_eq _ _ _ HF.out (by omega) (by omega) _).mono ?_
    rintro e w1 ⟨rfl, hb⟩
    have h1 := h0.next hb
    have c1 := h1.c0; have d1 := h1.c1
    clear hb h0
    go_wp2_with (go_at_call 51; refine (isLength_eq _ false (by have := HL.out; simp; omega) _).mono ?_; rintro e w' ⟨rfl, rfl⟩)
    go_ret2
    exact ⟨rfl, h1.b⟩
set_option maxHeartbeats 800000 in
theorem implGreatestDimension_Z (m P n : Nat) (hF : Fld m P n) (L D : Int) (h1 : 1 ≤ L) (h2 : L ≤ 5) (h3 : 1 ≤ D) (hz : L < D ∨ (m : Int) < D) (w : World) :
    Calls Try.prog 18 #[.agg #[.int .i64 m, .int .i64 P], .int .i64 L, .int .i64 D] w fun e w' => e = .returned (.tuple #[.int .i64 0, .int .i64 0]) ∧ Below w.heap.size w w' := by
  have HF := Lib.hid (fldI_of hF.f)
  have hP := hF.P64
  have HZ := Lib.hid hz
  clear hz
  by_cases hLD : L < D
  all_goals
    go_enter Try.func18, Try.ntmps18
    have h0 := FAt.start w m P 29
    go_wp2_with fail
    refine (validField_eq _ _ _ HF.out (by omega) (by omega) _).mono ?_
    rintro e w1 ⟨rfl, hb⟩
    have h1' := h0.next hb
    have c1 := h1'.c0; have d1 := h1'.c1
    have hz := HZ.out
    clear hb h0
  · clear hz
    go_wp2_with (go_at_call 51; refine (isLength_eq _ true (by simp; omega) _).mono ?_; rintro e w' ⟨rfl, rfl⟩)
    go_ret2
    exact ⟨rfl, h1'.b⟩
  · have hmD : (m : Int) < D := by omega
    clear hz
    go_wp2_with (go_at_call 51; refine (isLength_eq _ true (by simp; omega) _).mono ?_; rintro e w' ⟨rfl, rfl⟩)
    go_ret2
    exact ⟨rfl, h1'.b⟩
set_option maxHeartbeats 800000 in
theorem implGreatestDimension_C (m P n : Nat) (hF : Fld m P n) (L D : Nat) (h1 : 1 ≤ L) (h2 : L ≤ 5) (h3 : 1 ≤ D) (h4 : D ≤ L) (h5 : D ≤ m) (w : World) :
    Calls Try.prog 18 #[.agg #[.int .i64 m, .int .i64 P], .int .i64 L, .int .i64 D] w fun e w' => e = .returned (.tuple #[.int .i64 (gd m L D : Nat), .int .i64 0]) ∧ Below w.heap.size w w' := by
  have HF := Lib.hid (fldI_of hF.f)
  have hP := hF.P64
  have hm1 := hF.m1
  have hm5 := hF.m5
  by_cases hmL : m < L
  · have HG := Lib.hid (gd_at hm5 h2 hm1 h4 h5 hmL)
    have hm0 : ¬ (m : Int) = 0 := by omega
    go_enter Try.func18, Try.ntmps18
    have h0 := FAt.start w m P 29
    go_wp2_with fail
    refine (validField_eq _ _ _ HF.out (by omega) (by omega) _).mono ?_
    rintro e w1 ⟨rfl, hb⟩
    have h1' := h0.next hb
    have c1 := h1'.c0; have d1 := h1'.c1
    clear hb h0
    go_wp2_with (first | (go_at_call 51; refine (isLength_eq _ true (by simp; omega) _).mono ?_; rintro e w' ⟨rfl, rfl⟩))
    go_ret2
    exact ⟨by show Ending.returned (.tuple #[.int .i64 (min ((L : Int) - D + 1) (wrap64 ((wrap64 ((L : Int) * ((m : Int) - D + 1))).tdiv m))), .int .i64 0]) = _; rw [HG.out], h1'.b⟩
  · have hg : gd m L D = L - D + 1 := if_neg hmL
    have HG := Lib.hid hg
    clear hg
    go_enter Try.func18, Try.ntmps18
    have h0 := FAt.start w m P 29
    go_wp2_with fail
    refine (validField_eq _ _ _ HF.out (by omega) (by omega) _).mono ?_
    rintro e w1 ⟨rfl, hb⟩
    have h1' := h0.next hb
    have c1 := h1'.c0; have d1 := h1'.c1
    clear hb h0
    go_wp2_with (first | (go_at_call 51; refine (isLength_eq _ true (by simp; omega) _).mono ?_; rintro e w' ⟨rfl, rfl⟩))
    go_ret2
    exact ⟨by show Ending.returned (.tuple #[.int .i64 ((L : Int) - D + 1), .int .i64 0]) = _; rw [show ((gd m L D : Nat) : Int) = (L : Int) - D + 1 by rw [HG.out]; omega], h1'.b⟩
theorem implGreatestDimension_any (d p L D : Int) (hl : -9223372036854775808 ≤ p) (hh : p ≤ 9223372036854775807) (w : World) :
    Calls Try.prog 18 #[.agg #[.int .i64 d, .int .i64 p], .int .i64 L, .int .i64 D] w fun e w' => e = .returned (.tuple #[.int .i64 (fGreatestDimension d p L D).1, .int .i64 (fGreatestDimension d p L D).2]) ∧ Below w.heap.size w w' := by
  cases hf : fldI d p with
  | false => rw [fGD_A hf]; exact implGreatestDimension_A d p hf hl hh L D w
  | true =>
    obtain ⟨m, P, rfl, rfl, hF⟩ := fldI_nat hf
    have hF := Fld.of hF
    by_cases h : (1 ≤ L ∧ L ≤ 5) ∧ 1 ≤ D
    · by_cases hz : L < D ∨ (m : Int) < D
      · rw [fGD_Z hF h hz]; exact implGreatestDimension_Z m P _ hF L D h.1.1 h.1.2 h.2 hz w
      · obtain ⟨L, rfl⟩ := Int.eq_ofNat_of_zero_le (by omega : 0 ≤ L)
        obtain ⟨D, rfl⟩ := Int.eq_ofNat_of_zero_le (by omega : 0 ≤ D)
        rw [fGD_C hF (by omega) (by omega)]; exact implGreatestDimension_C m P _ hF L D (by omega) (by omega) (by omega) (by omega) (by omega) w
    · rw [fGD_B hF h]; exact implGreatestDimension_B m P _ hF L D h w
end Go.Proofs.Ytejpjcdnhboooaa
