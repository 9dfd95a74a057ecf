/- CountNear, PackingBound, DesignBound: the program and the model. -/
import Derived.Test.YtcdhdgflgdmhdaaNear
namespace Go.Proofs.Ytcdhdgflgdmhdaa
open Go.RowKit
set_option linter.unusedVariables false

def fCountNear (n k r : Int) : Int × Int := if 1 ≤ n ∧ n ≤ 10 ∧ 0 ≤ k ∧ k ≤ n ∧ 0 ≤ r then (((near n.toNat k.toNat r.toNat : Nat) : Int), 0) else (0, 2)
theorem fCountNear_yes {n k r : Nat} (h1 : 1 ≤ n) (h2 : n ≤ 10) (h3 : k ≤ n) : fCountNear n k r = (((near n k r : Nat) : Int), 0) := by
  rw [fCountNear, if_pos (by omega)]; rfl
theorem fCountNear_no {n k r : Int} (h : ¬ (1 ≤ n ∧ n ≤ 10 ∧ 0 ≤ k ∧ k ≤ n ∧ 0 ≤ r)) : fCountNear n k r = (0, 2) := if_neg h

set_option maxHeartbeats 800000 in
theorem l06Side_any (n k : Int) (r : Bool) (hr : decide (1 ≤ n ∧ n ≤ 10 ∧ 0 ≤ k ∧ k ≤ n) = r) (w : World) :
    Calls Try.prog 45 #[.int .i64 n, .int .i64 k] w fun e w' => e = .returned (.bool r) ∧ w = w' := by
  by_cases h1 : 1 ≤ n ∧ n ≤ 10
  · obtain ⟨h1, h1'⟩ := h1
    by_cases h2 : 0 ≤ k ∧ k ≤ n
    · obtain ⟨h2, h2'⟩ := h2
      obtain rfl : r = true := by rw [← hr]; simp; omega
      clear hr
      go_enter Try.func45, Try.ntmps45
      go_wp2_with (go_at_call 78; refine (l00In_yes _ _ _ (by omega) (by omega) _).mono ?_; rintro e w' ⟨rfl, rfl⟩)
      go_ret
      exact ⟨rfl, rfl⟩
    · obtain rfl : r = false := by rw [← hr]; simp; omega
      have h3 : k < 0 ∨ n < k := by omega
      clear hr h2
      go_enter Try.func45, Try.ntmps45
      go_wp2_with (go_at_call 78; first | (with_reducible refine (l00In_no k 0 n h3 _).mono ?_; rintro e w' ⟨rfl, rfl⟩) | (with_reducible refine (l00In_yes n 1 10 (by omega) (by omega) _).mono ?_; rintro e w' ⟨rfl, rfl⟩))
      go_ret
      exact ⟨rfl, rfl⟩
  · obtain rfl : r = false := by rw [← hr]; simp; omega
    have h3 : n < 1 ∨ 10 < n := by omega
    clear hr h1
    go_enter Try.func45, Try.ntmps45
    go_wp2_with (go_at_call 78; refine (l00In_no n 1 10 h3 _).mono ?_; rintro e w' ⟨rfl, rfl⟩)
    go_ret
    exact ⟨rfl, rfl⟩

set_option maxHeartbeats 800000 in
theorem specCountNear_any (n k r : Int) (w : World) :
    Calls Try.prog 12 #[.int .i64 n, .int .i64 k, .int .i64 r] w fun e w' => e = .returned (.tuple #[.int .i64 (fCountNear n k r).1, .int .i64 (fCountNear n k r).2]) ∧ w = w' := by
  by_cases h1 : 1 ≤ n ∧ n ≤ 10 ∧ 0 ≤ k ∧ k ≤ n
  · have HS := Lib.hid (fun w => l06Side_any n k true (by simp; omega) w)
    by_cases h2 : 0 ≤ r
    · obtain ⟨N, rfl⟩ := Int.eq_ofNat_of_zero_le (by omega : 0 ≤ n)
      obtain ⟨K, rfl⟩ := Int.eq_ofNat_of_zero_le (by omega : 0 ≤ k)
      obtain ⟨R, rfl⟩ := Int.eq_ofNat_of_zero_le h2
      rw [fCountNear_yes (by omega) (by omega) (by omega)]
      have HN := Lib.hid (fun w => l06Near_any N K R (by omega) (by omega) w)
      generalize near N K R = g at HN ⊢
      go_enter Try.func12, Try.ntmps12
      go_wp2_with (first | (go_at_call 45; refine (HS.out _).mono ?_; rintro e w' ⟨rfl, rfl⟩) | (go_at_call 46; refine (HN.out _).mono ?_; rintro e w1 ⟨rfl, rfl⟩))
      go_ret2
      exact ⟨rfl, rfl⟩
    · rw [fCountNear_no (by omega)]
      go_enter Try.func12, Try.ntmps12
      go_wp2_with (go_at_call 45; refine (HS.out _).mono ?_; rintro e w' ⟨rfl, rfl⟩)
      go_ret2
      exact ⟨rfl, rfl⟩
  · rw [fCountNear_no (by omega)]
    have HS := Lib.hid (fun w => l06Side_any n k false (by simp; omega) w)
    go_enter Try.func12, Try.ntmps12
    go_wp2_with (go_at_call 45; refine (HS.out _).mono ?_; rintro e w' ⟨rfl, rfl⟩)
    go_ret2
    exact ⟨rfl, rfl⟩

set_option maxHeartbeats 800000 in
theorem implCountNear_any (n k r : Int) (w : World) :
    Calls Try.prog 13 #[.int .i64 n, .int .i64 k, .int .i64 r] w fun e w' => e = .returned (.tuple #[.int .i64 (fCountNear n k r).1, .int .i64 (fCountNear n k r).2]) ∧ Below w.heap.size w w' := by
  by_cases h1 : 1 ≤ n ∧ n ≤ 10 ∧ 0 ≤ k ∧ k ≤ n
  · obtain ⟨N, rfl⟩ := Int.eq_ofNat_of_zero_le (by omega : 0 ≤ n)
    obtain ⟨K, rfl⟩ := Int.eq_ofNat_of_zero_le (by omega : 0 ≤ k)
    have HS := fun w => implGaussNumber_any N K w
    rw [fGauss_yes (by omega) (by omega) (by omega)] at HS
    generalize gauss N K = g0 at HS
    replace HS := Lib.hid HS
    by_cases h2 : 0 ≤ r
    · obtain ⟨R, rfl⟩ := Int.eq_ofNat_of_zero_le h2
      rw [fCountNear_yes (by omega) (by omega) (by omega)]
      have HN := Lib.hid (fun w => countNear_any N K R (by omega) (by omega) w)
      generalize near N K R = g at HN ⊢
      go_enter Try.func13, Try.ntmps13
      go_wp2_with (first | (go_at_call 47; refine (HS.out _).mono ?_; rintro e w' ⟨rfl, rfl⟩) | (go_at_call 48; refine (HN.out _).mono ?_; rintro e w1 ⟨rfl, rfl⟩))
      go_ret2
      exact ⟨rfl, Below.refl _ _⟩
    · rw [fCountNear_no (by omega)]
      go_enter Try.func13, Try.ntmps13
      go_wp2_with (go_at_call 47; refine (HS.out _).mono ?_; rintro e w' ⟨rfl, rfl⟩)
      go_ret2
      exact ⟨rfl, Below.refl _ _⟩
  · rw [fCountNear_no (by omega)]
    have HS := fun w => implGaussNumber_any n k w
    rw [fGauss_no h1] at HS
    replace HS := Lib.hid HS
    go_enter Try.func13, Try.ntmps13
    go_wp2_with (go_at_call 47; refine (HS.out _).mono ?_; rintro e w' ⟨rfl, rfl⟩)
    go_ret2
    exact ⟨rfl, Below.refl _ _⟩

/-- What can be asked of a least distance. -/
def okD (n k d : Int) : Bool := decide (1 ≤ n ∧ n ≤ 10 ∧ 0 ≤ k ∧ k ≤ n ∧ 2 ≤ d ∧ d ≤ 2 * k ∧ d % 2 = 0)
theorem okD_yes {n k d : Int} (h : okD n k d = true) : ∃ (N K H : Nat), n = N ∧ k = K ∧ d = 2 * (H : Int) ∧ 1 ≤ N ∧ N ≤ 10 ∧ K ≤ N ∧ 1 ≤ H ∧ H ≤ K := by
  simp only [okD, decide_eq_true_eq] at h
  exact ⟨n.toNat, k.toNat, (d / 2).toNat, by omega, by omega, by omega, by omega, by omega, by omega, by omega, by omega⟩
theorem okD_nat {N K H : Nat} (h1 : 1 ≤ N) (h2 : N ≤ 10) (h3 : K ≤ N) (h4 : 1 ≤ H) (h5 : H ≤ K) : okD N K (2 * (H : Int)) = true := by
  simp only [okD, decide_eq_true_eq]; omega
theorem okD_no {n k d : Int} (h : okD n k d = false) : (1 ≤ n ∧ n ≤ 10 ∧ 0 ≤ k ∧ k ≤ n) → d % 2 = 0 → d < 2 ∨ 2 * k < d := by
  simp only [okD, decide_eq_false_iff_not] at h
  intro h1 h2; omega

set_option maxHeartbeats 800000 in
theorem l06Distance_any (n k d : Int) (r : Bool) (hr : okD n k d = r) (w : World) :
    Calls Try.prog 49 #[.int .i64 n, .int .i64 k, .int .i64 d] w fun e w' => e = .returned (.bool r) ∧ w = w' := by
  by_cases h1 : 1 ≤ n ∧ n ≤ 10 ∧ 0 ≤ k ∧ k ≤ n
  · have HS := Lib.hid (fun w => l06Side_any n k true (by simp; omega) w)
    by_cases h2 : 2 ≤ d ∧ d ≤ 2 * k
    · obtain ⟨h2, h3⟩ := h2
      have hr' : r = decide (d % 2 = 0) := by
        rw [← hr, okD]
        exact decide_eq_decide.2 ⟨fun h => h.2.2.2.2.2.2, fun h => ⟨h1.1, h1.2.1, h1.2.2.1, h1.2.2.2, h2, h3, h⟩⟩
      have ht : Int.tmod d 2 = d % 2 := Int.tmod_eq_emod_of_nonneg (by omega)
      have HR := Lib.hid hr'
      have HT := Lib.hid ht
      clear hr hr' ht
      go_enter Try.func49, Try.ntmps49
      go_wp2_with (first | (go_at_call 45; refine (HS.out _).mono ?_; rintro e w' ⟨rfl, rfl⟩) | (go_at_call 78; refine (l00In_yes _ _ _ (by omega) (by omega) _).mono ?_; rintro e w' ⟨rfl, rfl⟩))
      go_ret
      exact ⟨ret_bool (by rw [HR.out]; first | rfl | (rw [← HT.out]; rfl) | (apply Bool.eq_iff_iff.2; simp; have := HT.out; omega)), rfl⟩
    · obtain rfl : r = false := by rw [← hr, okD]; simp only [decide_eq_false_iff_not]; omega
      have h3 : d < 2 ∨ 2 * k < d := by omega
      clear hr h2
      go_enter Try.func49, Try.ntmps49
      go_wp2_with (first | (go_at_call 45; refine (HS.out _).mono ?_; rintro e w' ⟨rfl, rfl⟩) | (go_at_call 78; refine (l00In_no _ _ _ (by omega) _).mono ?_; rintro e w' ⟨rfl, rfl⟩))
      go_ret
      exact ⟨rfl, rfl⟩
  · obtain rfl : r = false := by rw [← hr, okD]; simp only [decide_eq_false_iff_not]; omega
    have HS := Lib.hid (fun w => l06Side_any n k false (by simp; omega) w)
    clear hr h1
    go_enter Try.func49, Try.ntmps49
    go_wp2_with (go_at_call 45; refine (HS.out _).mono ?_; rintro e w' ⟨rfl, rfl⟩)
    go_ret
    exact ⟨rfl, rfl⟩

set_option maxHeartbeats 800000 in
theorem isSpaceDistance_any (n k d : Int) (r : Bool) (hr : okD n k d = r) (w : World) :
    Calls Try.prog 87 #[.int .i64 n, .int .i64 k, .int .i64 d] w fun e w' => e = .returned (.bool r) ∧ w = w' := by
  by_cases h1 : 1 ≤ n ∧ n ≤ 10 ∧ 0 ≤ k ∧ k ≤ n
  · obtain ⟨N, rfl⟩ := Int.eq_ofNat_of_zero_le (by omega : 0 ≤ n)
    obtain ⟨K, rfl⟩ := Int.eq_ofNat_of_zero_le (by omega : 0 ≤ k)
    have HS := fun w => implGaussNumber_any N K w
    rw [fGauss_yes (by omega) (by omega) (by omega)] at HS
    generalize gauss N K = g0 at HS
    replace HS := Lib.hid HS
    by_cases h2 : 2 ≤ d
    · by_cases h3 : d ≤ 2 * (K : Int)
      · have hr' : r = decide (d % 2 = 0) := by
          rw [← hr, okD]
          exact decide_eq_decide.2 ⟨fun h => h.2.2.2.2.2.2, fun h => ⟨h1.1, h1.2.1, h1.2.2.1, h1.2.2.2, h2, h3, h⟩⟩
        have ht : Int.tmod d 2 = d % 2 := Int.tmod_eq_emod_of_nonneg (by omega)
        by_cases h4 : d % 2 = 0
        · have h5 : Int.tmod d 2 = 0 := by rw [ht]; exact h4
          obtain rfl : r = true := by rw [hr']; simp; exact h4
          clear hr hr' ht
          go_enter Try.func87, Try.ntmps87
          go_wp2_with (go_at_call 47; refine (HS.out _).mono ?_; rintro e w' ⟨rfl, rfl⟩)
          go_ret
          exact ⟨ret_bool (by first | rfl | simp [h4] | (simp; omega) | simp [h5] | (simp [h5]; omega)), rfl⟩
        · have h5 : ¬ Int.tmod d 2 = 0 := by rw [ht]; exact h4
          obtain rfl : r = false := by rw [hr']; simp; omega
          clear hr hr' ht
          go_enter Try.func87, Try.ntmps87
          go_wp2_with (go_at_call 47; refine (HS.out _).mono ?_; rintro e w' ⟨rfl, rfl⟩)
          go_ret
          exact ⟨ret_bool (by first | rfl | simp [h4] | (simp; omega) | simp [h5] | (simp [h5]; omega)), rfl⟩
      · obtain rfl : r = false := by rw [← hr, okD]; simp only [decide_eq_false_iff_not]; omega
        clear hr
        go_enter Try.func87, Try.ntmps87
        go_wp2_with (go_at_call 47; refine (HS.out _).mono ?_; rintro e w' ⟨rfl, rfl⟩)
        all_goals
          go_ret
          exact ⟨ret_bool (by first | rfl | simp [h3] | (simp; omega)), rfl⟩
    · obtain rfl : r = false := by rw [← hr, okD]; simp only [decide_eq_false_iff_not]; omega
      clear hr
      go_enter Try.func87, Try.ntmps87
      go_wp2_with (go_at_call 47; refine (HS.out _).mono ?_; rintro e w' ⟨rfl, rfl⟩)
      all_goals
        go_ret
        exact ⟨ret_bool (by first | rfl | simp [h2] | (simp; omega)), rfl⟩
  · obtain rfl : r = false := by rw [← hr, okD]; simp only [decide_eq_false_iff_not]; omega
    have HS := fun w => implGaussNumber_any n k w
    rw [fGauss_no h1] at HS
    replace HS := Lib.hid HS
    clear hr h1
    go_enter Try.func87, Try.ntmps87
    go_wp2_with (go_at_call 47; refine (HS.out _).mono ?_; rintro e w' ⟨rfl, rfl⟩)
    go_ret
    exact ⟨rfl, rfl⟩
end Go.Proofs.Ytcdhdgflgdmhdaa
