/- GaussNumber: the program and the model. -/
import Derived.Test.YtcdhdgflgdmhdaaIn
import Derived.Test.YtcdhdgflgdmhdaaCountS
namespace Go.Proofs.Ytcdhdgflgdmhdaa
open Go.RowKit
set_option linter.unusedVariables false

def fGaussNumber (n k : Int) : Int × Int := if 1 ≤ n ∧ n ≤ 10 ∧ 0 ≤ k ∧ k ≤ n then (((gauss n.toNat k.toNat : Nat) : Int), 0) else (0, 2)

set_option maxHeartbeats 800000 in
theorem l02Gauss_any : ∀ (n k : Nat), n ≤ 10 → k ≤ n → ∀ (w : World),
    Calls Try.prog 50 #[.int .i64 n, .int .i64 k] w fun e w' => e = .returned (.int .i64 (gauss n k : Nat)) ∧ w = w' := by
  intro n
  induction n with
  | zero =>
    intro k hn hk w
    obtain rfl : k = 0 := by omega
    go_enter Try.func50, Try.ntmps50
    go_wp2_with fail
    go_ret
    exact ⟨rfl, rfl⟩
  | succ n ih =>
    intro k hn hk w
    by_cases he : k = 0 ∨ k = n + 1
    · have hg := gauss_edge (n := n + 1) he
      have HG := Lib.hid hg
      clear hg
      rcases he with rfl | rfl
      · go_enter Try.func50, Try.ntmps50
        go_wp2_with fail
        go_ret
        exact ⟨ret_int (by rw [HG.out]; rfl), rfl⟩
      · go_enter Try.func50, Try.ntmps50
        go_wp2_with fail
        go_ret
        exact ⟨ret_int (by rw [HG.out]; rfl), rfl⟩
    · have hs := gauss_step (n := n + 1) (k := k) (by omega) (by omega)
      have h1 := gauss_lt (n := n) (k := k - 1) (by omega) (by omega)
      have h2 := gauss_lt (n := n) (k := k) (by omega) (by omega)
      have hp : 2 ^ k ≤ 1024 := Nat.pow_le_pow_right (n := 2) (by omega) (show k ≤ 10 by omega)
      obtain ⟨m, rfl⟩ : ∃ m, k = m + 1 := ⟨k - 1, by omega⟩
      have hmn : m + 1 ≤ n := by omega
      have hk0 : ((m : Int) + 1 == 0) = false := by simp; omega
      have hk1 : ((m : Int) + 1 == (n : Int) + 1) = false := by simp; omega
      simp only [Nat.add_sub_cancel] at hs h1
      generalize gauss (n + 1) (m + 1) = g at hs ⊢
      obtain ⟨x, hx⟩ : ∃ x, gauss n m = x := ⟨_, rfl⟩
      obtain ⟨y, hy⟩ : ∃ y, gauss n (m + 1) = y := ⟨_, rfl⟩
      rw [hx, hy] at hs
      rw [hx] at h1
      rw [hy] at h2
      have hm : y * 2 ^ (m + 1) < 4611686018427387904 := Nat.lt_of_le_of_lt (Nat.mul_le_mul_left y hp) (by omega)
      have hm2 : y * 2 ^ (m + 1) ≤ 4722366482869248 := Nat.le_trans (Nat.mul_le_mul_left y hp) (by omega)
      have HS := Lib.hid hs
      have HX := Lib.hid hx
      have HY := Lib.hid hy
      have HM := Lib.hid hm
      have HM2 := Lib.hid hm2
      clear hs hx hy hm hm2 hp he
      go_enter Try.func50, Try.ntmps50
      go_wp2_with fail
      refine (ih m (by omega) (by omega) _).mono ?_
      rw [HX.out]
      rintro e w1 ⟨rfl, rfl⟩
      go_wp2_with fail
      refine (ih (m + 1) (by omega) (by omega) _).mono ?_
      rw [HY.out]
      rintro e w1 ⟨rfl, rfl⟩
      go_wp2_with fail
      go_ret
      exact ⟨ret_int (by
        rw [shl_nat y (m + 1) HM.out, HS.out]
        have hm2 := HM2.out
        generalize y * 2 ^ (m + 1) = z at hm2 ⊢
        unfold wrap64; omega), rfl⟩

theorem fGauss_yes {n k : Nat} (h1 : 1 ≤ n) (h2 : n ≤ 10) (h3 : k ≤ n) : fGaussNumber n k = (((gauss n k : Nat) : Int), 0) := by
  rw [fGaussNumber, if_pos (by omega)]; rfl
theorem fGauss_no {n k : Int} (h : ¬ (1 ≤ n ∧ n ≤ 10 ∧ 0 ≤ k ∧ k ≤ n)) : fGaussNumber n k = (0, 2) := if_neg h


set_option maxHeartbeats 800000 in
theorem implGaussNumber_any (n k : Int) (w : World) :
    Calls Try.prog 47 #[.int .i64 n, .int .i64 k] w fun e w' => e = .returned (.tuple #[.int .i64 (fGaussNumber n k).1, .int .i64 (fGaussNumber n k).2]) ∧ w = w' := by
  by_cases h1 : 1 ≤ n ∧ n ≤ 10 ∧ 0 ≤ k ∧ k ≤ n
  · obtain ⟨N, rfl⟩ : ∃ N : Nat, n = N := ⟨n.toNat, by omega⟩
    obtain ⟨K, rfl⟩ : ∃ K : Nat, k = K := ⟨k.toNat, by omega⟩
    rw [fGauss_yes (by omega) (by omega) (by omega)]
    obtain ⟨g, hg⟩ : ∃ g, gauss N K = g := ⟨_, rfl⟩
    have HG := Lib.hid hg
    rw [hg]
    clear hg
    have e1 : ¬ (N : Int) < 1 := by omega
    have e2 : ¬ (10 : Int) < N := by omega
    have e3 : ¬ (K : Int) < 0 := by omega
    have e4 : ¬ (N : Int) < K := by omega
    go_enter Try.func47, Try.ntmps47
    go_wp2_with (go_at_call 86; refine (countSpaces_any N K (by omega) (by omega) _).mono ?_; rw [HG.out]; rintro e w1 ⟨rfl, rfl⟩)
    all_goals first
      | (go_ret2; exact ⟨rfl, rfl⟩)
      | (exfalso; omega)
  · rw [fGauss_no h1]
    go_enter Try.func47, Try.ntmps47
    go_wp2_with fail
    all_goals first
      | (go_ret2; exact ⟨rfl, rfl⟩)
      | (exfalso; omega)
end Go.Proofs.Ytcdhdgflgdmhdaa
