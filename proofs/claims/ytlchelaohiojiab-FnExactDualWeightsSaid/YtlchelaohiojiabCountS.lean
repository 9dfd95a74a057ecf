/- The number of spaces: as numbers, and the program's. -/
import Derived.Test.YtlchelaohiojiabIn
namespace Go.Proofs.Ytlchelaohiojiab
open Go.RowKit
set_option linter.unusedVariables false

/-- The number of spaces of the dimension k with n columns. -/
def gauss : Nat → Nat → Nat
  | 0, _ => 1
  | n + 1, k => if k = 0 ∨ k = n + 1 then 1 else gauss n (k - 1) + gauss n k * 2 ^ k
theorem gauss_small : ∀ n : Fin 11, ∀ k : Fin 11, k.val ≤ n.val → gauss n.val k.val < 4611686018427 := by decide +kernel
theorem gauss_lt {n k : Nat} (hn : n ≤ 10) (hk : k ≤ n) : gauss n k < 4611686018427 := gauss_small ⟨n, by omega⟩ ⟨k, by omega⟩ hk
theorem gauss_edge {n k : Nat} (h : k = 0 ∨ k = n) : gauss n k = 1 := by
  cases n with
  | zero => rfl
  | succ n => rw [gauss, if_pos h]
theorem gauss_step {n k : Nat} (h0 : 0 < k) (h : k < n) : gauss n k = gauss (n - 1) (k - 1) + gauss (n - 1) k * 2 ^ k := by
  cases n with
  | zero => omega
  | succ n => rw [gauss, if_neg (by omega)]; rfl

set_option maxHeartbeats 800000 in
theorem countSpaces_any : ∀ (n k : Nat), n ≤ 10 → k ≤ n → ∀ (w : World),
    Calls Try.prog 15 #[.int .i64 n, .int .i64 k] w fun e w' => e = .returned (.int .i64 (gauss n k : Nat)) ∧ w = w' := by
  intro n
  induction n with
  | zero =>
    intro k hn hk w
    obtain rfl : k = 0 := by omega
    go_enter Try.func15, Try.ntmps15
    go_wp2_with fail
    go_ret
    exact ⟨rfl, rfl⟩
  | succ n ih =>
    intro k hn hk w
    by_cases he : k = 0 ∨ k = n + 1
    · have hg := gauss_edge (n := n + 1) he
      have HG := Lib.hid hg
      clear hg
      rcases he with rfl | rfl
      · go_enter Try.func15, Try.ntmps15
        go_wp2_with fail
        go_ret
        exact ⟨ret_int (by rw [HG.out]; rfl), rfl⟩
      · go_enter Try.func15, Try.ntmps15
        go_wp2_with fail
        go_ret
        exact ⟨ret_int (by rw [HG.out]; rfl), rfl⟩
    · have hs := gauss_step (n := n + 1) (k := k) (by omega) (by omega)
      have h1 := gauss_lt (n := n) (k := k - 1) (by omega) (by omega)
      have h2 := gauss_lt (n := n) (k := k) (by omega) (by omega)
      have hp : 2 ^ k ≤ 1024 := Nat.pow_le_pow_right (n := 2) (by omega) (show k ≤ 10 by omega)
      obtain ⟨m, rfl⟩ : ∃ m, k = m + 1 := ⟨k - 1, by omega⟩
      have hmn : m + 1 ≤ n := by omega
      have hk0 : ((m : Int) + 1 == 0) = false := by simp; omega
      have hk1 : ((m : Int) + 1 == (n : Int) + 1) = false := by simp; omega
      simp only [Nat.add_sub_cancel] at hs h1
      generalize gauss (n + 1) (m + 1) = g at hs ⊢
      obtain ⟨x, hx⟩ : ∃ x, gauss n m = x := ⟨_, rfl⟩
      obtain ⟨y, hy⟩ : ∃ y, gauss n (m + 1) = y := ⟨_, rfl⟩
      rw [hx, hy] at hs
      rw [hx] at h1
      rw [hy] at h2
      have hm : y * 2 ^ (m + 1) < 4611686018427387904 := Nat.lt_of_le_of_lt (Nat.mul_le_mul_left y hp) (by omega)
      have hm2 : y * 2 ^ (m + 1) ≤ 4722366482869248 := Nat.le_trans (Nat.mul_le_mul_left y hp) (by omega)
      have HS := Lib.hid hs
      have HX := Lib.hid hx
      have HY := Lib.hid hy
      have HM := Lib.hid hm
      have HM2 := Lib.hid hm2
      clear hs hx hy hm hm2 hp he
      go_enter Try.func15, Try.ntmps15
      go_wp2_with fail
      refine (ih m (by omega) (by omega) _).mono ?_
      rw [HX.out]
      rintro e w1 ⟨rfl, rfl⟩
      go_wp2_with fail
      refine (ih (m + 1) (by omega) (by omega) _).mono ?_
      rw [HY.out]
      rintro e w1 ⟨rfl, rfl⟩
      go_wp2_with fail
      go_ret
      exact ⟨ret_int (by
        rw [shl_nat y (m + 1) HM.out, HS.out]
        have hm2 := HM2.out
        generalize y * 2 ^ (m + 1) = z at hm2 ⊢
        unfold wrap64; omega), rfl⟩
end Go.Proofs.Ytlchelaohiojiab
