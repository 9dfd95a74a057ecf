/- Numbers of spaces by their distances: as numbers, the program's and the model's. -/
import Derived.Test.YtcdhdgflgdmhdaaIn
import Derived.Test.YtcdhdgflgdmhdaaGauss
namespace Go.Proofs.Ytcdhdgflgdmhdaa
open Go.RowKit
set_option linter.unusedVariables false

/-- The products of a Gaussian number: above and below. -/
def upX (n : Nat) : Nat → Nat
  | 0 => 1
  | i + 1 => upX n i * (2 ^ (n - i) - 1)
def dnX : Nat → Nat
  | 0 => 1
  | i + 1 => dnX i * (2 ^ (i + 1) - 1)
theorem udX_all : ∀ n : Fin 11, ∀ k : Fin 11, k.val ≤ n.val → upX n.val k.val / dnX k.val = gauss n.val k.val ∧ upX n.val k.val < 100000000000000000 ∧ dnX k.val < 100000000000000000 ∧ 0 < dnX k.val := by decide +kernel
theorem udX {n k : Nat} (hn : n ≤ 10) (hk : k ≤ n) : upX n k / dnX k = gauss n k ∧ upX n k < 100000000000000000 ∧ dnX k < 100000000000000000 ∧ 0 < dnX k := udX_all ⟨n, by omega⟩ ⟨k, by omega⟩ hk
theorem upX_all : ∀ n j : Fin 11, j.val < n.val → wrap64 ((upX n.val j.val : Nat) * wrap64 (wrap64 (2 ^ (n.val - j.val)) - 1)) = (upX n.val (j.val + 1) : Nat) ∧ wrap64 ((dnX j.val : Nat) * wrap64 (wrap64 (2 ^ (j.val + 1)) - 1)) = (dnX (j.val + 1) : Nat) := by decide +kernel
theorem upX_step {n j : Nat} (hn : n ≤ 10) (h : j < n) : wrap64 ((upX n j : Nat) * wrap64 (wrap64 (2 ^ (n - j)) - 1)) = (upX n (j + 1) : Nat) ∧ wrap64 ((dnX j : Nat) * wrap64 (wrap64 (2 ^ (j + 1)) - 1)) = (dnX (j + 1) : Nat) :=
  upX_all ⟨n, by omega⟩ ⟨j, by omega⟩ h

set_option maxHeartbeats 800000 in
theorem l04GaussX_any (n k : Nat) (hn : n ≤ 10) (hk : k ≤ n) (w : World) :
    Calls Try.prog 85 #[.int .i64 n, .int .i64 k] w fun e w' => e = .returned (.int .i64 (gauss n k : Nat)) ∧ w = w' := by
  go_enter Try.func85, Try.ntmps85
  go_wp2_with (go_at_call 78; refine (l00In_yes _ _ _ (by omega) (by omega) _).mono ?_; rintro e w' ⟨rfl, rfl⟩)
  go_loop [5, 6, 7] (fun u d i => ∃ j : Nat, j ≤ k ∧ i = .int .i64 j ∧ u = .int .i64 (upX n j : Nat) ∧ d = .int .i64 (dnX j : Nat)) (fun _ _ i => k - (intOf i).toNat)
  case atStart => exact ⟨0, Nat.zero_le _, rfl, rfl, rfl⟩
  case round =>
    obtain ⟨j, hj, rfl, rfl, rfl⟩ := hrel
    by_cases hlt : j < k
    · have HS := Lib.hid (upX_step hn (show j < n by omega))
      go_wp2
      go_round
      case rel => exact ⟨j + 1, by omega, by go_num, congrArg _ HS.out.1, congrArg _ HS.out.2⟩
      case measure => simp [intOf]; omega
    · obtain rfl : j = k := by omega
      obtain ⟨h1, h2, h3, h4⟩ := udX hn hk
      obtain ⟨u, hu⟩ : ∃ u, upX n j = u := ⟨_, rfl⟩
      obtain ⟨d, hd⟩ : ∃ d, dnX j = d := ⟨_, rfl⟩
      rw [hu, hd] at h1
      rw [hu] at h2 ⊢
      rw [hd] at h3 h4 ⊢
      have h5 : ¬ (d : Int) = 0 := by omega
      have HE := Lib.hid h1
      clear h1 hu hd
      go_wp2
      go_ret
      exact ⟨ret_int (by rw [← HE.out]; have h6 := Nat.div_le_self u d; have h7 : ((u / d : Nat) : Int) = (u : Int) / (d : Int) := Int.natCast_ediv u d; rw [← h7]; generalize u / d = q at h6 ⊢; unfold wrap64; omega), rfl⟩

/-- The number of spaces of the dimension k with n columns at the distance 2 * r from one of them. -/
def near (n k r : Nat) : Nat := if r ≤ k ∧ k + r ≤ n then gauss k r * gauss (n - k) r * 2 ^ (r * r) else 0
theorem near_no {n k r : Nat} (h : ¬ (r ≤ k ∧ k + r ≤ n)) : near n k r = 0 := if_neg h
theorem near_all : ∀ n k r : Fin 11, k.val ≤ n.val → near n.val k.val r.val < 4611686018427 ∧ (r.val ≤ k.val → k.val + r.val ≤ n.val → wrap64 (wrap64 ((gauss k.val r.val : Nat) * (gauss (n.val - k.val) r.val : Nat)) * 2 ^ (r.val * r.val)) = (near n.val k.val r.val : Nat) ∧ wrap64 (wrap64 (wrap64 (2 ^ (r.val * r.val)) * (gauss k.val r.val : Nat)) * (gauss (n.val - k.val) r.val : Nat)) = (near n.val k.val r.val : Nat)) := by decide +kernel
theorem near_at {n k r : Nat} (hn : n ≤ 10) (hk : k ≤ n) (h1 : r ≤ k) (h2 : k + r ≤ n) : wrap64 (wrap64 ((gauss k r : Nat) * (gauss (n - k) r : Nat)) * 2 ^ (r * r)) = (near n k r : Nat) ∧ wrap64 (wrap64 (wrap64 (2 ^ (r * r)) * (gauss k r : Nat)) * (gauss (n - k) r : Nat)) = (near n k r : Nat) :=
  (near_all ⟨n, by omega⟩ ⟨k, by omega⟩ ⟨r, by omega⟩ hk).2 h1 h2
/-- All spaces at a distance of less than 2 * h. -/
def ball (n k : Nat) : Nat → Nat
  | 0 => 0
  | h + 1 => ball n k h + near n k h
theorem ball_all : ∀ n k h : Fin 11, k.val ≤ n.val → ball n.val k.val h.val < 4611686018427 ∧ (0 < h.val → 0 < ball n.val k.val h.val) := by decide +kernel
theorem ball_at {n k h : Nat} (hn : n ≤ 10) (hk : k ≤ n) (hh : h ≤ 10) : ball n k h < 4611686018427 ∧ (0 < h → 0 < ball n k h) := ball_all ⟨n, by omega⟩ ⟨k, by omega⟩ ⟨h, by omega⟩ hk

set_option maxHeartbeats 800000 in
theorem l06Near_any (n k r : Nat) (hn : n ≤ 10) (hk : k ≤ n) (w : World) :
    Calls Try.prog 46 #[.int .i64 n, .int .i64 k, .int .i64 r] w fun e w' => e = .returned (.int .i64 (near n k r : Nat)) ∧ w = w' := by
  by_cases h : r ≤ k ∧ k + r ≤ n
  · obtain ⟨h1, h2⟩ := h
    have HE := Lib.hid (near_at hn hk h1 h2).2
    have hsub : (n : Int) - (k : Int) = ((n - k : Nat) : Int) := by omega
    have hr0 : 0 ≤ (r : Int) * (r : Int) := Int.mul_nonneg (by omega) (by omega)
    have hr1 : (r : Int) * (r : Int) ≤ 25 := by
      have hr5 : r ≤ 5 := by omega
      have h6 : r * r ≤ 5 * 5 := Nat.mul_le_mul hr5 hr5
      have h7 : ((r * r : Nat) : Int) = (r : Int) * (r : Int) := Int.natCast_mul r r
      omega
    go_enter Try.func46, Try.ntmps46
    go_wp2_with (go_at_call 85; first | (with_reducible refine (l04GaussX_any k r (by omega) (by omega) _).mono ?_; rintro e w' ⟨rfl, rfl⟩) | (first | rw [hsub] | skip; refine (l04GaussX_any (n - k) r (by omega) (by omega) _).mono ?_; rintro e w' ⟨rfl, rfl⟩))
    go_ret
    exact ⟨ret_int HE.out, rfl⟩
  · rw [near_no h]
    by_cases h1 : r ≤ k
    all_goals
      go_enter Try.func46, Try.ntmps46
      go_wp2_with fail
      go_ret
      exact ⟨rfl, rfl⟩

set_option maxHeartbeats 800000 in
theorem countNear_any (n k r : Nat) (hn : n ≤ 10) (hk : k ≤ n) (w : World) :
    Calls Try.prog 48 #[.int .i64 n, .int .i64 k, .int .i64 r] w fun e w' => e = .returned (.int .i64 (near n k r : Nat)) ∧ w = w' := by
  by_cases h : r ≤ k ∧ k + r ≤ n
  · obtain ⟨h1, h2⟩ := h
    have HE := Lib.hid (near_at hn hk h1 h2).1
    have hsub : (n : Int) - (k : Int) = ((n - k : Nat) : Int) := by omega
    have hr0 : 0 ≤ (r : Int) * (r : Int) := Int.mul_nonneg (by omega) (by omega)
    have hr1 : (r : Int) * (r : Int) ≤ 25 := by
      have hr5 : r ≤ 5 := by omega
      have h6 : r * r ≤ 5 * 5 := Nat.mul_le_mul hr5 hr5
      have h7 : ((r * r : Nat) : Int) = (r : Int) * (r : Int) := Int.natCast_mul r r
      omega
    by_cases hmi : (n : Int) - (k : Int) < (k : Int)
    all_goals
      go_enter Try.func48, Try.ntmps48
      go_wp2_with (go_at_call 86; first | (with_reducible refine (countSpaces_any k r (by omega) (by omega) _).mono ?_; rintro e w' ⟨rfl, rfl⟩) | (first | rw [hsub] | skip; refine (countSpaces_any (n - k) r (by omega) (by omega) _).mono ?_; rintro e w' ⟨rfl, rfl⟩))
      go_ret
      exact ⟨ret_int HE.out, rfl⟩
  · rw [near_no h]
    by_cases hmi : (n : Int) - (k : Int) < (k : Int)
    all_goals
      go_enter Try.func48, Try.ntmps48
      go_wp2_with fail
      go_ret
      exact ⟨rfl, rfl⟩
end Go.Proofs.Ytcdhdgflgdmhdaa
