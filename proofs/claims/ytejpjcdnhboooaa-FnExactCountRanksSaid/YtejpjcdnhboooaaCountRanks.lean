/- CountRanks: the program and the model. -/
import Derived.Test.YtejpjcdnhboooaaIn
import Derived.Test.YtejpjcdnhboooaaCountS
import Derived.Test.YtejpjcdnhboooaaLength
namespace Go.Proofs.Ytejpjcdnhboooaa
open Go.RowKit
set_option linter.unusedVariables false

/-- The products of a Gaussian number: above and below. -/
def upP (n : Nat) : Nat → Nat
  | 0 => 1
  | i + 1 => upP n i * (2 ^ (n - i) - 1)
def dnP : Nat → Nat
  | 0 => 1
  | i + 1 => dnP i * (2 ^ (i + 1) - 1)
/-- The number of coordinates of a rank. -/
def wid (r : Nat) : Nat → Nat
  | 0 => 1
  | i + 1 => wid r i * (2 ^ r - 2 ^ i)
theorem ud_all : ∀ n : Fin 6, ∀ k : Fin 6, k.val ≤ n.val → upP n.val k.val / dnP k.val = gauss n.val k.val ∧ upP n.val k.val < 10000 ∧ dnP k.val < 10000 ∧ 0 < dnP k.val := by decide +kernel
theorem ud {n k : Nat} (hn : n ≤ 5) (hk : k ≤ n) : upP n k / dnP k = gauss n k ∧ upP n k < 10000 ∧ dnP k < 10000 ∧ 0 < dnP k := ud_all ⟨n, by omega⟩ ⟨k, by omega⟩ hk
theorem wid_all : ∀ r c k i : Fin 6, k.val ≤ r.val → k.val ≤ c.val → i.val ≤ k.val → gauss c.val k.val * wid r.val k.val = gauss r.val k.val * wid c.val k.val ∧ gauss c.val k.val * wid r.val i.val < 1000000000 ∧ gauss r.val k.val * wid c.val i.val < 1000000000 := by decide +kernel
theorem wid_at {r c k i : Nat} (hr : r ≤ 5) (hc : c ≤ 5) (h1 : k ≤ r) (h2 : k ≤ c) (hi : i ≤ k) : gauss c k * wid r k = gauss r k * wid c k ∧ gauss c k * wid r i < 1000000000 ∧ gauss r k * wid c i < 1000000000 :=
  wid_all ⟨r, by omega⟩ ⟨c, by omega⟩ ⟨k, by omega⟩ ⟨i, by omega⟩ h1 h2 hi
theorem pow_le5 {k : Nat} (h : k ≤ 5) : 2 ^ k ≤ 32 := Nat.pow_le_pow_right (n := 2) (by omega) h

theorem up_all : ∀ n j : Fin 6, j.val < n.val → wrap64 ((upP n.val j.val : Nat) * wrap64 (wrap64 (2 ^ (n.val - j.val)) - 1)) = (upP n.val (j.val + 1) : Nat) ∧ wrap64 ((dnP j.val : Nat) * wrap64 (wrap64 (2 ^ (j.val + 1)) - 1)) = (dnP (j.val + 1) : Nat) := by decide +kernel
theorem up_step {n j : Nat} (hn : n ≤ 5) (h : j < n) : wrap64 ((upP n j : Nat) * wrap64 (wrap64 (2 ^ (n - j)) - 1)) = (upP n (j + 1) : Nat) ∧ wrap64 ((dnP j : Nat) * wrap64 (wrap64 (2 ^ (j + 1)) - 1)) = (dnP (j + 1) : Nat) :=
  up_all ⟨n, by omega⟩ ⟨j, by omega⟩ h
set_option maxHeartbeats 800000 in
theorem l04Gauss_any (n k : Nat) (hn : n ≤ 5) (hk : k ≤ n) (w : World) :
    Calls Try.prog 52 #[.int .i64 n, .int .i64 k] w fun e w' => e = .returned (.int .i64 (gauss n k : Nat)) ∧ w = w' := by
  go_enter Try.func52, Try.ntmps52
  go_wp2_with (go_at_call 48; refine (l00In_yes _ _ _ (by omega) (by omega) _).mono ?_; rintro e w' ⟨rfl, rfl⟩)
  go_loop [5, 6, 7] (fun u d i => ∃ j : Nat, j ≤ k ∧ i = .int .i64 j ∧ u = .int .i64 (upP n j : Nat) ∧ d = .int .i64 (dnP j : Nat)) (fun _ _ i => k - (intOf i).toNat)
  case atStart => exact ⟨0, Nat.zero_le _, rfl, rfl, rfl⟩
  case round =>
    obtain ⟨j, hj, rfl, rfl, rfl⟩ := hrel
    by_cases hlt : j < k
    · have HS := Lib.hid (up_step hn (show j < n by omega))
      go_wp2
      go_round
      case rel => exact ⟨j + 1, by omega, by go_num, congrArg _ HS.out.1, congrArg _ HS.out.2⟩
      case measure => simp [intOf]; omega
    · obtain rfl : j = k := by omega
      obtain ⟨h1, h2, h3, h4⟩ := ud hn hk
      obtain ⟨u, hu⟩ : ∃ u, upP n j = u := ⟨_, rfl⟩
      obtain ⟨d, hd⟩ : ∃ d, dnP j = d := ⟨_, rfl⟩
      rw [hu, hd] at h1
      rw [hu] at h2 ⊢
      rw [hd] at h3 h4 ⊢
      have h5 : ¬ (d : Int) = 0 := by omega
      have HE := Lib.hid h1
      clear h1 hu hd
      go_wp2
      go_ret
      exact ⟨ret_int (by rw [← HE.out]; have h6 := Nat.div_le_self u d; have h7 : ((u / d : Nat) : Int) = (u : Int) / (d : Int) := Int.natCast_ediv u d; rw [← h7]; generalize u / d = q at h6 ⊢; unfold wrap64; omega), rfl⟩

theorem w1_all : ∀ r c k i : Fin 6, k.val ≤ r.val → k.val ≤ c.val → i.val < k.val → wrap64 (((gauss c.val k.val * wid r.val i.val : Nat) : Int) * wrap64 (wrap64 (2 ^ r.val) - wrap64 (2 ^ i.val))) = ((gauss c.val k.val * wid r.val (i.val + 1) : Nat) : Int) := by decide +kernel
theorem w_step {r c k i : Nat} (hr : r ≤ 5) (hc : c ≤ 5) (h1 : k ≤ r) (h2 : k ≤ c) (hi : i < k) : wrap64 (((gauss c k * wid r i : Nat) : Int) * wrap64 (wrap64 (2 ^ r) - wrap64 (2 ^ i))) = ((gauss c k * wid r (i + 1) : Nat) : Int) :=
  w1_all ⟨r, by omega⟩ ⟨c, by omega⟩ ⟨k, by omega⟩ ⟨i, by omega⟩ h1 h2 hi

/-- The number of matrices with a rank, with ErrRange first. -/
def fCountRanks (r c k : Int) : Int × Int :=
  if (1 ≤ r ∧ r ≤ 5) ∧ (1 ≤ c ∧ c ≤ 5) ∧ 0 ≤ k then (if k ≤ r ∧ k ≤ c then (((gauss c.toNat k.toNat * wid r.toNat k.toNat : Nat) : Int), 0) else (0, 0)) else (0, 2)
theorem fCount_R {r c k : Int} (h : ¬ ((1 ≤ r ∧ r ≤ 5) ∧ (1 ≤ c ∧ c ≤ 5) ∧ 0 ≤ k)) : fCountRanks r c k = (0, 2) := if_neg h
theorem fCount_Z {r c k : Int} (h : (1 ≤ r ∧ r ≤ 5) ∧ (1 ≤ c ∧ c ≤ 5) ∧ 0 ≤ k) (h2 : ¬ (k ≤ r ∧ k ≤ c)) : fCountRanks r c k = (0, 0) := by rw [fCountRanks, if_pos h, if_neg h2]
theorem fCount_C {r c k : Nat} (h : (1 ≤ r ∧ r ≤ 5) ∧ (1 ≤ c ∧ c ≤ 5)) (h2 : k ≤ r ∧ k ≤ c) : fCountRanks r c k = (((gauss c k * wid r k : Nat) : Int), 0) := by
  rw [fCountRanks, if_pos (by omega), if_pos (by omega)]; rfl

set_option maxHeartbeats 400000 in
theorem l00Min_any (a b : Int) (w : World) :
    Calls Try.prog 49 #[.int .i64 a, .int .i64 b] w fun e w' => e = .returned (.int .i64 (min a b)) ∧ w = w' := by
  by_cases h : a < b
  · go_enter Try.func49, Try.ntmps49
    go_wp2
    go_ret
    exact ⟨ret_int (by omega), rfl⟩
  · go_enter Try.func49, Try.ntmps49
    go_wp2
    go_ret
    exact ⟨ret_int (by omega), rfl⟩

set_option maxHeartbeats 1600000 in
theorem specCountRanks_any (r c k : Int) (w : World) :
    Calls Try.prog 19 #[.int .i64 r, .int .i64 c, .int .i64 k] w fun e w' => e = .returned (.tuple #[.int .i64 (fCountRanks r c k).1, .int .i64 (fCountRanks r c k).2]) ∧ w = w' := by
  by_cases h1 : 1 ≤ r ∧ r ≤ 5
  rotate_left
  · rw [fCount_R (by omega)]
    go_enter Try.func19, Try.ntmps19
    go_wp2_with (go_at_call 48; refine (l00In_no r 1 5 (by omega) _).mono ?_; rintro e w' ⟨rfl, rfl⟩)
    go_ret2
    exact ⟨rfl, rfl⟩
  by_cases h2 : 1 ≤ c ∧ c ≤ 5
  rotate_left
  · rw [fCount_R (by omega)]
    go_enter Try.func19, Try.ntmps19
    go_wp2_with (go_at_call 48; first | (with_reducible refine (l00In_no c 1 5 (by omega) _).mono ?_; rintro e w' ⟨rfl, rfl⟩) | (with_reducible refine (l00In_yes r 1 5 (by omega) (by omega) _).mono ?_; rintro e w' ⟨rfl, rfl⟩))
    go_ret2
    exact ⟨rfl, rfl⟩
  by_cases h3 : k < 0
  · rw [fCount_R (by omega)]
    go_enter Try.func19, Try.ntmps19
    go_wp2_with (go_at_call 48; refine (l00In_yes _ 1 5 (by omega) (by omega) _).mono ?_; rintro e w' ⟨rfl, rfl⟩)
    go_ret2
    exact ⟨rfl, rfl⟩
  obtain ⟨R, rfl⟩ := Int.eq_ofNat_of_zero_le (by omega : 0 ≤ r)
  obtain ⟨C, rfl⟩ := Int.eq_ofNat_of_zero_le (by omega : 0 ≤ c)
  obtain ⟨K, rfl⟩ := Int.eq_ofNat_of_zero_le (by omega : 0 ≤ k)
  by_cases h4 : K ≤ R ∧ K ≤ C
  · rw [fCount_C (by omega) h4]
    obtain ⟨h4, h5⟩ := h4
    have hm : ¬ min (R : Int) (C : Int) < (K : Int) := by omega
    have WE := Lib.hid (wid_at (i := K) (show R ≤ 5 by omega) (show C ≤ 5 by omega) h4 h5 (Nat.le_refl K)).1
    have WS := Lib.hid (fun i (hi : i < K) => w_step (r := C) (c := R) (show C ≤ 5 by omega) (show R ≤ 5 by omega) h5 h4 hi)
    obtain ⟨M, hM⟩ : ∃ M, min (R : Int) (C : Int) = M := ⟨_, rfl⟩
    rw [hM] at hm
    have HM := Lib.hid hM
    clear hM
    go_enter Try.func19, Try.ntmps19
    go_wp2_with (first | (go_at_call 48; refine (l00In_yes _ 1 5 (by omega) (by omega) _).mono ?_; rintro e w' ⟨rfl, rfl⟩) | (go_at_call 49; refine (l00Min_any _ _ _).mono ?_; rw [HM.out]; rintro e w' ⟨rfl, rfl⟩) | (go_at_call 52; refine (l04Gauss_any R K (by omega) h4 _).mono ?_; rintro e w' ⟨rfl, rfl⟩))
    go_loop [8, 9] (fun o i => ∃ j : Nat, j ≤ K ∧ i = .int .i64 j ∧ o = .int .i64 (gauss R K * wid C j : Nat)) (fun _ i => K - (intOf i).toNat)
    case atStart => exact ⟨0, Nat.zero_le _, rfl, by simp [wid]⟩
    case round =>
      obtain ⟨j, hj, rfl, rfl⟩ := hrel
      by_cases hlt : j < K
      · have HS := Lib.hid (WS.out j hlt)
        go_wp2
        go_round
        case rel => exact ⟨j + 1, by omega, by go_num, congrArg _ HS.out⟩
        case measure => simp [intOf]; omega
      · obtain rfl : j = K := by omega
        go_wp2
        have e : (gauss R j : Int) * (wid C j : Int) = ((gauss C j * wid R j : Nat) : Int) := by rw [← Int.natCast_mul, WE.out]
        go_ret2
        exact ⟨by show Ending.returned (.tuple #[.int .i64 ((gauss R j : Int) * (wid C j : Int)), .int .i64 0]) = _; rw [e, Int.natCast_mul], rfl⟩
  · rw [fCount_Z (by omega) (by omega)]
    have hm : min (R : Int) (C : Int) < (K : Int) := by omega
    obtain ⟨M, hM⟩ : ∃ M, min (R : Int) (C : Int) = M := ⟨_, rfl⟩
    rw [hM] at hm
    have HM := Lib.hid hM
    clear hM h4
    go_enter Try.func19, Try.ntmps19
    go_wp2_with (first | (go_at_call 48; refine (l00In_yes _ 1 5 (by omega) (by omega) _).mono ?_; rintro e w' ⟨rfl, rfl⟩) | (go_at_call 49; refine (l00Min_any _ _ _).mono ?_; rw [HM.out]; rintro e w' ⟨rfl, rfl⟩))
    go_ret2
    exact ⟨rfl, rfl⟩

set_option maxHeartbeats 1600000 in
theorem implCountRanks_any (r c k : Int) (w : World) :
    Calls Try.prog 20 #[.int .i64 r, .int .i64 c, .int .i64 k] w fun e w' => e = .returned (.tuple #[.int .i64 (fCountRanks r c k).1, .int .i64 (fCountRanks r c k).2]) ∧ Below w.heap.size w w' := by
  by_cases h1 : 1 ≤ r ∧ r ≤ 5
  rotate_left
  · rw [fCount_R (by omega)]
    have HN := Lib.hid (show decide (1 ≤ r ∧ r ≤ 5) = false by simp; omega)
    go_enter Try.func20, Try.ntmps20
    go_wp2_with (go_at_call 51; refine (isLength_eq _ _ HN.out _).mono ?_; rintro e w' ⟨rfl, rfl⟩)
    go_ret2
    exact ⟨rfl, Below.refl _ _⟩
  have H1 := Lib.hid (show decide (1 ≤ r ∧ r ≤ 5) = true by simp; omega)
  by_cases h2 : 1 ≤ c ∧ c ≤ 5
  rotate_left
  · rw [fCount_R (by omega)]
    have HN := Lib.hid (show decide (1 ≤ c ∧ c ≤ 5) = false by simp; omega)
    go_enter Try.func20, Try.ntmps20
    go_wp2_with (go_at_call 51; first | (with_reducible refine (isLength_eq _ _ HN.out _).mono ?_; rintro e w' ⟨rfl, rfl⟩) | (with_reducible refine (isLength_eq _ _ H1.out _).mono ?_; rintro e w' ⟨rfl, rfl⟩))
    go_ret2
    exact ⟨rfl, Below.refl _ _⟩
  have H2 := Lib.hid (show decide (1 ≤ c ∧ c ≤ 5) = true by simp; omega)
  by_cases h3 : k < 0
  · rw [fCount_R (by omega)]
    go_enter Try.func20, Try.ntmps20
    go_wp2_with (go_at_call 51; first | (with_reducible refine (isLength_eq _ _ H2.out _).mono ?_; rintro e w' ⟨rfl, rfl⟩) | (with_reducible refine (isLength_eq _ _ H1.out _).mono ?_; rintro e w' ⟨rfl, rfl⟩))
    go_ret2
    exact ⟨rfl, Below.refl _ _⟩
  obtain ⟨R, rfl⟩ := Int.eq_ofNat_of_zero_le (by omega : 0 ≤ r)
  obtain ⟨C, rfl⟩ := Int.eq_ofNat_of_zero_le (by omega : 0 ≤ c)
  obtain ⟨K, rfl⟩ := Int.eq_ofNat_of_zero_le (by omega : 0 ≤ k)
  by_cases h4 : K ≤ R ∧ K ≤ C
  · rw [fCount_C (by omega) h4]
    obtain ⟨h4, h5⟩ := h4
    have hm : ¬ min (R : Int) (C : Int) < (K : Int) := by omega
    have WS := Lib.hid (fun i (hi : i < K) => w_step (r := R) (c := C) (show R ≤ 5 by omega) (show C ≤ 5 by omega) h4 h5 hi)
    by_cases hCR : C < R
    · skip
      go_enter Try.func20, Try.ntmps20
      go_wp2_with (first | (go_at_call 51; first | (with_reducible refine (isLength_eq _ _ H2.out _).mono ?_; rintro e w' ⟨rfl, rfl⟩) | (with_reducible refine (isLength_eq _ _ H1.out _).mono ?_; rintro e w' ⟨rfl, rfl⟩)) | (go_at_call 53; refine (countSpaces_any C K (by omega) h5 _).mono ?_; rintro e w' ⟨rfl, rfl⟩))
      go_loopw [8, 31] (fun o i wr => ∃ j q : Nat, j ≤ K ∧ i = .int .i64 j ∧ o = .int .i64 (gauss C K * wid R j : Nat) ∧ wr = w.drewN q) (fun _ i _ => K - (intOf i).toNat)
      case atStart => exact ⟨0, 0, Nat.zero_le _, rfl, by simp [wid], rfl⟩
      case round =>
        obtain ⟨j, q, hj, rfl, rfl, rfl⟩ := hrel
        by_cases hlt : j < K
        · have HS := Lib.hid (WS.out j hlt)
          go_wp2
          go_quiet (fail)
          go_wp2
          go_roundw
          case rel => exact ⟨j + 1, q + _, by omega, by go_num, congrArg _ HS.out, rfl⟩
          case measure => simp [intOf]; omega
        · obtain rfl : j = K := by omega
          go_wp2
          go_ret2
          exact ⟨rfl, below_drewN (Below.refl _ _) _⟩
    · skip
      go_enter Try.func20, Try.ntmps20
      go_wp2_with (first | (go_at_call 51; first | (with_reducible refine (isLength_eq _ _ H2.out _).mono ?_; rintro e w' ⟨rfl, rfl⟩) | (with_reducible refine (isLength_eq _ _ H1.out _).mono ?_; rintro e w' ⟨rfl, rfl⟩)) | (go_at_call 53; refine (countSpaces_any C K (by omega) h5 _).mono ?_; rintro e w' ⟨rfl, rfl⟩))
      go_loopw [8, 31] (fun o i wr => ∃ j q : Nat, j ≤ K ∧ i = .int .i64 j ∧ o = .int .i64 (gauss C K * wid R j : Nat) ∧ wr = w.drewN q) (fun _ i _ => K - (intOf i).toNat)
      case atStart => exact ⟨0, 0, Nat.zero_le _, rfl, by simp [wid], rfl⟩
      case round =>
        obtain ⟨j, q, hj, rfl, rfl, rfl⟩ := hrel
        by_cases hlt : j < K
        · have HS := Lib.hid (WS.out j hlt)
          go_wp2
          go_quiet (fail)
          go_wp2
          go_roundw
          case rel => exact ⟨j + 1, q + _, by omega, by go_num, congrArg _ HS.out, rfl⟩
          case measure => simp [intOf]; omega
        · obtain rfl : j = K := by omega
          go_wp2
          go_ret2
          exact ⟨rfl, below_drewN (Below.refl _ _) _⟩
  · rw [fCount_Z (by omega) (by omega)]
    have hm : min (R : Int) (C : Int) < (K : Int) := by omega
    clear h4
    have hmi : C < K ∨ R < K := by omega
    by_cases hCR : C < R
    · skip
      go_enter Try.func20, Try.ntmps20
      go_wp2_with (go_at_call 51; first | (with_reducible refine (isLength_eq _ _ H2.out _).mono ?_; rintro e w' ⟨rfl, rfl⟩) | (with_reducible refine (isLength_eq _ _ H1.out _).mono ?_; rintro e w' ⟨rfl, rfl⟩))
      go_ret2
      exact ⟨rfl, Below.refl _ _⟩
    · skip
      go_enter Try.func20, Try.ntmps20
      go_wp2_with (go_at_call 51; first | (with_reducible refine (isLength_eq _ _ H2.out _).mono ?_; rintro e w' ⟨rfl, rfl⟩) | (with_reducible refine (isLength_eq _ _ H1.out _).mono ?_; rintro e w' ⟨rfl, rfl⟩))
      go_ret2
      exact ⟨rfl, Below.refl _ _⟩
end Go.Proofs.Ytejpjcdnhboooaa
