/- PackingBound and DesignBound: the program and the model. -/
import Derived.Test.YtcdhdgflgdmhdaaBounds
import Derived.Laws.EntriesVeiled
namespace Go.Proofs.Ytcdhdgflgdmhdaa
open Go.RowKit
set_option linter.unusedVariables false

/-- The bound that comes from balls, for half of a least distance. -/
def packN (n k h : Nat) : Nat := gauss n k / ball n k ((h - 1) / 2 + 1)
/-- The bound that comes from lesser spaces. -/
def desN (n k h : Nat) : Nat := gauss n (k - h + 1) / gauss k (k - h + 1)
def fBound (g : Nat → Nat → Nat → Nat) (n k d : Int) : Int × Int := if okD n k d = true then (((g n.toNat k.toNat (d / 2).toNat : Nat) : Int), 0) else (0, 2)
theorem fBound_yes (g : Nat → Nat → Nat → Nat) {n k h : Nat} (h1 : 1 ≤ n) (h2 : n ≤ 10) (h3 : k ≤ n) (h4 : 1 ≤ h) (h5 : h ≤ k) : fBound g n k (2 * (h : Int)) = (((g n k h : Nat) : Int), 0) := by
  rw [fBound, if_pos (okD_nat h1 h2 h3 h4 h5)]
  have e : (2 * (h : Int) / 2).toNat = h := by omega
  rw [e]; rfl
theorem fBound_no (g : Nat → Nat → Nat → Nat) {n k d : Int} (h : okD n k d = false) : fBound g n k d = (0, 2) := by rw [fBound, if_neg (by rw [h]; simp)]
theorem gauss_pos_all : ∀ n k : Fin 11, k.val ≤ n.val → 0 < gauss n.val k.val := by decide +kernel
theorem gauss_pos {n k : Nat} (hn : n ≤ 10) (hk : k ≤ n) : 0 < gauss n k := gauss_pos_all ⟨n, by omega⟩ ⟨k, by omega⟩ hk
theorem quo64 {u d : Nat} (h : u < 4611686018427) : wrap64 ((u : Int) / (d : Int)) = ((u / d : Nat) : Int) := by
  have h6 := Nat.div_le_self u d
  have h7 : ((u / d : Nat) : Int) = (u : Int) / (d : Int) := Int.natCast_ediv u d
  rw [← h7]; generalize u / d = q at h6 ⊢; unfold wrap64; omega
theorem add64 {a b c : Nat} (h : a + b = c) (hc : c < 4611686018427) : wrap64 ((a : Int) + (b : Int)) = (c : Int) := by unfold wrap64; omega

set_option maxHeartbeats 800000 in
theorem packingBound_any (n k h : Nat) (h1 : 1 ≤ n) (h2 : n ≤ 10) (h3 : k ≤ n) (h4 : 1 ≤ h) (h5 : h ≤ k) (x : Int) (hx : x = (h : Int)) (w : World) :
    Calls Try.prog 88 #[.int .i64 n, .int .i64 k, .int .i64 x] w fun e w' => e = .returned (.int .i64 (packN n k h : Nat)) ∧ Below w.heap.size w w' := by
  subst hx
  obtain ⟨T, hT⟩ : ∃ T, (h - 1) / 2 + 1 = T := ⟨_, rfl⟩
  have hTi : ((h : Int) - 1) / 2 + 1 = (T : Int) := by omega
  have hT10 : T ≤ 10 := by omega
  have HTI := Lib.hid hTi
  go_enter Try.func88, Try.ntmps88
  go_wp2_with fail
  go_loopw [7, 8, 13] (fun s r i wr => ∃ j : Nat, j ≤ T ∧ i = .int .i64 j ∧ s = .int .i64 (ball n k j : Nat) ∧ wr = w) (fun _ _ i _ => T - (intOf i).toNat)
  case atStart => exact ⟨0, Nat.zero_le _, rfl, rfl, rfl⟩
  case round =>
    obtain ⟨j, hj, rfl, rfl, rfl⟩ := hrel
    by_cases hlt : j < T
    · have hs := (ball_at h2 h3 (show j + 1 ≤ 10 by omega)).1
      have he : ball n k (j + 1) = ball n k j + near n k j := rfl
      have HN := Lib.hid (fun w => countNear_any n k j h2 h3 w)
      have HE := Lib.hid (add64 he.symm hs)
      clear hs he
      go_wp2_with (go_at_call 48; refine (HN.out _).mono ?_; rintro e w1 ⟨rfl, rfl⟩)
      go_roundw
      case rel => exact ⟨j + 1, by omega, by go_num, congrArg _ HE.out, by first | trivial | rfl⟩
      case measure => simp [intOf]; omega
    · obtain rfl : j = T := by omega
      have hp := (ball_at h2 h3 hT10).2 (by omega)
      have hg := gauss_lt h2 h3
      have HG := Lib.hid (fun w => countSpaces_any n k h2 h3 w)
      have he : packN n k h = gauss n k / ball n k j := by rw [packN, hT]
      have hd0 : ¬ ((ball n k j : Nat) : Int) = 0 := by omega
      have HQ := Lib.hid (quo64 (d := ball n k j) hg)
      have HE := Lib.hid he
      clear hg he
      go_wp2_with (go_at_call 86; refine (HG.out _).mono ?_; rintro e w1 ⟨rfl, rfl⟩)
      go_ret
      exact ⟨ret_int (by rw [HE.out]; exact HQ.out), Below.refl _ _⟩

set_option maxHeartbeats 800000 in
theorem designBound_any (n k h : Nat) (h1 : 1 ≤ n) (h2 : n ≤ 10) (h3 : k ≤ n) (h4 : 1 ≤ h) (h5 : h ≤ k) (x : Int) (hx : x = (h : Int)) (w : World) :
    Calls Try.prog 89 #[.int .i64 n, .int .i64 k, .int .i64 x] w fun e w' => e = .returned (.int .i64 (desN n k h : Nat)) ∧ w = w' := by
  subst hx
  have hsub : (k : Int) - (h : Int) + 1 = ((k - h + 1 : Nat) : Int) := by omega
  have hg := gauss_lt h2 (show k - h + 1 ≤ n by omega)
  have hp := gauss_pos (show k ≤ 10 by omega) (show k - h + 1 ≤ k by omega)
  have HG := fun w => countSpaces_any n (k - h + 1) h2 (by omega) w
  have HK := fun w => countSpaces_any k (k - h + 1) (by omega) (by omega) w
  have he : desN n k h = gauss n (k - h + 1) / gauss k (k - h + 1) := rfl
  generalize desN n k h = p at he ⊢
  generalize gauss n (k - h + 1) = u at hg HG he
  generalize gauss k (k - h + 1) = d at hp HK he
  rw [← hsub] at HG HK
  have hd0 : ¬ (d : Int) = 0 := by omega
  have HQ := Lib.hid (quo64 (d := d) hg)
  have HE := Lib.hid he
  replace HG := Lib.hid HG
  replace HK := Lib.hid HK
  clear hg he hsub
  go_enter Try.func89, Try.ntmps89
  go_wp2_with (go_at_call 86; first | (with_reducible refine (HG.out _).mono ?_; rintro e w1 ⟨rfl, rfl⟩) | (with_reducible refine (HK.out _).mono ?_; rintro e w1 ⟨rfl, rfl⟩))
  go_ret
  exact ⟨ret_int (by rw [HE.out]; exact HQ.out), rfl⟩

set_option maxHeartbeats 800000 in
theorem specDesignBound_any (n k d : Int) (w : World) :
    Calls Try.prog 16 #[.int .i64 n, .int .i64 k, .int .i64 d] w fun e w' => e = .returned (.tuple #[.int .i64 (fBound desN n k d).1, .int .i64 (fBound desN n k d).2]) ∧ w = w' := by
  cases ho : okD n k d with
  | false =>
    rw [fBound_no _ ho]
    have HS := Lib.hid (fun w => l06Distance_any n k d false ho w)
    go_enter Try.func16, Try.ntmps16
    go_wp2_with (go_at_call 49; refine (HS.out _).mono ?_; rintro e w' ⟨rfl, rfl⟩)
    go_ret2
    exact ⟨rfl, rfl⟩
  | true =>
    have HS := Lib.hid (fun w => l06Distance_any n k d true ho w)
    obtain ⟨n, k, h, rfl, rfl, rfl, h1, h2, h3, h4, h5⟩ := okD_yes ho
    rw [fBound_yes desN h1 h2 h3 h4 h5]
    have hsub : (k : Int) - (h : Int) + 1 = ((k - h + 1 : Nat) : Int) := by omega
    have hg := gauss_lt h2 (show k - h + 1 ≤ n by omega)
    have hp := gauss_pos (show k ≤ 10 by omega) (show k - h + 1 ≤ k by omega)
    have HG := fun w => l02Gauss_any n (k - h + 1) h2 (by omega) w
    have HK := fun w => l02Gauss_any k (k - h + 1) (by omega) (by omega) w
    have he : desN n k h = gauss n (k - h + 1) / gauss k (k - h + 1) := rfl
    generalize desN n k h = p at he ⊢
    generalize gauss n (k - h + 1) = u at hg HG he
    generalize gauss k (k - h + 1) = d at hp HK he
    have hdd : 2 * (h : Int) / 2 = h := by omega
    have hdt : Int.tdiv (2 * (h : Int)) 2 = h := by rw [Int.tdiv_eq_ediv_of_nonneg (by omega)]; exact hdd
    obtain ⟨D, hD⟩ : ∃ D, 2 * (h : Int) = D := ⟨_, rfl⟩
    rw [hD] at hdd hdt HS ⊢
    have HD := Lib.hid (And.intro hdd hdt)
    rw [← hsub] at HG HK
    have hd0 : ¬ (d : Int) = 0 := by omega
    have HQ := Lib.hid (quo64 (d := d) hg)
    have HE := Lib.hid he
    replace HG := Lib.hid HG
    replace HK := Lib.hid HK
    clear hg he hsub hdd hdt ho
    go_enter Try.func16, Try.ntmps16
    go_wp2_with (first | (go_at_call 49; refine (HS.out _).mono ?_; rintro e w' ⟨rfl, rfl⟩) | (go_at_call 50; first | rw [HD.out.1] | rw [HD.out.2] | skip; first | (with_reducible refine (HG.out _).mono ?_; rintro e w1 ⟨rfl, rfl⟩) | (with_reducible refine (HK.out _).mono ?_; rintro e w1 ⟨rfl, rfl⟩)))
    go_ret2
    exact ⟨by rw [HE.out, ← HQ.out]; rfl, rfl⟩

set_option maxHeartbeats 800000 in
theorem specPackingBound_any (n k d : Int) (w : World) :
    Calls Try.prog 14 #[.int .i64 n, .int .i64 k, .int .i64 d] w fun e w' => e = .returned (.tuple #[.int .i64 (fBound packN n k d).1, .int .i64 (fBound packN n k d).2]) ∧ w = w' := by
  cases ho : okD n k d with
  | false =>
    rw [fBound_no _ ho]
    have HS := Lib.hid (fun w => l06Distance_any n k d false ho w)
    go_enter Try.func14, Try.ntmps14
    go_wp2_with (go_at_call 49; refine (HS.out _).mono ?_; rintro e w' ⟨rfl, rfl⟩)
    go_ret2
    exact ⟨rfl, rfl⟩
  | true =>
    have HS := Lib.hid (fun w => l06Distance_any n k d true ho w)
    obtain ⟨n, k, h, rfl, rfl, rfl, h1, h2, h3, h4, h5⟩ := okD_yes ho
    rw [fBound_yes packN h1 h2 h3 h4 h5]
    obtain ⟨T, hT⟩ : ∃ T, (h - 1) / 2 + 1 = T := ⟨_, rfl⟩
    have hTi : (2 * (h : Int) / 2 - 1) / 2 + 1 = (T : Int) := by omega
    have hTt : (Int.tdiv (2 * (h : Int)) 2 - 1) / 2 + 1 = (T : Int) := by rw [Int.tdiv_eq_ediv_of_nonneg (by omega)]; exact hTi
    have hT10 : T ≤ 10 := by omega
    clear ho
    go_enter Try.func14, Try.ntmps14
    go_wp2_with (go_at_call 49; refine (HS.out _).mono ?_; rintro e w' ⟨rfl, rfl⟩)
    go_loopw [8, 9] (fun s i wr => ∃ j : Nat, j ≤ T ∧ i = .int .i64 j ∧ s = .int .i64 (ball n k j : Nat) ∧ wr = w) (fun _ i _ => T - (intOf i).toNat)
    case atStart => exact ⟨0, Nat.zero_le _, rfl, rfl, rfl⟩
    case round =>
      obtain ⟨j, hj, rfl, rfl, rfl⟩ := hrel
      by_cases hlt : j < T
      · have hs := (ball_at h2 h3 (show j + 1 ≤ 10 by omega)).1
        have he : ball n k (j + 1) = ball n k j + near n k j := rfl
        have HN := Lib.hid (fun w => l06Near_any n k j h2 h3 w)
        have HE := Lib.hid (add64 he.symm hs)
        clear hs he
        go_wp2_with (go_at_call 46; refine (HN.out _).mono ?_; rintro e w1 ⟨rfl, rfl⟩)
        go_roundw
        case rel => exact ⟨j + 1, by omega, by go_num, congrArg _ HE.out, by first | trivial | rfl⟩
        case measure => simp [intOf]; omega
      · obtain rfl : j = T := by omega
        have hp := (ball_at h2 h3 hT10).2 (by omega)
        have hg := gauss_lt h2 h3
        have HG := Lib.hid (fun w => l02Gauss_any n k h2 h3 w)
        have he : packN n k h = gauss n k / ball n k j := by rw [packN, hT]
        have hd0 : ¬ ((ball n k j : Nat) : Int) = 0 := by omega
        have HQ := Lib.hid (quo64 (d := ball n k j) hg)
        have HE := Lib.hid he
        clear hg he
        go_wp2_with (go_at_call 50; refine (HG.out _).mono ?_; rintro e w1 ⟨rfl, rfl⟩)
        go_ret2
        exact ⟨by rw [HE.out, ← HQ.out]; rfl, rfl⟩

set_option maxHeartbeats 800000 in
theorem boundFor_no (b n k d : Int) (ho : okD n k d = false) (w : World) :
    Calls Try.prog 51 #[.int .i64 b, .int .i64 n, .int .i64 k, .int .i64 d] w fun e w' => e = .returned (.tuple #[.int .i64 0, .int .i64 2]) ∧ Below w.heap.size w w' := by
  have HS := Lib.hid (fun w => isSpaceDistance_any n k d false ho w)
  go_enter Try.func51, Try.ntmps51
  go_wp2_with (go_at_call 87; refine (HS.out _).mono ?_; rintro e w' ⟨rfl, rfl⟩)
  go_ret2
  exact ⟨rfl, Below.refl _ _⟩
set_option maxHeartbeats 800000 in
theorem boundFor_pack (n k h : Nat) (h1 : 1 ≤ n) (h2 : n ≤ 10) (h3 : k ≤ n) (h4 : 1 ≤ h) (h5 : h ≤ k) (w : World) :
    Calls Try.prog 51 #[.int .i64 0, .int .i64 n, .int .i64 k, .int .i64 (2 * (h : Int))] w fun e w' => e = .returned (.tuple #[.int .i64 (packN n k h : Nat), .int .i64 0]) ∧ Below w.heap.size w w' := by
  have HS := Lib.hid (fun w => isSpaceDistance_any n k (2 * (h : Int)) true (okD_nat h1 h2 h3 h4 h5) w)
  have HP := Lib.hid (fun x hx w => packingBound_any n k h h1 h2 h3 h4 h5 x hx w)
  go_enter Try.func51, Try.ntmps51
  go_wp2_with (first | (go_at_call 87; refine (HS.out _).mono ?_; rintro e w' ⟨rfl, rfl⟩) | (go_at_call 88; refine (HP.out _ (by first | omega | (rw [Int.tdiv_eq_ediv_of_nonneg (by omega)]; omega)) _).mono ?_; rintro e w1 ⟨rfl, hb⟩))
  go_ret2
  exact ⟨rfl, (((Below.refl _ _).alloc (Nat.le_refl _) _)).trans (hb.mono (by simp))⟩
set_option maxHeartbeats 800000 in
theorem boundFor_des (n k h : Nat) (h1 : 1 ≤ n) (h2 : n ≤ 10) (h3 : k ≤ n) (h4 : 1 ≤ h) (h5 : h ≤ k) (w : World) :
    Calls Try.prog 51 #[.int .i64 1, .int .i64 n, .int .i64 k, .int .i64 (2 * (h : Int))] w fun e w' => e = .returned (.tuple #[.int .i64 (desN n k h : Nat), .int .i64 0]) ∧ Below w.heap.size w w' := by
  have HS := Lib.hid (fun w => isSpaceDistance_any n k (2 * (h : Int)) true (okD_nat h1 h2 h3 h4 h5) w)
  have HP := Lib.hid (fun x hx w => designBound_any n k h h1 h2 h3 h4 h5 x hx w)
  go_enter Try.func51, Try.ntmps51
  go_wp2_with (first | (go_at_call 87; refine (HS.out _).mono ?_; rintro e w' ⟨rfl, rfl⟩) | (go_at_call 89; refine (HP.out _ (by first | omega | (rw [Int.tdiv_eq_ediv_of_nonneg (by omega)]; omega)) _).mono ?_; rintro e w1 ⟨rfl, rfl⟩))
  go_ret2
  exact ⟨rfl, by first | exact ((Below.refl _ _).alloc (Nat.le_refl _) _) | exact (((Below.refl _ _).alloc (Nat.le_refl _) _)).setCell (by simp) _⟩

set_option maxHeartbeats 800000 in
theorem implPackingBound_any (n k d : Int) (w : World) :
    Calls Try.prog 15 #[.int .i64 n, .int .i64 k, .int .i64 d] w fun e w' => e = .returned (.tuple #[.int .i64 (fBound packN n k d).1, .int .i64 (fBound packN n k d).2]) ∧ Below w.heap.size w w' := by
  have HB : Hid (Calls Try.prog 51 #[.int .i64 0, .int .i64 n, .int .i64 k, .int .i64 d] w fun e w' => e = .returned (.tuple #[.int .i64 (fBound packN n k d).1, .int .i64 (fBound packN n k d).2]) ∧ Below w.heap.size w w') := Lib.hid (by
    cases ho : okD n k d with
    | false => rw [fBound_no _ ho]; exact boundFor_no 0 n k d ho w
    | true =>
      obtain ⟨n, k, h, rfl, rfl, rfl, h1, h2, h3, h4, h5⟩ := okD_yes ho
      rw [fBound_yes packN h1 h2 h3 h4 h5]; exact boundFor_pack n k h h1 h2 h3 h4 h5 w)
  generalize fBound packN n k d = r at HB ⊢
  obtain ⟨r1, r2⟩ := r
  go_enter Try.func15, Try.ntmps15
  go_wp2_with (go_at_call 51; refine HB.out.mono ?_; rintro e w1 ⟨rfl, hb⟩)
  go_ret2
  exact ⟨rfl, hb⟩
set_option maxHeartbeats 800000 in
theorem implDesignBound_any (n k d : Int) (w : World) :
    Calls Try.prog 17 #[.int .i64 n, .int .i64 k, .int .i64 d] w fun e w' => e = .returned (.tuple #[.int .i64 (fBound desN n k d).1, .int .i64 (fBound desN n k d).2]) ∧ Below w.heap.size w w' := by
  have HB : Hid (Calls Try.prog 51 #[.int .i64 1, .int .i64 n, .int .i64 k, .int .i64 d] w fun e w' => e = .returned (.tuple #[.int .i64 (fBound desN n k d).1, .int .i64 (fBound desN n k d).2]) ∧ Below w.heap.size w w') := Lib.hid (by
    cases ho : okD n k d with
    | false => rw [fBound_no _ ho]; exact boundFor_no 1 n k d ho w
    | true =>
      obtain ⟨n, k, h, rfl, rfl, rfl, h1, h2, h3, h4, h5⟩ := okD_yes ho
      rw [fBound_yes desN h1 h2 h3 h4 h5]; exact boundFor_des n k h h1 h2 h3 h4 h5 w)
  generalize fBound desN n k d = r at HB ⊢
  obtain ⟨r1, r2⟩ := r
  go_enter Try.func17, Try.ntmps17
  go_wp2_with (go_at_call 51; refine HB.out.mono ?_; rintro e w1 ⟨rfl, hb⟩)
  go_ret2
  exact ⟨rfl, hb⟩
end Go.Proofs.Ytcdhdgflgdmhdaa
