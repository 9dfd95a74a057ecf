/- ValidGather: the program's and the model's. -/
import Derived.Test.YtibennpdffgomaaDoorWorksB
namespace Go.Proofs.YtibennpdffgomaaDoor
open Go.RowKit Go.Joins Go.ChangeShapes Go.WideShapes Go.Deep
set_option linter.unusedVariables false
set_option linter.unusedSimpArgs false

/-- What worksFor gives, of any gathering. -/
theorem worksFor_any (p l r c : Int) (v : Value) (xs : List Int) (w : World) {B T : Nat} (hM : Res w B T v xs) :
    Calls Tryd.prog 63 #[.agg (gatL p l v r c).toArray] w fun e w' => ∃ o, e = .returned (.tuple #[.pointer o, .int .i64 (if fValidGather p l r c xs = true then 0 else 1)]) ∧ Below w.heap.size w w' ∧ (fValidGather p l r c xs = true → ∃ q b N Y, o = some ⟨q, 0, none⟩ ∧ l = (Y : Nat) ∧ p = ((nats xs).length : Nat) ∧ WK w' w.heap.size q b (nats xs).length Y N (srcL (nats xs).length (nats xs))) := by
  obtain ⟨A, n, cap, rfl⟩ := hM.form
  have hlen : xs.length = n := by cases hM <;> first | rfl | assumption
  by_cases hg : inG p l r c
  · have hg' := hg
    obtain ⟨h1, h2, h3, h4, h5, h6, h7, h8⟩ := hg'
    obtain ⟨P, rfl⟩ : ∃ P : Nat, p = P := ⟨p.toNat, by omega⟩
    obtain ⟨Y, rfl⟩ : ∃ Y : Nat, l = Y := ⟨l.toNat, by omega⟩
    by_cases hd : xs.length = P ∧ allIn (2 ^ Y) xs = true
    · have hv : fValidGather P Y r c xs = true := by
        rw [fValidGather, decide_eq_true hg, Bool.true_and, Int.toNat_natCast, hd.2, Bool.and_true]
        exact decide_eq_true (by omega)
      obtain rfl : P = (nats xs).length := by rw [nats_length]; exact hd.1.symm
      rw [hv]
      refine (worksFor_good (nats xs) Y r c A n cap xs rfl hg hd.2 w hM).mono ?_
      rintro e w' ⟨q, b, N, rfl, hb, hW⟩
      exact ⟨_, rfl, hb, fun _ => ⟨q, b, N, Y, rfl, rfl, rfl, hW⟩⟩
    · have hv : fValidGather P Y r c xs = false := by
        cases h : fValidGather P Y r c xs with
        | false => rfl
        | true =>
          rw [fValidGather, Int.toNat_natCast] at h
          simp only [Bool.and_eq_true, decide_eq_true_eq] at h
          exact absurd ⟨by omega, h.2.2⟩ hd
      rw [hv]
      refine (worksFor_data P Y r c A n cap xs hg hd w hM).mono ?_
      rintro e w' ⟨rfl, hb⟩
      exact ⟨none, rfl, hb, fun h => by cases h⟩
  · have hv : fValidGather p l r c xs = false := by rw [fValidGather, decide_eq_false hg, Bool.false_and]
    rw [hv]
    refine (worksFor_out p l r c A n cap hg w).mono ?_
    rintro e w' ⟨rfl, hb⟩
    exact ⟨none, rfl, hb, fun h => by cases h⟩


set_option maxRecDepth 100000 in
set_option maxHeartbeats 6400000 in
theorem l08Ok_quiet (q : Nat) (p l r c : Int) (A : Option Addr) (n cap : Nat) (xs : List Int) (w : World) {B T : Nat} (hX : LB w q (gatL p l (.slice A n cap) r c)) (hM : Res w B T (.slice A n cap) xs) :
    Calls Tryd.prog 59 #[.pointer (some ⟨q, 0, none⟩)] w fun e w' => e = .returned (.bool (fValidGather p l r c xs)) ∧ ∃ m, w' = w.drewN m := by
  have hlen : xs.length = n := by cases hM <;> first | rfl | assumption
  have hsm : n ≤ 1048576 := by have := hM.small; omega
  have c0 := hX.cell 0 _ rfl; have c1 := hX.cell 1 _ rfl; have c2 := hX.cell 2 _ rfl; have c3 := hX.cell 3 _ rfl; have c4 := hX.cell 4 _ rfl
  have HCELL : Hid (0 < n → ∃ g, A = some ⟨g, 0, none⟩ ∧ g < w.heap.size ∧ ∀ j, j < n → w.cell? ⟨g, j, none⟩ = some (.int .i64 (xs[j]?.getD 0))) := by
    refine Lib.hid ?_
    cases hM with
    | nil A cap => exact fun h => absurd h (Nat.lt_irrefl 0)
    | row g n cap xs h1 h2 h3 h4 h5 h6 h7 => exact fun _ => ⟨g, rfl, by omega, h6⟩
  clear hM
  by_cases hpl : (1 ≤ p ∧ p ≤ 4) ∧ (1 ≤ l ∧ l ≤ 6) ∧ (n : Int) = p
  · obtain ⟨⟨h1, h2⟩, ⟨h3, h4⟩, h5⟩ := hpl
    obtain ⟨Y, rfl⟩ : ∃ Y : Nat, l = Y := ⟨l.toNat, by omega⟩
    subst h5
    have hp : 2 ^ Y ≤ 64 := Nat.le_trans (Nat.pow_le_pow_right (n := 2) (by omega) (show Y ≤ 6 by omega)) (by decide)
    have hpi : (2 : Int) ^ Y ≤ 64 := by rw [← int_pow]; omega
    have hpi0 : (0 : Int) < (2 : Int) ^ Y := by rw [← int_pow]; have := Nat.two_pow_pos Y; omega
    obtain ⟨bl, hbl⟩ : ∃ b, fValidGather (n : Int) (Y : Int) r c xs = b := ⟨_, rfl⟩
    rw [hbl]
    have HBL := Lib.hid (show bl = (decide (inG n Y r c) && allIn (2 ^ Y) xs) by rw [← hbl, fValidGather, Int.toNat_natCast, decide_eq_true (show ((xs.length : Int) = (n : Int)) by omega), Bool.true_and])
    clear hbl
    go_enter Tryd.func59, Tryd.ntmps59
    go_wp2
    go_quiet ((go_at_call 50; exact quiet_of_eq (l00In_yes _ _ _ (by omega) (by omega) _)))
    go_wp2
    go_loopw [3] (fun i wr => ∃ k j : Nat, k ≤ n ∧ i = .int .i64 k ∧ wr = w.drewN j ∧ Hid (∀ i, i < k → 0 ≤ xs[i]?.getD 0 ∧ xs[i]?.getD 0 < ((2 ^ Y : Nat) : Int))) (fun i _ => n - (intOf i).toNat)
    case atStart => exact ⟨0, _, Nat.zero_le _, rfl, rfl, Lib.hid fun i h => by omega⟩
    case round =>
      obtain ⟨k, j, hk, rfl, rfl, HO⟩ := hrel
      have c0' : (w.drewN j).cell? ⟨q, 0, none⟩ = some (.int .i64 n) := c0
      have c1' : (w.drewN j).cell? ⟨q, 1, none⟩ = some (.int .i64 Y) := c1
      have c2' : (w.drewN j).cell? ⟨q, 2, none⟩ = some (.slice A n cap) := c2
      have c3' : (w.drewN j).cell? ⟨q, 3, none⟩ = some (.int .i64 r) := c3
      have c4' : (w.drewN j).cell? ⟨q, 4, none⟩ = some (.int .i64 c) := c4
      by_cases hlt : k < n
      · obtain ⟨g, rfl, hg, hcl⟩ := HCELL.out (by omega)
        have hck : (w.drewN j).cell? ⟨g, k, none⟩ = some (.int .i64 (xs[k]?.getD 0)) := hcl k hlt
        obtain ⟨z, hz⟩ : ∃ z, xs[k]?.getD 0 = z := ⟨_, rfl⟩
        rw [hz] at hck
        have HZ := Lib.hid hz
        clear hz hcl c0 c1 c2 c3 c4 hX
        generalize hwq : w.drewN j = W at hck c0' c1' c2' c3' c4' ⊢
        have HW := Lib.hid hwq
        clear hwq
        by_cases hg : 0 ≤ z ∧ z < 2 ^ Y
        · go_wp2
          go_quiet ((go_at_call 50; exact quiet_of_eq (l00In_yes _ _ _ (by omega) (by omega) _)))
          go_wp2
          go_roundw
          case rel => exact ⟨k + 1, j + _, by omega, by go_num, by rw [← HW.out, World.drewN_drewN], Lib.hid fun i hi => by
            by_cases e : i = k
            · subst e; rw [HZ.out]; exact ⟨hg.1, by rw [int_pow]; exact hg.2⟩
            · exact HO.out i (by omega)⟩
          case measure => simp [intOf]; omega
        · have hbf : bl = false := by
            rw [HBL.out, allIn_no k (by omega) (by rw [HZ.out, int_pow]; omega), Bool.and_false]
          have HBF := Lib.hid hbf.symm
          clear hbf
          go_wp2
          go_quiet ((go_at_call 50; exact quiet_of_eq (l00In_no _ _ _ (by omega) _)))
          go_wp2
          go_ret
          exact ⟨ret_bool HBF.out, _, by rw [← HW.out, World.drewN_drewN]⟩
      · obtain rfl : k = n := by omega
        have ha : allIn (2 ^ Y) xs = true := allIn_yes fun i hi => HO.out i (by omega)
        by_cases hrc : (0 ≤ r ∧ r ≤ 3) ∧ (1 ≤ c ∧ c ≤ 3)
        · obtain ⟨⟨r1, r2⟩, r3, r4⟩ := hrc
          have HBT := Lib.hid (show true = bl by rw [HBL.out, ha, Bool.and_true]; exact (decide_eq_true ⟨h1, h2, h3, h4, r1, r2, r3, r4⟩).symm)
          go_wp2
          go_ret
          exact ⟨ret_bool (by have h := HBT.out; subst h; first | rfl | (simp; done) | (simp; omega)), _, rfl⟩
        · have HBF := Lib.hid (show false = bl by rw [HBL.out, decide_eq_false (fun h => hrc ⟨⟨h.2.2.2.2.1, h.2.2.2.2.2.1⟩, h.2.2.2.2.2.2.1, h.2.2.2.2.2.2.2⟩), Bool.false_and])
          by_cases hr : 0 ≤ r ∧ r ≤ 3
          · have hc : c < 1 ∨ 3 < c := by omega
            clear hrc
            rcases hc with hc | hc
            all_goals
              go_wp2
              go_ret
              exact ⟨ret_bool (by have h := HBF.out; subst h; first | rfl | (simp; done) | (simp; omega)), _, rfl⟩
          · have hc : r < 0 ∨ 3 < r := by omega
            clear hrc hr
            rcases hc with hc | hc
            all_goals
              go_wp2
              go_ret
              exact ⟨ret_bool (by have h := HBF.out; subst h; first | rfl | (simp; done) | (simp; omega)), _, rfl⟩
  · have hv : fValidGather p l r c xs = false := by
      cases h : fValidGather p l r c xs with
      | false => rfl
      | true =>
        rw [fValidGather] at h
        simp only [Bool.and_eq_true, decide_eq_true_eq] at h
        obtain ⟨⟨g1, g2, g3, g4, _⟩, g5, _⟩ := h
        exact absurd ⟨⟨g1, g2⟩, ⟨g3, g4⟩, by omega⟩ hpl
    rw [hv]
    clear hv
    by_cases g1 : 1 ≤ p ∧ p ≤ 4
    · by_cases g2 : 1 ≤ l ∧ l ≤ 6
      · have g3 : ¬ ((n : Int) = p) := fun h => hpl ⟨g1, g2, h⟩
        clear hpl
        go_enter Tryd.func59, Tryd.ntmps59
        go_wp2
        go_quiet ((go_at_call 50; first | exact quiet_of_eq (l00In_yes _ _ _ (by omega) (by omega) _) | exact quiet_of_eq (l00In_no _ _ _ (by omega) _)))
        go_wp2
        go_ret
        exact ⟨rfl, _, rfl⟩
      · clear hpl
        go_enter Tryd.func59, Tryd.ntmps59
        go_wp2
        go_quiet ((go_at_call 50; first | exact quiet_of_eq (l00In_yes _ _ _ (by omega) (by omega) _) | exact quiet_of_eq (l00In_no _ _ _ (by omega) _)))
        go_wp2
        go_ret
        exact ⟨rfl, _, rfl⟩
    · clear hpl
      go_enter Tryd.func59, Tryd.ntmps59
      go_wp2
      go_quiet ((go_at_call 50; first | exact quiet_of_eq (l00In_yes _ _ _ (by omega) (by omega) _) | exact quiet_of_eq (l00In_no _ _ _ (by omega) _)))
      go_wp2
      go_ret
      exact ⟨rfl, _, rfl⟩

end Go.Proofs.YtibennpdffgomaaDoor
