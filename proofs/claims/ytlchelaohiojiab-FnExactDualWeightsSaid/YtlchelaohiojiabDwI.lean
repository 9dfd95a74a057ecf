/- DualWeights: the program's sum. -/
import Derived.Test.YtlchelaohiojiabDwS
namespace Go.Proofs.Ytlchelaohiojiab
open Go.RowKit Go.Joins
set_option linter.unusedVariables false

theorem six_cell (w : World) (x0 x1 x2 x3 x4 x5 : Int) (T : TypeId) : ∀ i, i ≤ 5 → (w.alloc (.cells #[.int .i64 x0, .int .i64 x1, .int .i64 x2, .int .i64 x3, .int .i64 x4, .int .i64 x5] T)).cell? ⟨w.heap.size, i, none⟩ = some (.int .i64 (wt [x0, x1, x2, x3, x4, x5] i))
  | 0, _ => by simp [wt]
  | 1, _ => by simp [wt]
  | 2, _ => by simp [wt]
  | 3, _ => by simp [wt]
  | 4, _ => by simp [wt]
  | 5, _ => by simp [wt]
  | i + 6, h => by omega
theorem wrap_id {x : Int} (h0 : 0 ≤ x) (h1 : x < 9223372036854775808) : wrap64 x = x := by unfold wrap64; omega
theorem v_eq {y g1 g2 X C : Int} (hy : 0 ≤ y ∧ y ≤ 33554432) (h1 : 0 ≤ g1) (h2 : g1 < 1024) (h3 : 0 ≤ g2) (h4 : g2 < 1024) (hX : 0 ≤ X) (hC : g1 * g2 * X = C) (h5 : 0 ≤ C) (h6 : C < 268435456) :
    wrap64 (wrap64 (wrap64 (y * g1) * g2) * X) = y * C ∧ 0 ≤ y * C ∧ y * C ≤ 33554432 * 268435456 := by
  have a1 := mm (a := y) (b := g1) (A := 33554432) (B := 1024) hy.1 hy.2 h1 (by omega)
  have a2 := mm (a := y * g1) (b := g2) (A := 33554432 * 1024) (B := 1024) a1.1 a1.2 h3 (by omega)
  have a3 := mm (a := y) (b := C) (A := 33554432) (B := 268435456) hy.1 hy.2 h5 (by omega)
  have e : y * g1 * g2 * X = y * C := by rw [← hC]; simp only [Int.mul_assoc]
  refine ⟨?_, a3.1, a3.2⟩
  rw [wrap_id a1.1 (by omega), wrap_id a2.1 (by omega), e, wrap_id a3.1 (by omega)]
set_option maxRecDepth 100000 in
set_option maxHeartbeats 800000 in
theorem dualSum_any (n m j : Nat) (hm : m ≤ 5) (hnm : n ≤ m) (hj : j ≤ n) (x0 x1 x2 x3 x4 x5 : Int) (ws : List Int) (hws : ws = [x0, x1, x2, x3, x4, x5]) (hw : ∀ i, 0 ≤ wt ws i ∧ wt ws i ≤ 33554432) (w : World) :
    Calls Try.prog 13 #[.agg #[.int .i64 x0, .int .i64 x1, .int .i64 x2, .int .i64 x3, .int .i64 x4, .int .i64 x5], .int .i64 n, .int .i64 m, .int .i64 j] w fun e w' => e = .returned (.int .i64 (dsD n m j ws (n + 1))) ∧ Below w.heap.size w w' := by
  have HC := Lib.hid (fun i hi => six_cell w x0 x1 x2 x3 x4 x5 33 i hi)
  have HB := Lib.hid (below_alloc1 w (.cells #[.int .i64 x0, .int .i64 x1, .int .i64 x2, .int .i64 x3, .int .i64 x4, .int .i64 x5] 33))
  rw [← hws] at HC
  clear hws
  go_enter Try.func13, Try.ntmps13
  go_wp2_with fail
  generalize w.alloc (.cells #[.int .i64 x0, .int .i64 x1, .int .i64 x2, .int .i64 x3, .int .i64 x4, .int .i64 x5] 33) = w1 at HC HB ⊢
  go_loopw [9, 16] (fun s c v => ∃ i q : Nat, i ≤ n + 1 ∧ c = .int .i64 i ∧ s = .int .i64 (dsD n m j ws i) ∧ v = w1.drewN q) (fun _ c _ => n + 1 - (intOf c).toNat)
  case atStart => exact ⟨0, 0, Nat.zero_le _, rfl, rfl, rfl⟩
  case round =>
    obtain ⟨i, q, hi, rfl, rfl, rfl⟩ := hrel
    by_cases hlt : i < n + 1
    · have hin : (i : Int) ≤ n := by omega
      by_cases hjn : (n : Int) - (i : Int) < (j : Int)
      · go_wp2_with fail
        go_loopw [9, 25] (fun s c v => ∃ l q : Nat, l ≤ toD n j i ∧ c = .int .i64 l ∧ s = .int .i64 (dsD n m j ws i + wt ws i * tD n m j i l) ∧ v = w1.drewN q) (fun _ c _ => 12 - (intOf c).toNat)
        case atStart => exact ⟨0, _, Nat.zero_le _, rfl, by simp [tD], rfl⟩
        case round =>
          obtain ⟨l, q, hl, rfl, rfl, rfl⟩ := hrel
          have hl6 : toD n j i ≤ 6 := by unfold toD; omega
          have hd0 := dsD_at hm hnm hj hw i (by omega)
          by_cases hll : l < toD n j i
          · have hlj : l ≤ j := by unfold toD at hll; omega
            have hli : l ≤ n - i := by unfold toD at hll; omega
            have hcl : (l : Int) < (n : Int) - (i : Int) + 1 := by unfold toD at hll; omega
            have hc := HC.out i (by omega)
            have hi5 : i ≤ 5 := by omega
            have hi6 : (i : Int) < 6 := by omega
            have h1 : (m : Int) * (l : Int) ≤ 5 * 5 := (mm (by omega) (by omega) (by omega) (by omega)).2
            have h2 : 0 ≤ (m : Int) * (l : Int) := (mm (A := 5) (B := 5) (by omega) (by omega) (by omega) (by omega)).1
            have h3 := rr_at (j := j) (l := l) (by omega) (by omega) (by omega)
            have hsub1 : (n : Int) - (l : Int) = ((n - l : Nat) : Int) := by omega
            have hsub2 : (n : Int) - (j : Int) = ((n - j : Nat) : Int) := by omega
            have hsub3 : (n : Int) - (i : Int) = ((n - i : Nat) : Int) := by omega
            obtain ⟨c1, c2, c3, c4⟩ := cf_at hm hnm hj (show i ≤ n by omega) hlj hli
            have ht0 := tD_at hm hnm hj (show i ≤ n by omega) hl
            have ht1 := tD_at (l := l + 1) hm hnm hj (show i ≤ n by omega) hll
            have HG1 := Lib.hid (fun w => countSpaces_any (n - l) (n - j) (by omega) (by omega) w)
            have HG2 := Lib.hid (fun w => countSpaces_any (n - i) l (by omega) hli w)
            have hy := hw i
            have h4 := (mm (a := (gauss (n - l) (n - j) : Int)) (b := (gauss (n - i) l : Int)) (A := 1023) (B := 1023) (by omega) (by omega) (by omega) (by omega))
            have hmt := mul_two hy.1 hy.2 ht0 (by omega)
            have hstep : tD n m j i (l + 1) = tD n m j i l + sgD j l (cfD n m j i l : Nat) := rfl
            have hcf : cfD n m j i l = gauss (n - l) (n - j) * gauss (n - i) l * 2 ^ shD m j l := rfl
            obtain ⟨A1, hA1⟩ : ∃ a, n - l = a := ⟨_, rfl⟩
            obtain ⟨A2, hA2⟩ : ∃ a, n - j = a := ⟨_, rfl⟩
            obtain ⟨A3, hA3⟩ : ∃ a, n - i = a := ⟨_, rfl⟩
            rw [hA1, hA2, hA3] at h4 hcf
            rw [hA1, hA2] at c2
            rw [hA3] at c3
            rw [hA1, hA2] at HG1
            rw [hA3] at HG2 hsub3
            rw [hA1] at hsub1
            rw [hA2] at hsub2
            obtain ⟨g1, hg1⟩ : ∃ g, gauss A1 A2 = g := ⟨_, rfl⟩
            obtain ⟨g2, hg2⟩ : ∃ g, gauss A3 l = g := ⟨_, rfl⟩
            rw [hg1, hg2] at h4 hcf
            rw [hg1] at HG1 c2
            rw [hg2] at HG2 c3
            have hC1 : (g1 : Int) * (g2 : Int) * ((2 ^ shD m j l : Nat) : Int) = (cfD n m j i l : Nat) := by rw [hcf, Int.natCast_mul, Int.natCast_mul]
            have hVV := v_eq (y := wt ws i) (g1 := (g1 : Int)) (g2 := (g2 : Int)) hy (by omega) (by omega) (by omega) (by omega) (Int.natCast_nonneg (2 ^ shD m j l)) hC1 (by omega) (by omega)
            have hVN : wrap64 (wrap64 (wrap64 (wt ws i * (g1 : Int)) * (g2 : Int)) * 2 ^ (m * l + (j - l) * (j - l - 1) / 2)) = wt ws i * (cfD n m j i l : Nat) := by
              rw [← hVV.1, Int.natCast_pow]; rfl
            have hVI : wrap64 (wrap64 (wrap64 (wt ws i * (g1 : Int)) * (g2 : Int)) * 2 ^ ((m : Int) * (l : Int) + ((j : Int) - (l : Int)) * ((j : Int) - (l : Int) - 1) / 2).toNat) = wt ws i * (cfD n m j i l : Nat) := by
              rw [← hVV.1, Int.natCast_pow, shD_int hlj (by omega)]; rfl
            obtain ⟨-, hE0, hE1⟩ := hVV
            have hnew : dsD n m j ws i + wt ws i * tD n m j i (l + 1) = (dsD n m j ws i + wt ws i * tD n m j i l) + (if (j - l) % 2 = 1 then -(wt ws i * (cfD n m j i l : Nat)) else wt ws i * (cfD n m j i l : Nat)) := by
              rw [hstep, Int.mul_add, ← Int.add_assoc]; congr 1; unfold sgD; split
              · exact Int.mul_neg _ _
              · rfl
            clear hA1 hA2 hA3 hg1 hg2 hC1 hcf hstep c1 ht0 ht1
            generalize wt ws i * (cfD n m j i l : Nat) = E at hVN hVI hE0 hE1 hnew
            have hF0 : -200000000000000000 ≤ dsD n m j ws i + wt ws i * tD n m j i l := by omega
            have hF1 : dsD n m j ws i + wt ws i * tD n m j i l ≤ 200000000000000000 := by omega
            have HW := Lib.hid hnew
            generalize dsD n m j ws i + wt ws i * tD n m j i l = F at hF0 hF1 HW ⊢
            have HN := Lib.hid hVN; have HI := Lib.hid hVI
            clear hd0 hmt hnew hVN hVI
            generalize wt ws i = y at hc hy HN HI HW ⊢
            go_wp2_with fail
            go_quiet ((go_at_call 15; (first | (with_reducible refine (HG1.out _).mono ?_) | (with_reducible refine (HG2.out _).mono ?_)); exact fun _ _ h => ⟨h.1, _, h.2.symm⟩))
            first | rw [HN.out] | rw [HI.out]
            by_cases hp : (j - l) % 2 = 1
            · have hpi : ((j : Int) - (l : Int)) % 2 = 1 := by omega
              go_wp2_with fail
              go_roundw
              case rel => exact ⟨l + 1, q + _, by omega, by go_num, int_eq (by rw [HW.out, if_pos hp]), rfl⟩
              case measure => simp [intOf]; omega
            · have hpi : ¬ ((j : Int) - (l : Int)) % 2 = 1 := by omega
              go_wp2_with fail
              go_roundw
              case rel => exact ⟨l + 1, q + _, by omega, by go_num, int_eq (by rw [HW.out, if_neg hp]), rfl⟩
              case measure => simp [intOf]; omega
          · obtain rfl : l = toD n j i := by omega
            have hcl : ¬ ((toD n j i : Nat) : Int) < (n : Int) - (i : Int) + 1 := by unfold toD; omega
            have HE := Lib.hid (show dsD n m j ws (i + 1) = dsD n m j ws i + wt ws i * tD n m j i (toD n j i) from rfl)
            generalize dsD n m j ws i + wt ws i * tD n m j i (toD n j i) = F at HE ⊢
            go_wp2_with fail
            go_roundw
            case rel => exact ⟨i + 1, q, by omega, by go_num, by rw [HE.out], rfl⟩
            case measure => simp [intOf]; omega
      · go_wp2_with fail
        go_loopw [9, 25] (fun s c v => ∃ l q : Nat, l ≤ toD n j i ∧ c = .int .i64 l ∧ s = .int .i64 (dsD n m j ws i + wt ws i * tD n m j i l) ∧ v = w1.drewN q) (fun _ c _ => 12 - (intOf c).toNat)
        case atStart => exact ⟨0, _, Nat.zero_le _, rfl, by simp [tD], rfl⟩
        case round =>
          obtain ⟨l, q, hl, rfl, rfl, rfl⟩ := hrel
          have hl6 : toD n j i ≤ 6 := by unfold toD; omega
          have hd0 := dsD_at hm hnm hj hw i (by omega)
          by_cases hll : l < toD n j i
          · have hlj : l ≤ j := by unfold toD at hll; omega
            have hli : l ≤ n - i := by unfold toD at hll; omega
            have hcl : (l : Int) < (j : Int) + 1 := by unfold toD at hll; omega
            have hc := HC.out i (by omega)
            have hi5 : i ≤ 5 := by omega
            have hi6 : (i : Int) < 6 := by omega
            have h1 : (m : Int) * (l : Int) ≤ 5 * 5 := (mm (by omega) (by omega) (by omega) (by omega)).2
            have h2 : 0 ≤ (m : Int) * (l : Int) := (mm (A := 5) (B := 5) (by omega) (by omega) (by omega) (by omega)).1
            have h3 := rr_at (j := j) (l := l) (by omega) (by omega) (by omega)
            have hsub1 : (n : Int) - (l : Int) = ((n - l : Nat) : Int) := by omega
            have hsub2 : (n : Int) - (j : Int) = ((n - j : Nat) : Int) := by omega
            have hsub3 : (n : Int) - (i : Int) = ((n - i : Nat) : Int) := by omega
            obtain ⟨c1, c2, c3, c4⟩ := cf_at hm hnm hj (show i ≤ n by omega) hlj hli
            have ht0 := tD_at hm hnm hj (show i ≤ n by omega) hl
            have ht1 := tD_at (l := l + 1) hm hnm hj (show i ≤ n by omega) hll
            have HG1 := Lib.hid (fun w => countSpaces_any (n - l) (n - j) (by omega) (by omega) w)
            have HG2 := Lib.hid (fun w => countSpaces_any (n - i) l (by omega) hli w)
            have hy := hw i
            have h4 := (mm (a := (gauss (n - l) (n - j) : Int)) (b := (gauss (n - i) l : Int)) (A := 1023) (B := 1023) (by omega) (by omega) (by omega) (by omega))
            have hmt := mul_two hy.1 hy.2 ht0 (by omega)
            have hstep : tD n m j i (l + 1) = tD n m j i l + sgD j l (cfD n m j i l : Nat) := rfl
            have hcf : cfD n m j i l = gauss (n - l) (n - j) * gauss (n - i) l * 2 ^ shD m j l := rfl
            obtain ⟨A1, hA1⟩ : ∃ a, n - l = a := ⟨_, rfl⟩
            obtain ⟨A2, hA2⟩ : ∃ a, n - j = a := ⟨_, rfl⟩
            obtain ⟨A3, hA3⟩ : ∃ a, n - i = a := ⟨_, rfl⟩
            rw [hA1, hA2, hA3] at h4 hcf
            rw [hA1, hA2] at c2
            rw [hA3] at c3
            rw [hA1, hA2] at HG1
            rw [hA3] at HG2 hsub3
            rw [hA1] at hsub1
            rw [hA2] at hsub2
            obtain ⟨g1, hg1⟩ : ∃ g, gauss A1 A2 = g := ⟨_, rfl⟩
            obtain ⟨g2, hg2⟩ : ∃ g, gauss A3 l = g := ⟨_, rfl⟩
            rw [hg1, hg2] at h4 hcf
            rw [hg1] at HG1 c2
            rw [hg2] at HG2 c3
            have hC1 : (g1 : Int) * (g2 : Int) * ((2 ^ shD m j l : Nat) : Int) = (cfD n m j i l : Nat) := by rw [hcf, Int.natCast_mul, Int.natCast_mul]
            have hVV := v_eq (y := wt ws i) (g1 := (g1 : Int)) (g2 := (g2 : Int)) hy (by omega) (by omega) (by omega) (by omega) (Int.natCast_nonneg (2 ^ shD m j l)) hC1 (by omega) (by omega)
            have hVN : wrap64 (wrap64 (wrap64 (wt ws i * (g1 : Int)) * (g2 : Int)) * 2 ^ (m * l + (j - l) * (j - l - 1) / 2)) = wt ws i * (cfD n m j i l : Nat) := by
              rw [← hVV.1, Int.natCast_pow]; rfl
            have hVI : wrap64 (wrap64 (wrap64 (wt ws i * (g1 : Int)) * (g2 : Int)) * 2 ^ ((m : Int) * (l : Int) + ((j : Int) - (l : Int)) * ((j : Int) - (l : Int) - 1) / 2).toNat) = wt ws i * (cfD n m j i l : Nat) := by
              rw [← hVV.1, Int.natCast_pow, shD_int hlj (by omega)]; rfl
            obtain ⟨-, hE0, hE1⟩ := hVV
            have hnew : dsD n m j ws i + wt ws i * tD n m j i (l + 1) = (dsD n m j ws i + wt ws i * tD n m j i l) + (if (j - l) % 2 = 1 then -(wt ws i * (cfD n m j i l : Nat)) else wt ws i * (cfD n m j i l : Nat)) := by
              rw [hstep, Int.mul_add, ← Int.add_assoc]; congr 1; unfold sgD; split
              · exact Int.mul_neg _ _
              · rfl
            clear hA1 hA2 hA3 hg1 hg2 hC1 hcf hstep c1 ht0 ht1
            generalize wt ws i * (cfD n m j i l : Nat) = E at hVN hVI hE0 hE1 hnew
            have hF0 : -200000000000000000 ≤ dsD n m j ws i + wt ws i * tD n m j i l := by omega
            have hF1 : dsD n m j ws i + wt ws i * tD n m j i l ≤ 200000000000000000 := by omega
            have HW := Lib.hid hnew
            generalize dsD n m j ws i + wt ws i * tD n m j i l = F at hF0 hF1 HW ⊢
            have HN := Lib.hid hVN; have HI := Lib.hid hVI
            clear hd0 hmt hnew hVN hVI
            generalize wt ws i = y at hc hy HN HI HW ⊢
            go_wp2_with fail
            go_quiet ((go_at_call 15; (first | (with_reducible refine (HG1.out _).mono ?_) | (with_reducible refine (HG2.out _).mono ?_)); exact fun _ _ h => ⟨h.1, _, h.2.symm⟩))
            first | rw [HN.out] | rw [HI.out]
            by_cases hp : (j - l) % 2 = 1
            · have hpi : ((j : Int) - (l : Int)) % 2 = 1 := by omega
              go_wp2_with fail
              go_roundw
              case rel => exact ⟨l + 1, q + _, by omega, by go_num, int_eq (by rw [HW.out, if_pos hp]), rfl⟩
              case measure => simp [intOf]; omega
            · have hpi : ¬ ((j : Int) - (l : Int)) % 2 = 1 := by omega
              go_wp2_with fail
              go_roundw
              case rel => exact ⟨l + 1, q + _, by omega, by go_num, int_eq (by rw [HW.out, if_neg hp]), rfl⟩
              case measure => simp [intOf]; omega
          · obtain rfl : l = toD n j i := by omega
            have hcl : ¬ ((toD n j i : Nat) : Int) < (j : Int) + 1 := by unfold toD; omega
            have HE := Lib.hid (show dsD n m j ws (i + 1) = dsD n m j ws i + wt ws i * tD n m j i (toD n j i) from rfl)
            generalize dsD n m j ws i + wt ws i * tD n m j i (toD n j i) = F at HE ⊢
            go_wp2_with fail
            go_roundw
            case rel => exact ⟨i + 1, q, by omega, by go_num, by rw [HE.out], rfl⟩
            case measure => simp [intOf]; omega
    · obtain rfl : i = n + 1 := by omega
      repeat (first | go_guarded | go_step)
      go_ret
      exact ⟨rfl, below_drewN HB.out _⟩
end Go.Proofs.Ytlchelaohiojiab
