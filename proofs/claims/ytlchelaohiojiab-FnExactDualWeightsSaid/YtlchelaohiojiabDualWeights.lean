/- DualWeights: the program and the model. -/
import Derived.Test.YtlchelaohiojiabDwS2
import Derived.Test.YtlchelaohiojiabDwI3
namespace Go.Proofs.Ytlchelaohiojiab
open Go.RowKit Go.Joins
set_option linter.unusedVariables false

theorem fDw_R {r c : Int} {ws : List Int} (h : ¬ ((1 ≤ r ∧ r ≤ 5) ∧ (1 ≤ c ∧ c ≤ 5) ∧ (ws.length : Int) = r + 1 ∧ ws.all okW = true)) : fDualWeights r c ws = ([], 2) := if_pos h
theorem fDw_E {R C : Nat} {ws : List Int} (h : (1 ≤ (R : Int) ∧ (R : Int) ≤ 5) ∧ (1 ≤ (C : Int) ∧ (C : Int) ≤ 5) ∧ (ws.length : Int) = (R : Int) + 1 ∧ ws.all okW = true) (h2 : ¬ (R ≤ C ∧ wt ws 0 = 1)) : fDualWeights R C ws = ([], 4) := by
  rw [fDualWeights, if_neg (fun k => k h), if_pos (fun k => h2 ⟨by omega, k.2⟩)]
theorem fDw_F {R C : Nat} {ws : List Int} (h : (1 ≤ (R : Int) ∧ (R : Int) ≤ 5) ∧ (1 ≤ (C : Int) ∧ (C : Int) ≤ 5) ∧ (ws.length : Int) = (R : Int) + 1 ∧ ws.all okW = true) (h2 : R ≤ C ∧ wt ws 0 = 1) : fDualWeights R C ws = if (List.range (R + 1)).all (okJ R C ws) = true then (duW R C ws (R + 1), 0) else ([], 4) := by
  rw [fDualWeights, if_neg (fun k => k h), if_neg (fun k => k ⟨by omega, h2.2⟩)]; rfl

theorem specDualWeights_any (r c : Int) (b len cap : Nat) (zs : List Int) (w : World) (hM : Mt w b len zs) :
    Calls Try.prog 4 #[.int .i64 r, .int .i64 c, .slice (some ⟨b, 0, none⟩) len cap] w fun e w' => ∃ v, e = .returned (.tuple #[v, .int .i64 (fDualWeights r c zs).2]) ∧ Below w.heap.size w w' ∧ Res w' w.heap.size w'.heap.size v (fDualWeights r c zs).1 := by
  have hl := hM.len
  by_cases h1 : 1 ≤ r ∧ r ≤ 5
  rotate_left
  · rw [fDw_R (fun k => h1 k.1)]; exact specDw_A r c b len cap zs w hM h1
  by_cases h2 : 1 ≤ c ∧ c ≤ 5
  rotate_left
  · rw [fDw_R (fun k => h2 k.2.1)]; exact specDw_B r c b len cap zs w hM h1 h2
  by_cases h3 : (len : Int) = r + 1
  rotate_left
  · rw [fDw_R (fun k => h3 (by have := k.2.2.1; omega))]; exact specDw_C r c b len cap zs w hM h1 h2 h3
  cases ha : zs.all okW with
  | false =>
    obtain ⟨t, h4, h5, h6⟩ := wt_bad ha
    rw [fDw_R (fun k => by rw [ha] at k; exact absurd k.2.2.2 (by simp))]
    exact specDw_D r c b len cap zs w hM h1 h2 h3 t (by omega) h5 h6
  | true =>
    obtain ⟨R, rfl⟩ := Int.eq_ofNat_of_zero_le (by omega : 0 ≤ r)
    obtain ⟨C, rfl⟩ := Int.eq_ofNat_of_zero_le (by omega : 0 ≤ c)
    have hk : (1 ≤ (R : Int) ∧ (R : Int) ≤ 5) ∧ (1 ≤ (C : Int) ∧ (C : Int) ≤ 5) ∧ (zs.length : Int) = (R : Int) + 1 ∧ zs.all okW = true := ⟨h1, h2, by omega, ha⟩
    by_cases h4 : R ≤ C ∧ wt zs 0 = 1
    · rw [fDw_F hk h4]
      have S := specDw_F R C (by omega) (by omega) b len cap (by omega) zs w hM ha h4.1 h4.2
      refine S.mono ?_
      rintro e w' ⟨v, rfl, hb, hR⟩
      refine ⟨v, ?_, hb, ?_⟩
      · split <;> rfl
      · revert hR; split <;> exact id
    · rw [fDw_E hk h4]
      exact specDw_E R C (by omega) (by omega) b len cap (by omega) zs w hM ha (by rcases Nat.lt_or_ge C R with h | h; exact .inl (by omega); exact .inr fun k => h4 ⟨h, k⟩)
theorem implDualWeights_any (r c : Int) (b len cap : Nat) (zs : List Int) (w : World) (hM : Mt w b len zs) :
    Calls Try.prog 6 #[.int .i64 r, .int .i64 c, .slice (some ⟨b, 0, none⟩) len cap] w fun e w' => ∃ v, e = .returned (.tuple #[v, .int .i64 (fDualWeights r c zs).2]) ∧ Below w.heap.size w w' ∧ Res w' w.heap.size w'.heap.size v (fDualWeights r c zs).1 := by
  have hl := hM.len
  by_cases h1 : 1 ≤ r ∧ r ≤ 5
  rotate_left
  · rw [fDw_R (fun k => h1 k.1)]; exact implDw_A r c b len cap zs w hM h1
  by_cases h2 : 1 ≤ c ∧ c ≤ 5
  rotate_left
  · rw [fDw_R (fun k => h2 k.2.1)]; exact implDw_B r c b len cap zs w hM h1 h2
  by_cases h3 : (len : Int) = r + 1
  rotate_left
  · rw [fDw_R (fun k => h3 (by have := k.2.2.1; omega))]; exact implDw_C r c b len cap zs w hM h1 h2 h3
  cases ha : zs.all okW with
  | false =>
    obtain ⟨t, h4, h5, h6⟩ := wt_bad ha
    rw [fDw_R (fun k => by rw [ha] at k; exact absurd k.2.2.2 (by simp))]
    exact implDw_D r c b len cap zs w hM h1 h2 h3 t (by omega) h5 h6
  | true =>
    obtain ⟨R, rfl⟩ := Int.eq_ofNat_of_zero_le (by omega : 0 ≤ r)
    obtain ⟨C, rfl⟩ := Int.eq_ofNat_of_zero_le (by omega : 0 ≤ c)
    have hk : (1 ≤ (R : Int) ∧ (R : Int) ≤ 5) ∧ (1 ≤ (C : Int) ∧ (C : Int) ≤ 5) ∧ (zs.length : Int) = (R : Int) + 1 ∧ zs.all okW = true := ⟨h1, h2, by omega, ha⟩
    by_cases h4 : R ≤ C ∧ wt zs 0 = 1
    · rw [fDw_F hk h4]
      have S := implDw_F R C (by omega) (by omega) b len cap (by omega) zs w hM ha h4.1 h4.2
      refine S.mono ?_
      rintro e w' ⟨v, rfl, hb, hR⟩
      refine ⟨v, ?_, hb, ?_⟩
      · split <;> rfl
      · revert hR; split <;> exact id
    · rw [fDw_E hk h4]
      exact implDw_E R C (by omega) (by omega) b len cap (by omega) zs w hM ha (by rcases Nat.lt_or_ge C R with h | h; exact .inl (by omega); exact .inr fun k => h4 ⟨h, k⟩)
end Go.Proofs.Ytlchelaohiojiab
