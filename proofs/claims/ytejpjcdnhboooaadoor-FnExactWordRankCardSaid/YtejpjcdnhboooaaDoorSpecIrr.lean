/- The reference model's irreducible polynomials and fields: what its functions return. -/
import Derived.Test.YtejpjcdnhboooaaDoorDeg
namespace Go.Proofs.YtejpjcdnhboooaaDoor
open Go.RowKit
set_option linter.unusedVariables false

theorem noDiv_succ (p q : Nat) (h : noDiv p q = true) (hr : prest p q ≠ 0) : noDiv p (q + 1) = true := by
  simp [noDiv, h, hr]
theorem irr_false_of_nb {p : Nat} (h : nb p < 2 ∨ 6 < nb p) : irr p = false := by
  cases hc : irr p with
  | false => rfl
  | true => have := irr_nb hc; omega

theorem nb_two {p : Nat} (h : 2 ≤ nb p) : 2 ≤ p := by
  rcases Nat.lt_or_ge p 2 with h' | h'
  · have : nb p ≤ 1 := nb_le_of_lt h'
    omega
  · exact h'

set_option maxHeartbeats 800000 in
theorem l01Irreducible_any (p : Nat) (hp : p < 64) (w : World) :
    Calls Tryd.prog 65 #[.int .i64 p] w fun e w' => e = .returned (.bool (irr p)) ∧ w = w' := by
  have hb : nb p ≤ 6 := nb_le_of_lt (by omega)
  by_cases h2 : 2 ≤ nb p
  · have g1 : ¬ ((nb p : Int) - 1 < 1) := by omega
    have g2 : ¬ (5 < (nb p : Int) - 1) := by omega
    go_enter Tryd.func65, Tryd.ntmps65
    go_wp2_with (go_at_call 43; refine (l01Degree_any _ (by omega) _).mono ?_; rintro e w' ⟨rfl, rfl⟩)
    go_loop [4] (fun a => ∃ q : Nat, 2 ≤ q ∧ q ≤ 64 ∧ noDiv p q = true ∧ a = .int .i64 q) (fun a => 64 - (intOf a).toNat)
    case atStart => exact ⟨2, by omega, by omega, by simp [noDiv], rfl⟩
    case round =>
      obtain ⟨q, hq2, hq64, hno, rfl⟩ := hrel
      have HN := Lib.hid hno
      clear hno
      by_cases hlt : nb q < nb p
      · have hq : q < 64 := by
          by_cases e : q = 64
          · subst e
            have : nb 64 = 7 := by decide
            omega
          · omega
        by_cases hr : prest p q = 0
        · have hr' : ((prest p q : Int) == 0) = true := by simp [hr]
          go_wp2_with (first | (go_at_call 43; refine (l01Degree_any _ (by omega) _).mono ?_; rintro e w' ⟨rfl, rfl⟩) | (go_at_call 73; refine (l01Rest_any _ _ (by omega) (by omega) (by omega) _).mono ?_; rintro e w' ⟨rfl, rfl⟩))
          go_ret
          exact ⟨ret_bool (irr_no ⟨p, hp⟩ ⟨q, hq⟩ hq2 hlt hr).symm, rfl⟩
        · have hr' : ((prest p q : Int) == 0) = false := by simp [hr]
          go_wp2_with (first | (go_at_call 43; refine (l01Degree_any _ (by omega) _).mono ?_; rintro e w' ⟨rfl, rfl⟩) | (go_at_call 73; refine (l01Rest_any _ _ (by omega) (by omega) (by omega) _).mono ?_; rintro e w' ⟨rfl, rfl⟩))
          go_round
          case rel => exact ⟨q + 1, by omega, by omega, noDiv_succ p q HN.out hr, by go_num⟩
          case measure => simp [intOf]; omega
      · go_wp2_with (go_at_call 43; refine (l01Degree_any _ (by omega) _).mono ?_; rintro e w' ⟨rfl, rfl⟩)
        go_ret
        exact ⟨ret_bool (irr_yes ⟨p, by omega⟩ ⟨q, by omega⟩ (nb_two h2) hp (by show nb p ≤ nb q; omega) HN.out).symm, rfl⟩
  · have g1 : ((nb p : Int) - 1 < 1) := by omega
    go_enter Tryd.func65, Tryd.ntmps65
    go_wp2_with (go_at_call 43; refine (l01Degree_any _ (by omega) _).mono ?_; rintro e w' ⟨rfl, rfl⟩)
    go_ret
    exact ⟨ret_bool (irr_false_of_nb (.inl (by omega))).symm, rfl⟩

/-- Whether a number is an irreducible polynomial. -/
def irrI (p : Int) : Bool := decide (0 < p) && decide (p < 64) && irr p.toNat

set_option maxHeartbeats 400000 in
theorem specIsIrreducible_any (p : Int) (w : World) :
    Calls Tryd.prog 42 #[.int .i64 p] w fun e w' => e = .returned (.bool (irrI p)) ∧ w = w' := by
  by_cases h1 : 0 < p
  · by_cases h2 : p < 64
    · obtain ⟨n, rfl⟩ := Int.eq_ofNat_of_zero_le (by omega : 0 ≤ p)
      go_enter Tryd.func42, Tryd.ntmps42
      go_wp2_with (go_at_call 65; refine (l01Irreducible_any _ (by omega) _).mono ?_; rintro e w' ⟨rfl, rfl⟩)
      go_ret
      exact ⟨ret_bool (by unfold irrI; rw [decide_eq_true h1, decide_eq_true h2]; simp), rfl⟩
    · go_enter Tryd.func42, Tryd.ntmps42
      go_wp2
      go_ret
      exact ⟨ret_bool (by unfold irrI; rw [decide_eq_false (p := p < 64) (by omega)]; simp), rfl⟩
  · go_enter Tryd.func42, Tryd.ntmps42
    go_wp2
    go_ret
    exact ⟨ret_bool (by unfold irrI; rw [decide_eq_false (p := 0 < p) (by omega)]; simp), rfl⟩
end Go.Proofs.YtejpjcdnhboooaaDoor
