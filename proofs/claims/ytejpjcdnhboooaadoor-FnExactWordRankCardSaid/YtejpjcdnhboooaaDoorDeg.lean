/- The reference model's degree and prest of polynomials: what the two functions return. -/
import Derived.Test.YtejpjcdnhboooaaDoorPure
import Derived.Test.YtejpjcdnhboooaaDoorTop
import Derived.WalkKit
import Derived.WalkLawsBesides
import Derived.WalkSpells
import Derived.Lib.Hide
import Derived.Laws.BitsAllLaws
namespace Go.Proofs.YtejpjcdnhboooaaDoor
open Go.RowKit
set_option linter.unusedVariables false

set_option maxHeartbeats 400000 in
theorem l01Degree_any (p : Nat) (hp : p < 4611686018427387904) (w : World) :
    Calls Tryd.prog 43 #[.int .i64 p] w fun e w' => e = .returned (.int .i64 ((nb p : Int) - 1)) ∧ w = w' := by
  have hb : nb p ≤ 62 := nb_le_of_lt (by omega)
  go_enter Tryd.func43, Tryd.ntmps43
  go_wp2
  go_loop [0, 3] (fun a n => ∃ q : Nat, q ≤ p ∧ nb q ≤ nb p ∧ a = .int .i64 q ∧ n = .int .i64 ((nb p : Int) - (nb q : Int) - 1)) (fun a _ => (intOf a).toNat)
  case atStart => exact ⟨p, Nat.le_refl _, Nat.le_refl _, rfl, by rw [show ((nb p : Int) - nb p - 1) = -1 by omega]⟩
  case round =>
    obtain ⟨q, hq, hn, rfl, rfl⟩ := hrel
    by_cases h0 : 0 < q
    · have H := Lib.hid (nb_half h0)
      go_wp2
      go_round
      case rel => exact ⟨q / 2, by omega, by have := H.out; omega, by go_num, by have := H.out; go_num⟩
      case measure => simp [intOf]; omega
    · go_wp2
      go_ret
      have hq0 : q = 0 := by omega
      subst hq0
      exact ⟨ret_int (by simp [nb]), rfl⟩

theorem step_bits (r q : Nat) (hq0 : 0 < q) (hr : r < 1048576) (h : nb q ≤ nb r) : bits .xor .i64 (r : Int) (wrap64 ((q : Int) * 2 ^ ((nb r : Int) - 1 - ((nb q : Int) - 1)).toNat)) = ((stepp r q : Nat) : Int) := by
  have e : ((nb r : Int) - 1 - ((nb q : Int) - 1)).toNat = nb r - nb q := by omega
  rw [e]
  have h1 := nb_lt (p := q)
  have h2 : q * 2 ^ (nb r - nb q) < 2 ^ 20 := by
    have hb : nb r ≤ 20 := nb_le_of_lt (by omega)
    calc q * 2 ^ (nb r - nb q) < 2 ^ nb q * 2 ^ (nb r - nb q) := Nat.mul_lt_mul_of_pos_right h1 (Nat.two_pow_pos _)
      _ = 2 ^ nb r := by rw [← Nat.pow_add]; congr 1; omega
      _ ≤ 2 ^ 20 := Nat.pow_le_pow_right (by omega) hb
  rw [shl_nat _ _ (by omega), i64_xor_nat _ _ (by omega) (by omega)]
  rfl

set_option maxHeartbeats 400000 in
theorem l01Rest_any (p q : Nat) (hp : p < 1048576) (hq0 : 0 < q) (hq : q < 1048576) (w : World) :
    Calls Tryd.prog 73 #[.int .i64 p, .int .i64 q] w fun e w' => e = .returned (.int .i64 (prest p q)) ∧ w = w' := by
  have hb : nb p ≤ 20 := nb_le_of_lt (by omega)
  have hbq : nb q ≤ 20 := nb_le_of_lt (by omega)
  go_enter Tryd.func73, Tryd.ntmps73
  go_wp2_with (go_at_call 43; refine (l01Degree_any _ (by omega) _).mono ?_; rintro e w' ⟨rfl, rfl⟩)
  go_loop [0] (fun a => ∃ r : Nat, r ≤ p ∧ nb r ≤ nb p ∧ prest r q = prest p q ∧ a = .int .i64 r) (fun a => (intOf a).toNat)
  case atStart => exact ⟨p, Nat.le_refl _, Nat.le_refl _, rfl, rfl⟩
  case round =>
    obtain ⟨r, hr, hn, he, rfl⟩ := hrel
    have HE := Lib.hid he
    clear he
    by_cases h0 : nb q ≤ nb r
    · have H1 := Lib.hid (nb_stepp hq0 h0)
      have H2 := Lib.hid (stepp_lt hq0 h0)
      have H3 := Lib.hid (prest_step hq0 h0)
      go_wp2_with (go_at_call 43; refine (l01Degree_any _ (by omega) _).mono ?_; rintro e w' ⟨rfl, rfl⟩)
      rw [step_bits r q hq0 (by omega) h0]
      refine ⟨⟨stepp r q, ?_, ?_, ?_, rfl⟩, ?_⟩
      · have := H2.out; omega
      · have := H1.out; omega
      · rw [H3.out, HE.out]
      · have := H2.out; simp [intOf]; omega
    · go_wp2_with (go_at_call 43; refine (l01Degree_any _ (by omega) _).mono ?_; rintro e w' ⟨rfl, rfl⟩)
      go_ret
      exact ⟨ret_int (by rw [← HE.out, prest_lt (by omega)]), rfl⟩

end Go.Proofs.YtejpjcdnhboooaaDoor
