/- The program's degree and prest of polynomials: what the two functions return. -/
import Derived.Test.YtejpjcdnhboooaaDoorDeg
import Derived.Test.YtejpjcdnhboooaaDoorShelf
namespace Go.Proofs.YtejpjcdnhboooaaDoor
open Go.RowKit
set_option linter.unusedVariables false

set_option maxHeartbeats 400000 in
theorem polyDegree_nat (p : Nat) (hp : p < 4611686018427387904) (w : World) :
    Calls Tryd.prog 71 #[.int .i64 p] w fun e w' => e = .returned (.int .i64 ((nb p : Int) - 1)) ∧ w = w' := by
  have hb : nb p ≤ 62 := nb_le_of_lt (by omega)
  have HB := Lib.hid (bitLen_eq (p := p) (by omega))
  go_enter Tryd.func71, Tryd.ntmps71
  go_wp2_with (go_at_call 75; refine (Tryd.bits_Len64 _ _ (by omega) (by omega)).mono ?_; rintro e w' ⟨rfl, rfl⟩; simp only [Int.toNat_natCast, HB.out])
  go_ret
  exact ⟨rfl, rfl⟩

set_option maxHeartbeats 400000 in
theorem polyDegree_any (p : Int) (hl : -9223372036854775808 ≤ p) (hh : p ≤ 9223372036854775807) (w : World) :
    Calls Tryd.prog 71 #[.int .i64 p] w fun e w' => e = .returned (.int .i64 ((nb (p % 18446744073709551616).toNat : Int) - 1)) ∧ w = w' := by
  have hr1 : 0 ≤ p % 18446744073709551616 := by omega
  have hr2 : p % 18446744073709551616 ≤ 18446744073709551615 := by omega
  have HB := Lib.hid (bitLen_eq (p := (p % 18446744073709551616).toNat) (by omega))
  have hb : nb (p % 18446744073709551616).toNat ≤ 64 := nb_le_of_lt (by omega)
  go_enter Tryd.func71, Tryd.ntmps71
  go_wp2_with (go_at_call 75; rw [IntKind.wrap_u64]; refine (Tryd.bits_Len64 _ _ (by omega) (by omega)).mono ?_; rintro e w' ⟨rfl, rfl⟩; simp only [HB.out])
  go_ret
  exact ⟨rfl, rfl⟩

set_option maxHeartbeats 400000 in
theorem polyRest_any (p q : Nat) (hp : p < 1048576) (hq0 : 0 < q) (hq : q < 1048576) (w : World) :
    Calls Tryd.prog 61 #[.int .i64 p, .int .i64 q] w fun e w' => e = .returned (.int .i64 (prest p q)) ∧ w = w' := by
  have hb : nb p ≤ 20 := nb_le_of_lt (by omega)
  have hbq : nb q ≤ 20 := nb_le_of_lt (by omega)
  go_enter Tryd.func61, Tryd.ntmps61
  go_wp2
  go_loop [0] (fun a => ∃ r : Nat, r ≤ p ∧ nb r ≤ nb p ∧ prest r q = prest p q ∧ a = .int .i64 r) (fun a => (intOf a).toNat)
  case atStart => exact ⟨p, Nat.le_refl _, Nat.le_refl _, rfl, rfl⟩
  case round =>
    obtain ⟨r, hr, hn, he, rfl⟩ := hrel
    have HE := Lib.hid he
    clear he
    by_cases h0 : nb q ≤ nb r
    · have H1 := Lib.hid (nb_stepp hq0 h0)
      have H2 := Lib.hid (stepp_lt hq0 h0)
      have H3 := Lib.hid (prest_step hq0 h0)
      go_wp2_with (go_at_call 71; refine (polyDegree_nat _ (by omega) _).mono ?_; rintro e w' ⟨rfl, rfl⟩)
      rw [step_bits r q hq0 (by omega) h0]
      refine ⟨⟨stepp r q, ?_, ?_, ?_, rfl⟩, ?_⟩
      · have := H2.out; omega
      · have := H1.out; omega
      · rw [H3.out, HE.out]
      · have := H2.out; simp [intOf]; omega
    · go_wp2_with (go_at_call 71; refine (polyDegree_nat _ (by omega) _).mono ?_; rintro e w' ⟨rfl, rfl⟩)
      go_ret
      exact ⟨ret_int (by rw [← HE.out, prest_lt (by omega)]), rfl⟩
end Go.Proofs.YtejpjcdnhboooaaDoor
