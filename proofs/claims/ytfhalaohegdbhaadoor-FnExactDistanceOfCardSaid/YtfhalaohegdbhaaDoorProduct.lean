/- The product of two rows: the model. -/
import Derived.Test.YtfhalaohegdbhaaDoorSp1
import Derived.Test.YtfhalaohegdbhaaDoorKern
namespace Go.Proofs.YtfhalaohegdbhaaDoor
open Go.RowKit Go.Joins
set_option linter.unusedVariables false

/-- A truth as a number. -/
def b01 (b : Bool) : Nat := if b then 1 else 0
theorem b01_le (b : Bool) : b01 b ≤ 1 := by cases b <;> simp [b01]
theorem b01_xor (s : Bool) (y : Nat) : b01 s ^^^ (y % 2) = b01 (s ^^ (y % 2 == 1)) := by
  have : y % 2 = 0 ∨ y % 2 = 1 := by omega
  rcases this with h | h <;> rw [h] <;> cases s <;> rfl

set_option maxHeartbeats 800000 in
theorem l02Product_any (a b : Nat) (ha : a < 4294967296) (hb : b < 4294967296) (w : World) :
    Calls Tryd.prog 84 #[.int .i64 a, .int .i64 b] w fun e w' => e = .returned (.int .i64 (b01 (prd a b) : Nat)) ∧ w = w' := by
  have hand := i64_and_nat a b (by omega) (by omega)
  have hlt : a &&& b < 2 ^ 32 := Nat.and_lt_two_pow _ (by omega)
  unfold prd
  obtain ⟨x, hx⟩ : ∃ x, a &&& b = x := ⟨_, rfl⟩
  rw [hx] at hand hlt ⊢
  clear hx
  go_enter Tryd.func84, Tryd.ntmps84
  go_wp2_with fail
  go_loop [5, 6] (fun n y => ∃ (s : Bool) (z : Nat), z ≤ x ∧ n = .int .i64 (b01 s : Nat) ∧ y = .int .i64 z ∧ (s ^^ par z) = par x) (fun _ y => (intOf y).toNat)
  case atStart => exact ⟨false, x, Nat.le_refl _, rfl, rfl, by simp⟩
  case round =>
    obtain ⟨s, z, hz, rfl, rfl, hp⟩ := hrel
    have hs := b01_le s
    by_cases hz0 : 0 < z
    · have h1 := i64_and1 z (by omega)
      have h2 := i64_xor_nat (b01 s) (z % 2) (by omega) (by omega)
      rw [b01_xor] at h2
      have hd : (z : Int) / 2 = ((z / 2 : Nat) : Int) := by omega
      have hp2 : ((s ^^ (z % 2 == 1)) ^^ par (z / 2)) = par x := by rw [← hp, par_half z, Bool.xor_assoc]
      have HP := Lib.hid hp2
      have H1 := Lib.hid h1
      have H2 := Lib.hid h2
      have HD := Lib.hid hd
      clear hp hp2 h1 h2 hd
      go_wp2_with fail
      go_round
      case rel => exact ⟨s ^^ (z % 2 == 1), z / 2, by omega, by rw [H1.out, H2.out], by go_num, HP.out⟩
      case measure => simp [intOf]; omega
    · obtain rfl : z = 0 := by omega
      rw [par_zero, Bool.xor_false] at hp
      subst hp
      go_wp2_with fail
      go_ret
      exact ⟨rfl, rfl⟩
end Go.Proofs.YtfhalaohegdbhaaDoor
