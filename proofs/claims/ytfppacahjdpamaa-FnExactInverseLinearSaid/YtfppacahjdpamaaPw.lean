/- Powers by the reference model. -/
import Derived.Test.YtfppacahjdpamaaSpecMul
import Derived.Test.YtfppacahjdpamaaMakeArgs
namespace Go.Proofs.Ytfppacahjdpamaa
open Go.RowKit
set_option linter.unusedVariables false

set_option maxHeartbeats 800000 in
theorem l01Power_any (m P n : Nat) (hF : Fld m P n) (a : Nat) (ha : a < n) (k : Nat) (hk : k ≤ 1000000) (w : World) :
    Calls Try.prog 122 #[.agg #[.int .i64 m, .int .i64 P], .int .i64 a, .int .i64 k] w fun e w' => e = .returned (.int .i64 (pw P a k)) ∧ Below w.heap.size w w' := by
  go_enter Try.func122, Try.ntmps122
  go_wp2
  go_loopw [2, 7] (fun i s wr => ∃ j : Nat, j ≤ k ∧ i = .int .i64 ((k - j : Nat) : Int) ∧ s = .int .i64 (pw P a j) ∧ FAt w m P wr) (fun i _ _ => (intOf i).toNat)
  case atStart => exact ⟨0, Nat.zero_le _, rfl, rfl, FAt.start w m P 27⟩
  case round =>
    obtain ⟨j, hj, rfl, rfl, hA⟩ := hrel
    have z1 := hA.z; have c1 := hA.c0; have d1 := hA.c1
    obtain ⟨i, hi⟩ : ∃ i : Nat, k - j = i := ⟨_, rfl⟩
    have hlt := pw_lt hF a j
    have hik : i ≤ k := by omega
    rw [hi]
    by_cases hlt0 : 0 < i
    · have HI := Lib.hid hi
      clear hi
      go_wp2_with fail
      refine (l01Mul_any _ _ _ hF _ _ hlt ha _).mono ?_
      rintro e w2 ⟨rfl, hb⟩
      have h2 := hA.next hb
      clear hb
      go_wp2
      go_roundw
      case rel => exact ⟨j + 1, by have := HI.out; omega, by have := HI.out; rw [show k - (j + 1) = i - 1 by omega]; go_num, rfl, h2⟩
      case measure => simp [intOf]; omega
    · have HI := Lib.hid hi
      clear hi
      go_wp2
      go_ret
      exact ⟨ret_int (by have := HI.out; rw [show j = k by omega]), hA.b⟩
end Go.Proofs.Ytfppacahjdpamaa
