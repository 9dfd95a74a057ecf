/- Squarings: what the model's and the program's function return. -/
import Derived.Test.YtlchelaohiojiaaDoorInv
import Derived.Test.YtlchelaohiojiaaDoorSqr
namespace Go.Proofs.YtlchelaohiojiaaDoor
open Go.RowKit
set_option linter.unusedVariables false

set_option maxHeartbeats 800000 in
theorem l01Square_any (m P n : Nat) (hF : Fld m P n) (a : Nat) (ha : a < n) (k : Nat) (hk : k ≤ 1000000) (w : World) :
    Calls Tryd.prog 83 #[.agg #[.int .i64 m, .int .i64 P], .int .i64 a, .int .i64 k] w fun e w' => e = .returned (.int .i64 (sq P a k)) ∧ Below w.heap.size w w' := by
  have HS := Lib.hid (sq_mod hF ha k)
  have hm1 := hF.m1
  have hm5 := hF.m5
  have hm0 : ¬ (m : Int) = 0 := by omega
  have hmod : k % m < m := Nat.mod_lt _ (by omega)
  have e0 : (k : Int) % (m : Int) = ((k % m : Nat) : Int) := by simp
  generalize k % m = r at HS hmod e0
  have E0 := Lib.hid e0
  clear e0
  go_enter Tryd.func83, Tryd.ntmps83
  go_wp2
  rw [E0.out]
  go_loopw [1, 2] (fun s i wr => ∃ j : Nat, j ≤ r ∧ i = .int .i64 ((r - j : Nat) : Int) ∧ s = .int .i64 (sq P a j) ∧ FAt w m P wr) (fun _ i _ => (intOf i).toNat)
  case atStart => exact ⟨0, Nat.zero_le _, rfl, rfl, FAt.start w m P 25⟩
  case round =>
    obtain ⟨j, hj, rfl, rfl, hA⟩ := hrel
    have z1 := hA.z; have c1 := hA.c0; have d1 := hA.c1
    obtain ⟨i, hi⟩ : ∃ i : Nat, r - j = i := ⟨_, rfl⟩
    have hlt := sq_lt hF ha j
    have hik : i ≤ r := by omega
    rw [hi]
    by_cases hlt0 : 0 < i
    · have HI := Lib.hid hi
      clear hi
      go_wp2_with fail
      refine (l01Mul_any _ _ _ hF _ _ hlt hlt _).mono ?_
      rintro e w2 ⟨rfl, hb⟩
      have h2 := hA.next hb
      clear hb
      go_wp2
      go_roundw
      case rel => exact ⟨j + 1, by have := HI.out; omega, by have := HI.out; rw [show r - (j + 1) = i - 1 by omega]; go_num, rfl, h2⟩
      case measure => simp [intOf]; omega
    · have HI := Lib.hid hi
      clear hi
      go_wp2
      go_ret
      exact ⟨ret_int (by have := HI.out; rw [← HS.out, show j = r by omega]), hA.b⟩

end Go.Proofs.YtlchelaohiojiaaDoor
