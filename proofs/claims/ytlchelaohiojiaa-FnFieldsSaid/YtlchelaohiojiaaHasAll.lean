/- The program's calculator: whether all numbers of a list are elements. -/
import Derived.Test.YtlchelaohiojiaaFill
import Derived.Test.YtlchelaohiojiaaMt
import Derived.Test.YtlchelaohiojiaaDivPure
namespace Go.Proofs.Ytlchelaohiojiaa
open Go.RowKit
set_option linter.unusedVariables false

set_option maxHeartbeats 800000 in
theorem hasAll_any (c m P n : Nat) (hF : Fld m P n) (A : Option Addr) (len cap : Nat) (zs : List Int) (hlen : len ≤ 140737488351232) (w : World) (hA : Arg w A len zs) (hD : w.cell? ⟨c, 0, none⟩ = some (.int .i64 m)) :
    Calls Try.prog 72 #[.pointer (some ⟨c, 0, none⟩), .slice A len cap] w fun e w' => e = .returned (.bool (allIn n zs)) ∧ w = w' := by
  obtain ⟨b, hb⟩ : ∃ b, allIn n zs = b := ⟨_, rfl⟩
  rw [hb]
  have HB := Lib.hid hb
  clear hb
  have hl := hA.len
  go_enter Try.func72, Try.ntmps72
  go_wp2
  go_loop [9] (fun i => ∃ k : Nat, k ≤ len ∧ i = .int .i64 k ∧ Hid (∀ j, j < k → 0 ≤ zs[j]?.getD 0 ∧ zs[j]?.getD 0 < n)) (fun i => len - (intOf i).toNat)
  case atStart => exact ⟨0, Nat.zero_le _, rfl, Lib.hid (fun j hj => by omega)⟩
  case round =>
    obtain ⟨k, hk, rfl, HI⟩ := hrel
    by_cases hlt : k < len
    · obtain ⟨a, rfl, hbl, hc⟩ := hA.cell (by omega)
      have hck := hc k hlt
      clear hc
      obtain ⟨z, hz⟩ : ∃ z, zs[k]?.getD 0 = z := ⟨_, rfl⟩
      rw [hz] at hck
      have HZ := Lib.hid hz
      clear hz
      by_cases hin : 0 ≤ z ∧ z < n
      · obtain ⟨hi0, hi1⟩ := hin
        go_wp2_with (go_at_call 123; refine (has_yes c m P n hF _ hi0 hi1 _ hD).mono ?_; rintro e w' ⟨rfl, rfl⟩)
        go_round
        case rel => exact ⟨k + 1, by omega, by go_num, Lib.hid (fun j hj => by
          by_cases e : j = k
          · subst e; rw [HZ.out]; exact ⟨hi0, hi1⟩
          · exact HI.out j (by omega))⟩
        case measure => simp [intOf]; omega
      · have hno : z < 0 ∨ (n : Int) ≤ z := by omega
        have HN := Lib.hid hno
        clear hno hin
        go_wp2_with (go_at_call 123; refine (has_no c m P n hF _ HN.out _ hD).mono ?_; rintro e w' ⟨rfl, rfl⟩)
        go_ret
        exact ⟨ret_bool (by rw [← HB.out]; exact (allIn_no k (by omega) (by rw [HZ.out]; exact HN.out)).symm), rfl⟩
    obtain rfl : k = len := by omega
    go_wp2
    go_ret
    exact ⟨ret_bool (by rw [← HB.out]; exact (allIn_yes (fun j hj => HI.out j (by omega))).symm), rfl⟩
end Go.Proofs.Ytlchelaohiojiaa
