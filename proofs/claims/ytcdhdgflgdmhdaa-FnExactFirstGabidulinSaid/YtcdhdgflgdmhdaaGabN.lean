/- Marks on a result's points, and whether they are held: what a law's own functions do. -/
import Derived.Test.YtcdhdgflgdmhdaaGab
namespace Go.Proofs.Ytcdhdgflgdmhdaa
open Go.RowKit Go.Joins
set_option linter.unusedVariables false
set_option maxHeartbeats 400000 in
theorem markGab_out {w : World} {B T : Nat} (d p kd : Int) {v : Value} {xs : List Int} (h : Res w B T v xs) (k0 : Nat) (hk : k0 ≤ 1048577) (hx : xs.length ≤ 1048576) :
    Calls Try.prog 41 #[.agg (gabC d p v kd), .int .i64 k0] w fun e w' => e = .returned (.int .i64 ((k0 + xs.length : Nat) : Int)) ∧ Chg B T w w' ∧ Res w' B T v (marks k0 xs.length) := by
  obtain ⟨ao, m, cp, rfl⟩ := h.form
  go_enter Try.func41, Try.ntmps41
  go_wp2_with fail
  refine (mark_res (h.next (below_alloc1 _ _)) k0 hk hx).mono ?_
  rintro e w1 ⟨rfl, hC, hR⟩
  have HC := Lib.hid ((Chg.of (below_alloc1 w _)).trans hC)
  have HRR := Lib.hid hR
  clear hC hR
  obtain ⟨s, hs⟩ : ∃ s : Nat, k0 + xs.length = s := ⟨_, rfl⟩
  rw [hs]
  go_wp2_with fail
  go_ret
  exact ⟨by rw [hs]; rfl, HC.out, HRR.out⟩
set_option maxHeartbeats 400000 in
theorem heldGab_res {w : World} {B T : Nat} (d p kd : Int) {v : Value} (k0 n : Nat) (h : Res w B T v (marks k0 n)) (hk : k0 ≤ 1048577) (hx : n ≤ 1048576) :
    Calls Try.prog 42 #[.agg (gabC d p v kd), .int .i64 k0] w fun e w' => e = .returned (.int .i64 ((k0 + n : Nat) : Int)) ∧ Below w.heap.size w w' := by
  obtain ⟨ao, m, cp, rfl⟩ := h.form
  have hb := below_alloc1 w (.cells (gabC d p (.slice ao m cp) kd) 53)
  obtain ⟨s, hs⟩ : ∃ s : Nat, k0 + n = s := ⟨_, rfl⟩
  have S := held_res k0 n (h.next hb) hk hx
  rw [hs] at S ⊢
  have HS := Lib.hid S
  clear S hs
  go_enter Try.func42, Try.ntmps42
  go_wp2_with fail
  refine HS.out.mono ?_
  rintro e w1 ⟨rfl, rfl⟩
  go_wp2_with fail
  go_ret
  exact ⟨rfl, hb⟩
end Go.Proofs.Ytcdhdgflgdmhdaa
