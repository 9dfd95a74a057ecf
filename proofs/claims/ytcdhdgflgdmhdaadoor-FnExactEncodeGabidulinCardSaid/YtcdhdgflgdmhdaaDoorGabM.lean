/- Marks on a Gabidulin code's points: what a law's own function does. -/
import Derived.Test.YtcdhdgflgdmhdaaDoorGab
namespace Go.Proofs.YtcdhdgflgdmhdaaDoor
open Go.RowKit Go.Joins
set_option linter.unusedVariables false
set_option maxHeartbeats 400000 in
theorem markGab_res {w : World} {B T : Nat} (d p kd : Int) {v : Value} {xs : List Int} (h : Res w B T v xs) (k0 : Nat) (hk : k0 ≤ 1048577) (hx : xs.length ≤ 1048576) :
    Calls Tryd.prog 17 #[.agg (gabC d p v kd), .int .i64 k0] w fun e w' => e = .returned (.int .i64 ((k0 + xs.length : Nat) : Int)) ∧ Chg B T w w' := by
  obtain ⟨ao, m, cp, rfl⟩ := h.form
  go_enter Tryd.func17, Tryd.ntmps17
  go_wp2_with fail
  refine (mark_res (h.next (below_alloc1 _ _)) k0 hk hx).mono ?_
  rintro e w1 ⟨rfl, hC, hR⟩
  have HC := Lib.hid ((Chg.of (below_alloc1 w _)).trans hC)
  clear hC hR
  obtain ⟨s, hs⟩ : ∃ s : Nat, k0 + xs.length = s := ⟨_, rfl⟩
  rw [hs]
  go_wp2_with fail
  go_ret
  exact ⟨by rw [hs]; rfl, HC.out⟩
theorem G4.chg {w0 W W' : World} {d p : Int} {v : Value} {k : Int} {B T : Nat} (h : G4 w0 d p v k W) (hb : Chg B T W W') (hq : w0.heap.size < B) : G4 w0 d p v k W' :=
  ⟨Chg.below h.b (by have := h.z; omega) hb (by omega), h.x.chg hb (.inl hq)⟩
end Go.Proofs.YtcdhdgflgdmhdaaDoor
