/- The rank of a matrix: the model's. -/
import Derived.Test.YtcdhdgflgdmhdaaDoorEchS
namespace Go.Proofs.YtcdhdgflgdmhdaaDoor
open Go.RowKit Go.Joins
set_option linter.unusedVariables false

set_option maxHeartbeats 800000 in
theorem l02Rank_any (C b n cap : Nat) (L : List Nat) (hC : C ≤ 10) (hL : ∀ r ∈ L, r < 2 ^ C) (hn : n ≤ 1024) (w : World) (hM : Mt w b n (ints L)) :
    Calls Tryd.prog 34 #[.int .i64 C, .slice (some ⟨b, 0, none⟩) n cap] w fun e w' => e = .returned (.int .i64 ((joined [] L).length : Nat)) ∧ Below w.heap.size w w' := by
  have S := l02Echelon_any C b n cap L hC hL hn w hM
  rw [cols_eq hL] at S
  have hlen : (joined [] L).length ≤ 10 := Nat.le_trans ((joined_spec L Ech.nil).1.len (joined_lt .nil (by simp) hL)) hC
  generalize (joined [] L).length = m at S hlen ⊢
  have HS := Lib.hid S
  clear S hM hL
  go_enter Tryd.func34, Tryd.ntmps34
  go_wp2_with fail
  refine HS.out.mono ?_
  rintro e w1 ⟨g, cp, rfl, hb, _⟩
  go_wp2_with fail
  go_ret
  exact ⟨rfl, hb⟩
end Go.Proofs.YtcdhdgflgdmhdaaDoor
