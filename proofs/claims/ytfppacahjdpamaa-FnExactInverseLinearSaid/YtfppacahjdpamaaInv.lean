/- Inverses: what the model's helper and the program's test return. -/
import Derived.Test.YtfppacahjdpamaaMakeArgs
import Derived.Test.YtfppacahjdpamaaPw
namespace Go.Proofs.Ytfppacahjdpamaa
open Go.RowKit
set_option linter.unusedVariables false

theorem ret_int2 {a b : Int} {v : Value} (h : a = b) : Ending.returned (.tuple #[.int .i64 a, v]) = .returned (.tuple #[.int .i64 b, v]) := by rw [h]
set_option maxHeartbeats 2000000 in
theorem l01Inverse_any (m P n : Nat) (hF : Fld m P n) (a : Nat) (ha : a < n) (w : World) :
    Calls Try.prog 105 #[.agg #[.int .i64 m, .int .i64 P], .int .i64 a] w fun e w' => e = .returned (.int .i64 (pw P a (n - 2))) ∧ Below w.heap.size w w' := by
  have hn := hF.n2
  have h32 := hF.n32
  have e0 : (n : Int) - 2 = ((n - 2 : Nat) : Int) := by omega
  have E0 := Lib.hid e0
  clear e0
  go_enter Try.func105, Try.ntmps105
  have hA := (FAt.start w m P 27).drew
  have ew : IntKind.i64.wrap ((n : Int) - 2) = (n : Int) - 2 := by rw [IntKind.wrap_i64]; omega
  go_wp2
  go_region_held3 (fun w' => w'.cell? ⟨w.heap.size, 0, none⟩ = some (.int .i64 m) ∧ w'.cell? ⟨w.heap.size, 1, none⟩ = some (.int .i64 P) ∧ FAt w m P w') (first | exact ⟨hA.c0, hA.c1, hA⟩ | exact ⟨by assumption, by assumption, by assumption⟩) (first | (go_at_call 49; refine (l01Size_any _ _ _ hF _).mono ?_; rintro e w1 ⟨rfl, hb1⟩; have k1 : FAt w m P w1 := FAt.next (by assumption) hb1; have q0 := k1.c0; have q1 := k1.c1; clear hb1) | (go_at_call 122; rw [E0.out]; refine (l01Power_any _ _ _ hF _ ha _ (by omega) _).mono ?_; rintro e w2 ⟨rfl, hb2⟩; have k2 : FAt w m P w2 := FAt.next (by assumption) hb2; have q2 := k2.c0; have q3 := k2.c1; clear hb2))
  all_goals go_wp2
  all_goals go_ret
  all_goals exact ⟨rfl, FAt.b (by assumption)⟩

end Go.Proofs.Ytfppacahjdpamaa
