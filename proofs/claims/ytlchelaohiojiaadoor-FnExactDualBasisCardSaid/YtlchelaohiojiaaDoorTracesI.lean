/- A row of traces: the program's. -/
import Derived.Test.YtlchelaohiojiaaDoorDualPure
import Derived.Test.YtlchelaohiojiaaDoorBasI
import Derived.Laws.BitsAllLaws
namespace Go.Proofs.YtlchelaohiojiaaDoor
open Go.RowKit Go.Joins
set_option linter.unusedVariables false

theorem or_add5 : ∀ j : Fin 5, ∀ t : Fin 2, ∀ s : Fin 16, s.val < 2 ^ j.val → s.val ||| (t.val * 2 ^ j.val) = s.val + t.val * 2 ^ j.val := by decide
theorem u64_put (s t j : Nat) (hs : s < 2 ^ j) (ht : t < 2) (hj : j < 5) : bits .or .u64 (s : Int) (IntKind.u64.wrap ((t : Int) * 2 ^ j)) = ((s + t * 2 ^ j : Nat) : Int) := by
  have hp5 : 2 ^ j ≤ 16 := Nat.pow_le_pow_right (n := 2) (by omega) (show j ≤ 4 by omega)
  have h1 := or_add5 ⟨j, hj⟩ ⟨t, ht⟩ ⟨s, by omega⟩ hs
  simp only at h1
  have h2 : t * 2 ^ j ≤ 1 * 2 ^ j := Nat.mul_le_mul_right _ (by omega)
  have e : ((t : Int) * 2 ^ j) = ((t * 2 ^ j : Nat) : Int) := by simp
  rw [e, IntKind.wrap_u64, show (((t * 2 ^ j : Nat) : Int) % 18446744073709551616) = ((t * 2 ^ j : Nat) : Int) by omega, u64_or_nat _ _ (by omega) (by omega), h1]

set_option maxRecDepth 100000 in
set_option maxHeartbeats 3200000 in
theorem tracesWith_any (c m P n : Nat) (hF : Fld m P n) (A : Option Addr) (k cap : Nat) (p : List Nat) (hp : ∀ j, nth p j < n) (hk : k ≤ 5) (d : Nat) (hd : d < n) (w : World) (hC : Calc c m P n w) (hS : Rl w .i64 A k p) :
    Calls Tryd.prog 44 #[.pointer (some ⟨c, 0, none⟩), .slice A k cap, .int .u8 d] w fun e w' => e = .returned (.int .u64 (trm P m p d k : Nat)) ∧ w = w' := by
  have HP := Lib.hid hp
  have HS := Lib.hid hS
  have HC := Lib.hid hC
  have h32 := hF.n32
  clear hp hS hC
  go_enter Tryd.func44, Tryd.ntmps44
  go_wp2_with fail
  go_loop [7, 12] (fun s i => ∃ j : Nat, j ≤ k ∧ i = .int .i64 j ∧ s = .int .u64 (trm P m p d j : Nat)) (fun _ i => k - (intOf i).toNat)
  case atStart => exact ⟨0, Nat.zero_le _, rfl, rfl⟩
  case round =>
    obtain ⟨j, hj, rfl, rfl⟩ := hrel
    by_cases hlj : j < k
    · obtain ⟨g, rfl, hg, hc⟩ := HS.out.row (by omega)
      have hrow := hc j hlj
      clear hc
      have hx := HP.out j
      have hcs : trm P m p d (j + 1) = trm P m p d j + tr P (mul P (nth p j) d) m * 2 ^ j := rfl
      have hcl : trm P m p d j < 2 ^ j := trm_lt hF HP.out hd j
      have ht2 : tr P (mul P (nth p j) d) m < 2 := tr_two hF (hF.mul_lt (nth p j) d)
      have hml := hF.mul_lt (nth p j) d
      have hp5 : 2 ^ j ≤ 16 := Nat.pow_le_pow_right (n := 2) (by omega) (show j ≤ 4 by omega)
      have HR := Lib.hid (product_any c m P n hF (nth p j) d hx hd w HC.out)
      have HT := Lib.hid (trace_any c m P n hF (mul P (nth p j) d) hml w HC.out)
      generalize mul P (nth p j) d = x at hcs ht2 hml HR HT
      have HCS := Lib.hid hcs
      generalize trm P m p d j = s at hcs hcl HCS ⊢
      generalize tr P x m = t at hcs ht2 HT HCS
      generalize nth p j = y at hx hrow HR
      have e1 : IntKind.u8.wrap (y : Int) = y := by rw [IntKind.wrap_u8']; omega
      clear hcs
      go_wp2_with (first | (go_at_call 47; refine HR.out.mono ?_; rintro e w' ⟨rfl, rfl⟩) | (go_at_call 48; refine HT.out.mono ?_; rintro e w' ⟨rfl, rfl⟩))
      go_round
      case rel => exact ⟨j + 1, by omega, by go_num, by rw [HCS.out, u64_put s t j hcl ht2 (by omega)]⟩
      case measure => simp [intOf]; omega
    · obtain rfl : j = k := by omega
      go_wp2_with fail
      go_ret
      exact ⟨rfl, rfl⟩
end Go.Proofs.YtlchelaohiojiaaDoor
