/- Sums of the rows that the bits of a number tell: the program and the model. -/
import Derived.Test.YtilghmfffdmnjaaDoorGridsFor
namespace Go.Proofs.YtilghmfffdmnjaaDoor
open Go.RowKit Go.Joins
set_option linter.unusedVariables false

theorem nth_le {L : List Nat} (h : ∀ j, nth L j < 1024) (r : Nat) : ∀ k, tms r L k < 1024 := tms_lt (C := 10) h r

set_option maxHeartbeats 1600000 in
theorem sum_r (q : Nat) (L : List Nat) (hL : ∀ j, nth L j < 1024) (r : Nat) (hr : r < 4294967296) (w : World) (hG : RAt w q L) :
    Calls Tryd.prog 87 #[.pointer (some ⟨q, 0, none⟩), .int .u32 r] w fun e w' => e = .returned (.int .u32 (tms r L L.length : Nat)) ∧ ∃ k, w' = w.drewN k := by
  have hl := hG.len
  go_enter Tryd.func87, Tryd.ntmps87
  go_wp2_with (go_at_call 90; refine (all_r q L _ hG).mono ?_; rintro e w1 ⟨rfl, q0, rfl⟩)
  go_loop [5, 11] (fun s i => ∃ j : Nat, j ≤ L.length ∧ i = .int .i64 j ∧ s = .int .u32 (tms r L j : Nat)) (fun _ i => L.length - (intOf i).toNat)
  case atStart => exact ⟨0, Nat.zero_le _, rfl, rfl⟩
  case round =>
    obtain ⟨j, hj, rfl, rfl⟩ := hrel
    by_cases hlj : j < L.length
    · have hrow := (hG.drewN q0).row j (by omega)
      have hx := hL j
      have hcs : tms r L (j + 1) = if r.testBit j then tms r L j ^^^ nth L j else tms r L j := rfl
      have hcl := nth_le hL r j
      generalize tms r L j = s at hcs hcl ⊢
      generalize nth L j = x at hrow hx hcs
      by_cases hb : r.testBit j = true
      · rw [if_pos hb] at hcs
        have HB := Lib.hid hb
        have HCS := Lib.hid hcs
        clear hb hcs
        go_wp2_with (first | (go_at_call 121; refine (has_any r j (by omega) (by omega) _).mono ?_; rw [HB.out]; rintro e w1 ⟨rfl, rfl⟩) | (go_at_call 91; refine (plus_any s x (by omega) (by omega) _).mono ?_; rw [← HCS.out]; rintro e w1 ⟨rfl, rfl⟩))
        go_round
        case rel => exact ⟨j + 1, by omega, by go_num, rfl⟩
        case measure => simp [intOf]; omega
      · rw [if_neg hb] at hcs
        have HB := Lib.hid (show r.testBit j = false by simpa using hb)
        have HCS := Lib.hid hcs
        clear hb hcs
        go_wp2_with (go_at_call 121; refine (has_any r j (by omega) (by omega) _).mono ?_; rw [HB.out]; rintro e w1 ⟨rfl, rfl⟩)
        go_round
        case rel => exact ⟨j + 1, by omega, by go_num, by rw [HCS.out]⟩
        case measure => simp [intOf]; omega
    · obtain rfl : j = L.length := by omega
      go_wp2_with fail
      go_ret
      exact ⟨rfl, _, rfl⟩

theorem sum_any (q : Nat) (L : List Nat) (c : Int) (hL : ∀ j, nth L j < 1024) (r : Nat) (hr : r < 4294967296) (w : World) (hG : GAt w q L c) :
    Calls Tryd.prog 87 #[.pointer (some ⟨q, 0, none⟩), .int .u32 r] w fun e w' => e = .returned (.int .u32 (tms r L L.length : Nat)) ∧ ∃ k, w' = w.drewN k := sum_r q L hL r hr w hG.toR

end Go.Proofs.YtilghmfffdmnjaaDoor
