/- The model's trimming of a list. -/
import Derived.Test.YtcdhdgflgdmhdaaSv
namespace Go.Proofs.Ytcdhdgflgdmhdaa
open Go.RowKit Go.Joins
set_option linter.unusedVariables false

set_option maxHeartbeats 1600000 in
theorem l03Trim_any (A : Option Addr) (n cap : Nat) (p : List Nat) (hn : n ≤ 1048576) (w : World) (hS : Sv w A n cap p) :
    Calls Try.prog 134 #[.slice A n cap] w fun e w' => ∃ A' k cap', e = .returned (.slice A' k cap') ∧ Below w.heap.size w w' ∧ OL w' w.heap.size A' k cap' (trim p) := by
  have hc := hS.room
  have hl := hS.len
  have HS := Lib.hid hS
  clear hS
  go_enter Try.func134, Try.ntmps134
  go_wp2
  go_loop [3] (fun s => ∃ k : Nat, k ≤ n ∧ s = .int .i64 k ∧ Hid (tl (nth p) k = tl (nth p) n)) (fun s => (intOf s).toNat)
  case atStart => exact ⟨n, Nat.le_refl _, rfl, Lib.hid rfl⟩
  case round =>
    obtain ⟨k, hk, rfl, HT⟩ := hrel
    have fin : ∀ k, k ≤ n → tl (nth p) k = k → tl (nth p) k = tl (nth p) n → Calls Try.prog 133 #[.slice A k cap] w fun e w' => ∃ A' cap', e = .returned (.slice A' k cap') ∧ Below w.heap.size w w' ∧ OL w' w.heap.size A' k cap' (trim p) := by
      intro k hk h1 h2
      have := l00OwnL_any A k cap _ (by omega) w (HS.out.take hk)
      rw [show lst (nth p) k = trim p by rw [trim, hl, ← h2, h1]] at this
      exact this
    have FIN := Lib.hid fin
    clear fin
    cases k with
    | zero =>
      go_wp2_with (go_at_call 133; refine (FIN.out 0 (by omega) rfl HT.out).mono ?_; rintro e w1 ⟨A', cap', rfl, hb, hO⟩)
      go_ret
      exact ⟨_, _, _, rfl, hb, hO⟩
    | succ k =>
      obtain ⟨g, rfl, hg, hcs⟩ := HS.out.row (by omega)
      have hck := hcs k (by omega)
      clear hcs
      obtain ⟨x, hx⟩ : ∃ x, nth p k = x := ⟨_, rfl⟩
      rw [hx] at hck
      have HX := Lib.hid hx
      clear hx
      by_cases h0 : x = 0
      · subst h0
        go_wp2
        go_round
        case rel => exact ⟨k, by omega, by first | rfl | simp, Lib.hid (by rw [← HT.out]; simp only [tl]; rw [if_pos HX.out])⟩
        case measure => simp [intOf]
      · have H1 := Lib.hid (show tl (nth p) (k + 1) = k + 1 by simp only [tl]; rw [if_neg (by rw [HX.out]; exact h0)])
        go_wp2_with (go_at_call 133; refine (FIN.out (k + 1) (by omega) H1.out HT.out).mono ?_; rintro e w1 ⟨A', cap', rfl, hb, hO⟩)
        go_ret
        exact ⟨_, _, _, rfl, hb, hO⟩
end Go.Proofs.Ytcdhdgflgdmhdaa
