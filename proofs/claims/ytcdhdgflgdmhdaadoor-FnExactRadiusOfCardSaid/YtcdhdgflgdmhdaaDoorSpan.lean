/- A row put among rows in echelon form: the program's rest and span. -/
import Derived.Test.YtcdhdgflgdmhdaaDoorCAt
import Derived.Test.YtcdhdgflgdmhdaaDoorColPure
import Derived.Test.YtcdhdgflgdmhdaaDoorTz
namespace Go.Proofs.YtcdhdgflgdmhdaaDoor
open Go.RowKit Go.Joins
set_option linter.unusedVariables false

theorem Tab.only {w w' : World} {q : Nat} (h : Tab w) (ho : Only q w w') (hq : 0 < q) : Tab w' := by
  have hg : w'.heap[0]? = w.heap[0]? := ho.block _ (by omega)
  exact ⟨fun j hj => (World.cell?_of_block (w := w) (a := ⟨0, j, none⟩) hg).trans (h.1 j hj), by rw [ho.size]; exact h.2⟩
theorem Only.drewN {b : Nat} {w w' : World} (h : Only b w w') (k : Nat) : Only b w (w'.drewN k) := ⟨h.os, h.tape, h.output, h.size, h.block⟩
theorem Only.drewL {b : Nat} {w w' : World} {k : Nat} (h : Only b (w.drewN k) w') : Only b w w' := ⟨h.os, h.tape, h.output, h.size, h.block⟩

set_option maxHeartbeats 1600000 in
theorem rest_any (q : Nat) (L : List Nat) (c : Int) (hE : Ech L) (hL : ∀ j, nth L j < 2 ^ 20) (r : Nat) (hr : r < 2 ^ 20) (w : World) (hG : GAt w q L c) (hT : Tab w) :
    Calls Tryd.prog 62 #[.pointer (some ⟨q, 0, none⟩), .int .u32 r] w fun e w' => e = .returned (.int .u32 (rest L r : Nat)) ∧ ∃ k, w' = w.drewN k := by
  have hl := hG.len
  rw [← restTo_all]
  go_enter Tryd.func62, Tryd.ntmps62
  go_wp2_with (go_at_call 63; refine (all_any q L c _ hG).mono ?_; rintro e w1 ⟨rfl, q0, rfl⟩)
  go_loop [1, 10] (fun s i => ∃ j : Nat, j ≤ L.length ∧ i = .int .i64 j ∧ s = .int .u32 (restTo L r j : Nat)) (fun _ i => L.length - (intOf i).toNat)
  case atStart => exact ⟨0, Nat.zero_le _, rfl, rfl⟩
  case round =>
    obtain ⟨j, hj, rfl, rfl⟩ := hrel
    by_cases hlj : j < L.length
    · have hrow := (hG.drewN q0).row j (by omega)
      have hx := hL j
      have hne := nth_ne hE hlj
      have hcs := restTo_succ r hlj
      have hcl := restTo_lt hr hL j (by omega)
      generalize restTo L r j = s at hcs hcl ⊢
      generalize nth L j = x at hrow hx hcs hne
      have hld : ld x < 20 := ld_lt hx hne
      have LX := Lib.hid (lead_any x hne (by omega) (w.drewN q0) (hT.drewN q0))
      generalize ld x = l at hld LX hcs
      clear hT
      by_cases hb : s.testBit l = true
      · rw [if_pos hb] at hcs
        have HB := Lib.hid hb
        have HCS := Lib.hid hcs
        clear hb hcs
        go_wp2_with (first | (go_at_call 65; refine LX.out.mono ?_; rintro e w1 ⟨rfl, rfl⟩) | (go_at_call 64; refine (has_any s l (by omega) (by omega) _).mono ?_; rw [HB.out]; rintro e w1 ⟨rfl, rfl⟩) | (go_at_call 66; refine (plus_any s x (by omega) (by omega) _).mono ?_; rw [← HCS.out]; rintro e w1 ⟨rfl, rfl⟩))
        go_round
        case rel => exact ⟨j + 1, by omega, by go_num, rfl⟩
        case measure => simp [intOf]; omega
      · rw [if_neg hb] at hcs
        have HB := Lib.hid (show s.testBit l = false by simpa using hb)
        have HCS := Lib.hid hcs
        clear hb hcs
        go_wp2_with (first | (go_at_call 65; refine LX.out.mono ?_; rintro e w1 ⟨rfl, rfl⟩) | (go_at_call 64; refine (has_any s l (by omega) (by omega) _).mono ?_; rw [HB.out]; rintro e w1 ⟨rfl, rfl⟩))
        go_round
        case rel => exact ⟨j + 1, by omega, by go_num, by rw [HCS.out]⟩
        case measure => simp [intOf]; omega
    · obtain rfl : j = L.length := by omega
      go_wp2_with fail
      go_ret
      exact ⟨rfl, _, rfl⟩
end Go.Proofs.YtcdhdgflgdmhdaaDoor
