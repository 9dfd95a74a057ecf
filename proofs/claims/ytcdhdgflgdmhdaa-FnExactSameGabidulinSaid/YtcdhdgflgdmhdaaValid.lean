/- Whether a matrix is valid: the model and the program. -/
import Derived.Test.YtcdhdgflgdmhdaaMat
import Derived.Test.YtcdhdgflgdmhdaaIn
import Derived.Test.YtcdhdgflgdmhdaaUnit
import Derived.Test.YtcdhdgflgdmhdaaValidP
namespace Go.Proofs.Ytcdhdgflgdmhdaa
open Go.RowKit Go.Joins
set_option linter.unusedVariables false

set_option maxHeartbeats 400000 in
theorem isRow_any (c : Nat) (hc : c ≤ 20) (z : Int) (w : World) :
    Calls Try.prog 135 #[.int .i64 c, .int .i64 z] w fun e w' => e = .returned (.bool (decide (0 ≤ z ∧ z < 2 ^ c))) ∧ w = w' := by
  have hp : 2 ^ c ≤ 1048576 := Nat.pow_le_pow_right (n := 2) (by omega) hc
  have he : ((2 ^ c : Nat) : Int) = 2 ^ c := by simp
  obtain ⟨P, hP⟩ : ∃ P : Nat, 2 ^ c = P := ⟨_, rfl⟩
  rw [← he, hP]
  rw [hP] at hp
  have HP := Lib.hid hP
  clear hP he
  by_cases h0 : 0 ≤ z
  · go_enter Try.func135, Try.ntmps135
    go_wp2_with (go_at_call 121; refine (unit_any c hc _).mono ?_; rw [HP.out]; rintro e w1 ⟨rfl, rfl⟩)
    go_ret
    exact ⟨ret_bool (by simp [h0]), rfl⟩
  · go_enter Try.func135, Try.ntmps135
    go_wp2_with (go_at_call 121; refine (unit_any c hc _).mono ?_; rw [HP.out]; rintro e w1 ⟨rfl, rfl⟩)
    go_ret
    exact ⟨ret_bool (by simp; omega), rfl⟩

set_option maxHeartbeats 1600000 in
theorem l02Ok_any (q : Nat) (c : Int) (b n cap : Nat) (xs : List Int) (w : World) (hm : MAt w q c b n cap) (hM : Mt w b n xs) :
    Calls Try.prog 61 #[.pointer (some ⟨q, 0, none⟩)] w fun e w' => e = .returned (.bool (okM c xs)) ∧ Below w.heap.size w w' := by
  have c0 := hm.c0
  have c1 := hm.c1
  have hlen := hM.len
  have hsm := hM.small
  by_cases hc : 1 ≤ c ∧ c ≤ 10
  · obtain ⟨C, rfl⟩ : ∃ C : Nat, c = C := ⟨c.toNat, by omega⟩
    by_cases hn : n ≤ 10
    · have hp : 2 ^ C ≤ 1024 := pow_le10 (by omega)
      go_enter Try.func61, Try.ntmps61
      have hpi : (2 : Int) ^ C ≤ 1024 := by rw [← int_pow]; omega
      have hpi0 : (0 : Int) < (2 : Int) ^ C := by rw [← int_pow]; have := Nat.two_pow_pos C; omega
      go_wp2_with (go_at_call 78; refine (l00In_yes _ _ _ (by omega) (by omega) _).mono ?_; rintro e w' ⟨rfl, rfl⟩)
      go_loopw [3] (fun i wr => ∃ k j : Nat, k ≤ n ∧ i = .int .i64 k ∧ wr = w.drewN j ∧ okTo C xs k) (fun i _ => n - (intOf i).toNat)
      case atStart => exact ⟨0, 0, Nat.zero_le _, rfl, rfl, fun j hj => by omega⟩
      case round =>
        obtain ⟨k, j, hk, rfl, rfl, hok⟩ := hrel
        have HOK := Lib.hid hok
        clear hok
        by_cases hlt : k < n
        · have hck := (hM.drewN j).cell k hlt
          have c0' : (w.drewN j).cell? ⟨q, 0, none⟩ = some (.int .i64 C) := c0
          have c1' : (w.drewN j).cell? ⟨q, 1, none⟩ = some (.slice (some ⟨b, 0, none⟩) n cap) := c1
          obtain ⟨z, hz⟩ : ∃ z, xs[k]?.getD 0 = z := ⟨_, rfl⟩
          rw [hz] at hck
          have HZ := Lib.hid hz
          clear hz
          generalize hwq : w.drewN j = W at hck c0' c1' ⊢
          have HW := Lib.hid hwq
          clear hwq
          by_cases hg : 0 ≤ z ∧ z < 2 ^ C
          · go_wp2
            go_quiet ((go_at_call 78; exact quiet_of_eq (l00In_yes _ _ _ (by omega) (by omega) _)))
            go_wp2
            go_roundw
            case rel => exact ⟨k + 1, j + _, by omega, by go_num, by rw [← HW.out, World.drewN_drewN], fun i hi => by
              by_cases e : i = k
              · subst e; rw [HZ.out]; exact hg
              · exact HOK.out i (by omega)⟩
            case measure => simp [intOf]; omega
          · go_wp2
            go_quiet ((go_at_call 78; exact quiet_of_eq (l00In_no _ _ _ (by omega) _)))
            go_wp2
            go_ret
            exact ⟨ret_bool (okM_no (k := k) (by omega) (by rw [HZ.out]; exact hg)).symm, by rw [← HW.out, World.drewN_drewN]; exact below_draws _ _ _⟩
        · obtain rfl : k = n := by omega
          go_wp2
          go_ret
          exact ⟨ret_bool (okM_yes (by omega) (by omega) (by omega) (by rw [hlen]; exact HOK.out)).symm, below_draws _ _ _⟩
    · go_enter Try.func61, Try.ntmps61
      go_wp2_with (go_at_call 78; refine (l00In_yes _ _ _ (by omega) (by omega) _).mono ?_; rintro e w' ⟨rfl, rfl⟩)
      go_ret
      exact ⟨ret_bool (okM_no1 (by omega)).symm, Below.refl _ _⟩
  · have hc' : c < 1 ∨ 10 < c := by omega
    go_enter Try.func61, Try.ntmps61
    go_wp2_with (go_at_call 78; refine (l00In_no _ _ _ hc' _).mono ?_; rintro e w' ⟨rfl, rfl⟩)
    go_ret
    exact ⟨ret_bool (okM_no1 (by omega)).symm, Below.refl _ _⟩

set_option maxHeartbeats 1600000 in
theorem implValidMatrix_any (c : Int) (b n cap : Nat) (xs : List Int) (w : World) (hM : Mt w b n xs) :
    Calls Try.prog 106 #[.agg #[.int .i64 c, .slice (some ⟨b, 0, none⟩) n cap]] w fun e w' => e = .returned (.bool (okM c xs)) ∧ Below w.heap.size w w' := by
  have hlen := hM.len
  have hsm := hM.small
  by_cases hc : 1 ≤ c ∧ c ≤ 10 ∧ n ≤ 10
  · obtain ⟨C, rfl⟩ : ∃ C : Nat, c = C := ⟨c.toNat, by omega⟩
    go_enter Try.func106, Try.ntmps106
    have hbl := hM.lt
    go_wp2_with fail
    go_loop [22] (fun i => ∃ k : Nat, k ≤ n ∧ i = .int .i64 k ∧ okTo C xs k) (fun i => n - (intOf i).toNat)
    case atStart => exact ⟨0, Nat.zero_le _, rfl, fun j hj => by omega⟩
    case round =>
      obtain ⟨k, hk, rfl, hok⟩ := hrel
      have HOK := Lib.hid hok
      clear hok
      by_cases hlt : k < n
      · have hck := hM.cell k hlt
        obtain ⟨z, hz⟩ : ∃ z, xs[k]?.getD 0 = z := ⟨_, rfl⟩
        rw [hz] at hck
        have HZ := Lib.hid hz
        clear hz
        by_cases hg : 0 ≤ z ∧ z < 2 ^ C
        · have HG := Lib.hid (decide_eq_true hg)
          have HG2 := Lib.hid hg
          clear hg
          go_wp2_with (go_at_call 135; refine (isRow_any C (by omega) _ _).mono ?_; rw [HG.out]; rintro e w1 ⟨rfl, rfl⟩)
          go_round
          case rel => exact ⟨k + 1, by omega, by go_num, fun i hi => by
            by_cases e : i = k
            · subst e; rw [HZ.out]; exact HG2.out
            · exact HOK.out i (by omega)⟩
          case measure => simp [intOf]; omega
        · have HG := Lib.hid (decide_eq_false hg)
          have HG2 := Lib.hid hg
          clear hg
          go_wp2_with (go_at_call 135; refine (isRow_any C (by omega) _ _).mono ?_; rw [HG.out]; rintro e w1 ⟨rfl, rfl⟩)
          go_ret
          exact ⟨ret_bool (okM_no (k := k) (by omega) (by rw [HZ.out]; exact HG2.out)).symm, below_alloc1 _ _⟩
      · obtain rfl : k = n := by omega
        go_wp2
        go_ret
        exact ⟨ret_bool (okM_yes (by omega) (by omega) (by omega) (by rw [hlen]; exact HOK.out)).symm, below_alloc1 _ _⟩
  · go_enter Try.func106, Try.ntmps106
    go_wp2_with fail
    all_goals first
      | (go_ret; exact ⟨ret_bool (okM_no1 (by omega)).symm, below_alloc1 _ _⟩)
      | (exfalso; omega)
end Go.Proofs.Ytcdhdgflgdmhdaa
