/- Bases: the model's. -/
import Derived.Test.YtlchelaohiojiaaDoorBasPure
import Derived.Test.YtlchelaohiojiaaDoorListS
namespace Go.Proofs.YtlchelaohiojiaaDoor
open Go.RowKit Go.Joins
set_option linter.unusedVariables false

set_option maxHeartbeats 1600000 in
theorem l01Sum_any (A : Option Addr) (n cap : Nat) (p : List Nat) (hp : ∀ j, nth p j < 4294967296) (hn : n ≤ 32) (r : Nat) (hr : r < 4294967296) (w : World) (hS : Rl w .i64 A n p) :
    Calls Tryd.prog 82 #[.slice A n cap, .int .i64 r] w fun e w' => e = .returned (.int .i64 (tms r p n : Nat)) ∧ w = w' := by
  have HP := Lib.hid hp
  have HS := Lib.hid hS
  clear hp hS
  go_enter Tryd.func82, Tryd.ntmps82
  go_wp2_with fail
  go_loop [5, 6] (fun s i => ∃ j : Nat, j ≤ n ∧ i = .int .i64 j ∧ s = .int .i64 (tms r p j : Nat)) (fun _ i => n - (intOf i).toNat)
  case atStart => exact ⟨0, Nat.zero_le _, rfl, rfl⟩
  case round =>
    obtain ⟨j, hj, rfl, rfl⟩ := hrel
    by_cases hlj : j < n
    · obtain ⟨g, rfl, hg, hc⟩ := HS.out.row (by omega)
      have hrow := hc j hlj
      clear hc
      have hx := HP.out j
      have hcs : tms r p (j + 1) = if r.testBit j then tms r p j ^^^ nth p j else tms r p j := rfl
      have hcl : tms r p j < 4294967296 := tms_lt (C := 32) HP.out r j
      generalize tms r p j = s at hcs hcl ⊢
      generalize nth p j = x at hrow hx hcs
      have hxor := i64_xor_nat s x (by omega) (by omega)
      by_cases hb : r.testBit j = true
      · rw [if_pos hb] at hcs
        have hb' := bit_yes (q := r) (k := j) (by omega) (bit_of'.1 hb)
        have HCS := Lib.hid hcs
        have HX := Lib.hid hxor
        clear hb hcs hxor
        go_wp2
        go_round
        case rel => exact ⟨j + 1, by omega, by go_num, by rw [HX.out, HCS.out]⟩
        case measure => simp [intOf]; omega
      · rw [if_neg hb] at hcs
        have hb' := bit_no (q := r) (k := j) (by omega) (fun h => hb (bit_of'.2 h))
        have HCS := Lib.hid hcs
        clear hb hcs hxor
        go_wp2
        go_round
        case rel => exact ⟨j + 1, by omega, by go_num, by rw [HCS.out]⟩
        case measure => simp [intOf]; omega
    · obtain rfl : j = n := by omega
      go_wp2_with fail
      go_ret
      exact ⟨rfl, rfl⟩
set_option maxHeartbeats 1600000 in
theorem l01Basis_any (m P n : Nat) (hF : Fld m P n) (A : Option Addr) (k cap : Nat) (p : List Nat) (hp : ∀ j, nth p j < n) (hk : k ≤ 1048576) (w : World) (hS : Rl w .i64 A k p) :
    Calls Tryd.prog 55 #[.agg #[.int .i64 m, .int .i64 P], .slice A k cap] w fun e w' => e = .returned (.bool (basB m p)) ∧ Below w.heap.size w w' := by
  have h32 := hF.n32
  have hm5 := hF.m5
  have hn := hF.n
  have hlen := hS.len
  have hz : FAt w m P (w.alloc (.cells #[.int .i64 m, .int .i64 P] 25)) := FAt.start w m P 25
  by_cases hkm : k = m
  · subst hkm
    obtain ⟨r, hr⟩ : ∃ r, basB k p = r := ⟨_, rfl⟩
    rw [hr]
    have HR := Lib.hid hr
    have HP := Lib.hid hp
    have HS := Lib.hid hS
    clear hr hp hS
    go_enter Tryd.func55, Tryd.ntmps55
    go_wp2_with fail
    go_loopw [5] (fun i wr => ∃ j : Nat, 1 ≤ j ∧ j ≤ n ∧ i = .int .i64 j ∧ FAt w k P wr ∧ Hid (∀ b, 0 < b → b < j → tms b p k ≠ 0)) (fun i _ => n - (intOf i).toNat)
    case atStart => exact ⟨1, Nat.le_refl _, by have := hF.n2; omega, rfl, hz, Lib.hid (fun b h1 h2 => by omega)⟩
    case round =>
      obtain ⟨j, hj1, hj, rfl, hA, HI⟩ := hrel
      have c0 := hA.c0; have c1 := hA.c1
      by_cases hlj : j < n
      · obtain ⟨s, hs⟩ : ∃ s, tms j p k = s := ⟨_, rfl⟩
        have HSUM := Lib.hid (fun (w : World) (h : Rl w .i64 A k p) => l01Sum_any A k cap p (fun j => by have := HP.out j; omega) (by omega) j (by omega) w h)
        rw [hs] at HSUM
        have HE := Lib.hid hs
        clear hs
        by_cases h0 : s = 0
        · subst h0
          go_wp2_with (first | (go_at_call 37; refine (l01Size_any _ _ _ hF _).mono ?_; rintro e w1 ⟨rfl, hb1⟩; have hA1 : FAt w k P w1 := hA.next hb1) | (go_at_call 82; refine (HSUM.out _ (HS.out.below hA1.b)).mono ?_; rintro e w' ⟨rfl, rfl⟩))
          go_ret
          exact ⟨ret_bool (by rw [← HR.out]; exact (basB_no (b := j) (by omega) (by rw [hn]; exact hlj) HE.out).symm), hA1.b⟩
        · have g0 : ((s : Int) == 0) = false := by simp; omega
          go_wp2_with (first | (go_at_call 37; refine (l01Size_any _ _ _ hF _).mono ?_; rintro e w1 ⟨rfl, hb1⟩; have hA1 : FAt w k P w1 := hA.next hb1) | (go_at_call 82; refine (HSUM.out _ (HS.out.below hA1.b)).mono ?_; rintro e w' ⟨rfl, rfl⟩))
          go_roundw
          case rel => exact ⟨j + 1, by omega, by omega, by go_num, hA1, Lib.hid (fun b h1 h2 => by
            by_cases e : b = j
            · subst e; rw [HE.out]; exact h0
            · exact HI.out b h1 (by omega))⟩
          case measure => simp [intOf]; omega
      · obtain rfl : j = n := by omega
        go_wp2_with (go_at_call 37; refine (l01Size_any _ _ _ hF _).mono ?_; rintro e w1 ⟨rfl, hb1⟩; have hA1 : FAt w k P w1 := hA.next hb1)
        go_ret
        exact ⟨ret_bool (by rw [← HR.out]; exact (basB_yes ⟨hlen, fun b h1 h2 => HI.out b h1 (by rw [hn] at h2; exact h2)⟩).symm), hA1.b⟩
  · rw [basB_len (by omega)]
    have g0 : ((k : Int) == (m : Int)) = false := by simp; omega
    go_enter Tryd.func55, Tryd.ntmps55
    go_wp2_with fail
    go_ret
    exact ⟨rfl, hz.b⟩
end Go.Proofs.YtlchelaohiojiaaDoor
