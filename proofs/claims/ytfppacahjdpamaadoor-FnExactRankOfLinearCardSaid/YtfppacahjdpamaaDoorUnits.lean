/- The units and the values for them: the program's. -/
import Derived.Test.YtfppacahjdpamaaDoorLinI4
namespace Go.Proofs.YtfppacahjdpamaaDoor
open Go.RowKit Go.Joins
set_option linter.unusedVariables false

theorem pow_wrap {j : Nat} (hj : j ≤ 10) : wrap64 ((2 : Int) ^ j) = ((2 ^ j : Nat) : Int) := by
  have := shl_nat 1 j (by have : 2 ^ j ≤ 2 ^ 10 := Nat.pow_le_pow_right (by omega) hj; omega)
  simpa using this
set_option maxHeartbeats 1600000 in
theorem units_any (c m P n : Nat) (hF : Fld m P n) (w : World) (hD : w.cell? ⟨c, 0, none⟩ = some (.int .i64 m)) :
    Calls Tryd.prog 50 #[.pointer (some ⟨c, 0, none⟩)] w fun e w' => ∃ g, e = .returned (.slice (some ⟨g, 0, none⟩) m m) ∧ w.heap.size ≤ g ∧ Below w.heap.size w w' ∧ Wr w' .i64 g m (fun j => 2 ^ j) := by
  obtain ⟨i0, hi, hz0, hz1, hz2⟩ := info_parts Tryd.infoI
  have hm5 := hF.m5
  go_enter Tryd.func50, Tryd.ntmps50
  go_wp2_with (at_make; refine wpList_make_full _ rfl _ _ 24 rfl w.heap.size 2 i0 (.int .i64 0) 1 Tryd.underlying24 hi hz0 hz1 .i64 .i64 _ _ m rfl rfl rfl rfl (by rw [hz2]; omega) (by unfold maxLen; omega) (Nat.le_refl _) ?_; intro w1 hown hgrow; have hb1 : Below w.heap.size w w1 := (Below.refl _ w).grown hgrow (Nat.le_refl _) (fun k h => by cases h); have HW := Lib.hid (Wr.made (K := .i64) hown); have HB := Lib.hid hb1; clear hown hgrow hb1)
  go_loopw [12] (fun i wr => ∃ (k : Nat) (F : Nat → Nat), k ≤ m ∧ i = .int .i64 k ∧ Below w.heap.size w wr ∧ Wr wr .i64 w.heap.size m F ∧ Hid (∀ j, j < k → F j = 2 ^ j)) (fun i _ => m - (intOf i).toNat)
  case atStart => exact ⟨0, _, Nat.zero_le _, rfl, HB.out, HW.out, Lib.hid (fun j hj => by omega)⟩
  case round =>
    obtain ⟨k, F, hk, rfl, hb, hW, HI⟩ := hrel
    clear HW HB
    have HB2 := Lib.hid hb
    by_cases hlt : k < m
    · have hcw := hW.cell k hlt
      have hfw := hW.free k
      have e1 := pow_wrap (j := k) (by omega)
      obtain ⟨x, hx⟩ : ∃ x, 2 ^ k = x := ⟨_, rfl⟩
      rw [hx] at e1
      have HX := Lib.hid hx
      have HW2 := Lib.hid hW
      clear hb hW hx
      go_wp2
      go_roundw
      case rel => exact ⟨k + 1, _, by omega, by go_num, below_set HB2.out _ _ (Nat.le_refl _) _, HW2.out.set k hlt x, Lib.hid (fun j hj => by
        simp only [put]
        by_cases e : j = k
        · subst e; rw [if_pos rfl, HX.out]
        · rw [if_neg e]; exact HI.out j (by omega))⟩
      case measure => simp [intOf]; omega
    · obtain rfl : k = m := by omega
      have hW' := hW.congr (f' := fun j => 2 ^ j) (fun j hj => (HI.out j hj).symm)
      have HW2 := Lib.hid hW'
      clear hb hW hW'
      go_wp2
      go_ret
      exact ⟨_, rfl, Nat.le_refl _, HB2.out, HW2.out⟩
set_option maxHeartbeats 1600000 in
theorem unitValues_any (c m P n : Nat) (hF : Fld m P n) (A : Option Addr) (k cap : Nat) (p : List Nat) (hp : ∀ j, nth p j < n) (hk : k ≤ 1048577) (w : World) (hC : Calc c m P n w) (hR : Rl w .u8 A k p) :
    Calls Tryd.prog 28 #[.pointer (some ⟨c, 0, none⟩), .slice A k cap] w fun e w' => ∃ g, e = .returned (.slice (some ⟨g, 0, none⟩) m m) ∧ w.heap.size ≤ g ∧ Below w.heap.size w w' ∧ Wr w' .i64 g m (fun j => vl P p (2 ^ j)) := by
  have hm5 := hF.m5
  have h32 := hF.n32
  have hcl := hC.lt
  have HP := Lib.hid hp
  have HR := Lib.hid hR
  have HC := Lib.hid hC
  have hU := units_any c m P n hF w hC.deg
  have HU := Lib.hid hU
  clear hp hR hC hU
  go_enter Tryd.func28, Tryd.ntmps28
  go_wp2_with fail
  refine HU.out.mono ?_
  rintro e w1 ⟨g, rfl, hg, hb, hW⟩
  have HB := Lib.hid hb
  have HW := Lib.hid hW
  clear hb hW
  go_wp2_with fail
  go_loopw [12] (fun i wr => ∃ (j : Nat) (F : Nat → Nat), j ≤ m ∧ i = .int .i64 j ∧ Below w.heap.size w wr ∧ Wr wr .i64 g m F ∧ Hid (∀ i, i < m → F i = if i < j then vl P p (2 ^ i) else 2 ^ i)) (fun i _ => m - (intOf i).toNat)
  case atStart => exact ⟨0, _, Nat.zero_le _, rfl, HB.out, HW.out, Lib.hid (fun j hj => by rw [if_neg (by omega)])⟩
  case round =>
    obtain ⟨j, F, hj, rfl, hb, hW, HI⟩ := hrel
    clear HW HB
    have HB2 := Lib.hid hb
    by_cases hlt : j < m
    · have hcw := hW.cell j hlt
      rw [HI.out j hlt, if_neg (by omega)] at hcw
      have hfw := hW.free j
      have hxn : 2 ^ j < n := pow_lt_n hF hlt
      have hV := value_any c m P n hF A k cap p HP.out (2 ^ j) hxn hk wr (HC.out.below hcl hb) (HR.out.below hb)
      have hvn := vl_lt hF p (2 ^ j)
      obtain ⟨x, hx⟩ : ∃ x, 2 ^ j = x := ⟨_, rfl⟩
      rw [hx] at hcw hV hxn hvn
      obtain ⟨y, hy⟩ : ∃ y, vl P p x = y := ⟨_, rfl⟩
      rw [hy] at hV hvn
      have HX := Lib.hid hx
      have HY := Lib.hid hy
      have HV := Lib.hid hV
      have HW2 := Lib.hid hW
      have e1 : IntKind.u8.wrap (x : Int) = x := by rw [IntKind.wrap_u8']; omega
      have e2 : IntKind.i64.wrap (y : Int) = y := wrapNat y (by omega)
      clear hb hW hx hy hV
      go_wp2_with (go_at_call 51; refine HV.out.mono ?_; rintro e w' ⟨rfl, rfl⟩)
      go_roundw
      case rel => exact ⟨j + 1, _, by omega, by go_num, below_set HB2.out _ _ hg _, HW2.out.set j hlt y, Lib.hid (fun i hi => by
        simp only [put]
        by_cases e : i = j
        · subst e; rw [if_pos rfl, if_pos (by omega), HX.out, HY.out]
        · rw [if_neg e, HI.out i hi]
          by_cases h : i < j
          · rw [if_pos h, if_pos (by omega)]
          · rw [if_neg h, if_neg (by omega)])⟩
      case measure => simp [intOf]; omega
    · obtain rfl : j = m := by omega
      have hW' := hW.congr (f' := fun j => vl P p (2 ^ j)) (fun i hi => by rw [HI.out i hi, if_pos hi])
      have HW2 := Lib.hid hW'
      clear hb hW hW'
      go_wp2
      go_ret
      exact ⟨_, rfl, hg, HB2.out, HW2.out⟩
end Go.Proofs.YtfppacahjdpamaaDoor
