/- The units and the values for them: the program's. · The rank of a map: the model's. -/
import Derived.Test.YtcdhdgflgdmhdaaLinI4
import Derived.Test.YtcdhdgflgdmhdaaLinS3
import Derived.Test.YtcdhdgflgdmhdaaSv
import Derived.Test.YtcdhdgflgdmhdaaRankS
namespace Go.Proofs.Ytcdhdgflgdmhdaa
open Go.RowKit Go.Joins
set_option linter.unusedVariables false

theorem pow_wrap {j : Nat} (hj : j ≤ 10) : wrap64 ((2 : Int) ^ j) = ((2 ^ j : Nat) : Int) := by
  have := shl_nat 1 j (by have : 2 ^ j ≤ 2 ^ 10 := Nat.pow_le_pow_right (by omega) hj; omega)
  simpa using this
set_option maxHeartbeats 1600000 in
theorem units_any (c m P n : Nat) (hF : Fld m P n) (w : World) (hD : w.cell? ⟨c, 0, none⟩ = some (.int .i64 m)) :
    Calls Try.prog 80 #[.pointer (some ⟨c, 0, none⟩)] w fun e w' => ∃ g, e = .returned (.slice (some ⟨g, 0, none⟩) m m) ∧ w.heap.size ≤ g ∧ Below w.heap.size w w' ∧ Wr w' .i64 g m (fun j => 2 ^ j) := by
  obtain ⟨i0, hi, hz0, hz1, hz2⟩ := info_parts Try.infoI
  have hm5 := hF.m5
  go_enter Try.func80, Try.ntmps80
  go_wp2_with (at_make; refine wpList_make_full _ rfl _ _ 27 rfl w.heap.size 2 i0 (.int .i64 0) 1 Try.underlying27 hi hz0 hz1 .i64 .i64 _ _ m rfl rfl rfl rfl (by rw [hz2]; omega) (by unfold maxLen; omega) (Nat.le_refl _) ?_; intro w1 hown hgrow; have hb1 : Below w.heap.size w w1 := (Below.refl _ w).grown hgrow (Nat.le_refl _) (fun k h => by cases h); have HW := Lib.hid (Wr.made (K := .i64) hown); have HB := Lib.hid hb1; clear hown hgrow hb1)
  go_loopw [12] (fun i wr => ∃ (k : Nat) (F : Nat → Nat), k ≤ m ∧ i = .int .i64 k ∧ Below w.heap.size w wr ∧ Wr wr .i64 w.heap.size m F ∧ Hid (∀ j, j < k → F j = 2 ^ j)) (fun i _ => m - (intOf i).toNat)
  case atStart => exact ⟨0, _, Nat.zero_le _, rfl, HB.out, HW.out, Lib.hid (fun j hj => by omega)⟩
  case round =>
    obtain ⟨k, F, hk, rfl, hb, hW, HI⟩ := hrel
    clear HW HB
    have HB2 := Lib.hid hb
    by_cases hlt : k < m
    · have hcw := hW.cell k hlt
      have hfw := hW.free k
      have e1 := pow_wrap (j := k) (by omega)
      obtain ⟨x, hx⟩ : ∃ x, 2 ^ k = x := ⟨_, rfl⟩
      rw [hx] at e1
      have HX := Lib.hid hx
      have HW2 := Lib.hid hW
      clear hb hW hx
      go_wp2
      go_roundw
      case rel => exact ⟨k + 1, _, by omega, by go_num, below_set HB2.out _ _ (Nat.le_refl _) _, HW2.out.set k hlt x, Lib.hid (fun j hj => by
        simp only [put]
        by_cases e : j = k
        · subst e; rw [if_pos rfl, HX.out]
        · rw [if_neg e]; exact HI.out j (by omega))⟩
      case measure => simp [intOf]; omega
    · obtain rfl : k = m := by omega
      have hW' := hW.congr (f' := fun j => 2 ^ j) (fun j hj => (HI.out j hj).symm)
      have HW2 := Lib.hid hW'
      clear hb hW hW'
      go_wp2
      go_ret
      exact ⟨_, rfl, Nat.le_refl _, HB2.out, HW2.out⟩
end Go.Proofs.Ytcdhdgflgdmhdaa
namespace Go.Proofs.Ytcdhdgflgdmhdaa
open Go.RowKit Go.Joins
set_option linter.unusedVariables false

/-- The values for the units. -/
def uv (P : Nat) (p : List Nat) (k : Nat) : List Nat := lst (fun j => vl P p (2 ^ j)) k
theorem uv_succ (P : Nat) (p : List Nat) (k : Nat) : uv P p (k + 1) = uv P p k ++ [vl P p (2 ^ k)] := range_succ_map _ _
theorem uv_len (P : Nat) (p : List Nat) (k : Nat) : (uv P p k).length = k := lst_length _ _
theorem uv_lt {m P n : Nat} (hF : Fld m P n) (p : List Nat) (k : Nat) : ∀ r ∈ uv P p k, r < 2 ^ m := fun r hr => by
  obtain ⟨j, _, rfl⟩ := List.mem_map.1 hr
  rw [hF.n]; exact vl_lt hF p _
theorem pow_wrap' {j : Nat} (hj : j ≤ 10) : wrap64 ((2 : Int) ^ j) = ((2 ^ j : Nat) : Int) := by
  have := shl_nat 1 j (by have : 2 ^ j ≤ 2 ^ 10 := Nat.pow_le_pow_right (by omega) hj; omega)
  simpa using this

theorem ol_mt {W : World} {B : Nat} {A : Option Addr} {n cap : Nat} {p : List Nat} (h : OL W B A n cap p) (h0 : 0 < n) (hn : n ≤ 1048576) : ∃ g cp, (Value.slice A n cap) = .slice (some ⟨g, 0, none⟩) n cp ∧ B ≤ g ∧ Mt W g n (ints p) := by
  have hl : (ints p).length = n := by rw [ints_length]; exact h.len
  rcases ownsRow_forms h.own with ⟨e, h1⟩ | ⟨g, cap', e⟩
  · injection e with _ e _; omega
  · have ho := h.own
    rw [e] at ho
    have hg := ho.lt g rfl
    refine ⟨g, cap', e, hg.1, hl, hn, hg.2, fun j hj => ?_, fun j => ho.frozenAt j⟩
    rw [ho.cellAt j (by omega), List.getElem?_map, List.getElem?_eq_getElem (by omega)]
    simp
end Go.Proofs.Ytcdhdgflgdmhdaa
