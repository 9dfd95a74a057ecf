/- The copy of a row of numbers that the laws make. · The third block of three. -/
import Derived.Test.YtlchelaohiojiaaMt
namespace Go.Proofs.Ytlchelaohiojiaa
open Go.RowKit Go.Joins
set_option linter.unusedVariables false

set_option maxHeartbeats 1600000 in
theorem toInt64S_any (A : Option Addr) (n cap : Nat) (xs : List Int) (w : World) (hA : Arg w A n xs) (hn : n ≤ 1048576) :
    Calls Try.prog 153 #[.slice A n cap] w fun e w' => ∃ b, e = .returned (.slice (some ⟨b, 0, none⟩) n n) ∧ w.heap.size ≤ b ∧ Below w.heap.size w w' ∧ Mt w' b n xs := by
  obtain ⟨i0, hi, hz0, hz1, hz2⟩ := info_parts Try.infoI
  go_enter Try.func153, Try.ntmps153
  go_wp2_with (at_make; refine wpList_make_full _ rfl _ _ 39 rfl w.heap.size 2 i0 (.int .i64 0) 1 Try.underlying39 hi hz0 hz1 .i64 .i64 _ _ n rfl rfl rfl rfl (by rw [hz2]; omega) (by unfold maxLen; omega) (Nat.le_refl _) ?_; intro w1 hown hgrow)
  have hb1 : Below w.heap.size w w1 := (Below.refl _ w).grown hgrow (Nat.le_refl _) (fun k h => by cases h)
  have hlt1 : w.heap.size < w1.heap.size := (hown.lt _ rfl).2
  have hold : ∀ j, j < n → ∃ v, w1.cell? ⟨w.heap.size, j, none⟩ = some v := by
    intro j hj
    rw [hown.cellAt j (by omega)]
    exact ⟨_, List.getElem?_eq_getElem (by rw [hown.1]; omega)⟩
  have hfr : ∀ j, w1.frozen? ⟨w.heap.size, j, none⟩ = false := fun j => hown.frozenAt j
  clear hown hgrow hz0 hz1 hz2 hi
  have HO := Lib.hid hold
  have HF := Lib.hid hfr
  have HB := Lib.hid hb1
  clear hold hfr hb1
  go_loopw [4] (fun i wr => ∃ k : Nat, k ≤ n ∧ i = .int .i64 k ∧ Below w.heap.size w wr ∧ w.heap.size < wr.heap.size ∧ (∀ j, j < n → ∃ v, wr.cell? ⟨w.heap.size, j, none⟩ = some v) ∧ (∀ j, wr.frozen? ⟨w.heap.size, j, none⟩ = false) ∧ ∀ j, j < k → wr.cell? ⟨w.heap.size, j, none⟩ = some (.int .i64 (xs[j]?.getD 0))) (fun i _ => n - (intOf i).toNat)
  case atStart => exact ⟨0, Nat.zero_le _, rfl, HB.out, hlt1, HO.out, HF.out, fun j hj => by omega⟩
  case round =>
    obtain ⟨k, hk, rfl, hb, hlt, hex, hfr, hdone⟩ := hrel
    have HB2 := Lib.hid hb
    have HEX := Lib.hid hex
    have HFR := Lib.hid hfr
    have HD := Lib.hid hdone
    clear hb hex hfr hdone
    by_cases hkn : k < n
    · obtain ⟨a, rfl, hbl, hc⟩ := (hA.from HB2.out).cell (by omega)
      have hck := hc k hkn
      obtain ⟨v, hv⟩ := HEX.out k hkn
      have hfk := HFR.out k
      clear hc
      go_wp2
      go_roundw
      case rel =>
        refine ⟨k + 1, by omega, by go_num, HB2.out.setCell (p := ⟨w.heap.size, k, none⟩) (Nat.le_refl _) _, ?_, fun j hj => ?_, fun j => by rw [World.frozen?_setCell]; exact HFR.out j, fun j hj => ?_⟩
        · show _ < (Array.modify _ _ _).size
          rw [Array.size_modify]; exact hlt
        · by_cases e : j = k
          · subst e; exact ⟨_, World.cell?_setCell_same' _ _ _ (by rw [hv]; rfl)⟩
          · rw [World.cell?_setCell_other _ ⟨w.heap.size, k, none⟩ ⟨w.heap.size, j, none⟩ _ (fun h => e (by injection h with _ h _; omega))]
            exact HEX.out j hj
        · by_cases e : j = k
          · subst e
            exact World.cell?_setCell_same' _ _ _ (by rw [hv]; rfl)
          · rw [World.cell?_setCell_other _ ⟨w.heap.size, k, none⟩ ⟨w.heap.size, j, none⟩ _ (fun h => e (by injection h with _ h _; omega))]
            exact HD.out j (by omega)
      case measure => simp [intOf]; omega
    · obtain rfl : k = n := by omega
      go_wp2
      go_ret
      exact ⟨_, rfl, Nat.le_refl _, HB2.out, ⟨hA.len, hn, hlt, HD.out, HFR.out⟩⟩
end Go.Proofs.Ytlchelaohiojiaa
namespace Go.Proofs.Ytlchelaohiojiaa
open Go.RowKit Go.Joins
set_option linter.unusedVariables false

theorem third (w : World) (o1 : Obj) (u0 u1 v0 v1 : Value) (T : TypeId) (W : World) (hW : W = ((w.alloc o1).alloc (.cells #[u0, u1] T)).alloc (.cells #[v0, v1] T)) :
    (W.cell? ⟨w.heap.size + 1 + 1, 0, none⟩ = some v0 ∧ W.cell? ⟨w.heap.size + 1 + 1, 1, none⟩ = some v1 ∧ W.frozen? ⟨w.heap.size + 1 + 1, 0, none⟩ = false ∧ W.frozen? ⟨w.heap.size + 1 + 1, 1, none⟩ = false) ∧
    (W.cell? ⟨w.heap.size + 1, 0, none⟩ = some u0 ∧ W.cell? ⟨w.heap.size + 1, 1, none⟩ = some u1 ∧ W.frozen? ⟨w.heap.size + 1, 0, none⟩ = false ∧ W.frozen? ⟨w.heap.size + 1, 1, none⟩ = false) := by
  subst hW
  refine ⟨⟨?_, ?_, ?_, ?_⟩, ?_, ?_, ?_, ?_⟩ <;> simp [World.cell?_alloc_at, World.cell?_alloc_past, World.frozen?_alloc_at, World.frozen?_alloc_past]

end Go.Proofs.Ytlchelaohiojiaa
