/- The elements of a list of numbers, and the numbers of elements: the program's. -/
import Derived.Test.YtilghmfffdmnjaaWr
import Derived.Test.YtilghmfffdmnjaaIn
import Derived.Test.YtilghmfffdmnjaaDivPure
namespace Go.Proofs.Ytilghmfffdmnjaa
open Go.RowKit Go.Joins
set_option linter.unusedVariables false

set_option maxHeartbeats 1600000 in
theorem elementsOf_any (b len cap n : Nat) (zs : List Int) (hn0 : 0 < n) (hn : n ≤ 256) (w : World) (hM : Mt w b len zs) (hin : allIn n zs = true) :
    Calls Try.prog 121 #[.slice (some ⟨b, 0, none⟩) len cap] w fun e w' => ∃ g, e = .returned (.slice (some ⟨g, 0, none⟩) len len) ∧ Below w.heap.size w w' ∧ Rl w' .u8 (some ⟨g, 0, none⟩) len (nats zs) := by
  obtain ⟨i0, hi, hz0, hz1, hz2⟩ := info_parts Try.infoE
  have hsm := hM.small
  have hR := hM.rl hin
  have hlt := nats_lt hin hn0
  have hlen := hR.len
  obtain ⟨p, hp⟩ : ∃ p, nats zs = p := ⟨_, rfl⟩
  rw [hp] at hR hlt hlen ⊢
  have HP := Lib.hid hlt
  have HR := Lib.hid hR
  clear hlt hR hp hin hM
  go_enter Try.func121, Try.ntmps121
  go_wp2_with (first | (at_make; refine wpList_make_full _ rfl _ _ 94 rfl w.heap.size 76 i0 (.int .u8 0) 1 Try.underlying94 hi hz0 hz1 .i64 .i64 _ _ len rfl rfl rfl rfl (by rw [hz2]; omega) (by unfold maxLen; omega) (Nat.le_refl _) ?_; intro w1 hown hgrow; have hb1 : Below w.heap.size w w1 := (Below.refl _ w).grown hgrow (Nat.le_refl _) (fun k h => by cases h); have HW := Lib.hid (Wr.made (K := .u8) hown); have HB := Lib.hid hb1; clear hown hgrow hb1))
  go_loopw [11] (fun i wr => ∃ (k : Nat) (F : Nat → Nat), k ≤ len ∧ i = .int .i64 k ∧ Below w.heap.size w wr ∧ Wr wr .u8 w.heap.size len F ∧ Hid (∀ j, j < k → F j = nth p j)) (fun i _ => len - (intOf i).toNat)
  case atStart => exact ⟨0, _, Nat.zero_le _, rfl, HB.out, HW.out, Lib.hid (fun j hj => by omega)⟩
  case round =>
    obtain ⟨k, F, hk, rfl, hb, hW, HI⟩ := hrel
    clear HW HB
    by_cases hlt : k < len
    · obtain ⟨g, hg1, hg, hc⟩ := (HR.out.below hb).row (by omega)
      injection hg1 with hg1
      injection hg1 with hg1
      subst hg1
      have hck := hc k hlt
      clear hc
      have hx := HP.out k
      obtain ⟨x, hxe⟩ : ∃ x, nth p k = x := ⟨_, rfl⟩
      rw [hxe] at hck hx
      have HX := Lib.hid hxe
      clear hxe
      have hcw := hW.cell k hlt
      have hfw := hW.free k
      have e1 : IntKind.u8.wrap (x : Int) = x := by rw [IntKind.wrap_u8']; omega
      have HB2 := Lib.hid hb
      have HW2 := Lib.hid hW
      clear hb hW
      go_wp2
      go_roundw
      case rel => exact ⟨k + 1, _, by omega, by go_num, below_set HB2.out _ _ (Nat.le_refl _) _, HW2.out.set k hlt x, Lib.hid (fun j hj => by
        simp only [put]
        by_cases e : j = k
        · subst e; rw [if_pos rfl, HX.out]
        · rw [if_neg e]; exact HI.out j (by omega))⟩
      case measure => simp [intOf]; omega
    · obtain rfl : k = len := by omega
      have hres : Rl wr .u8 (some ⟨w.heap.size, 0, none⟩) k p := by
        have h1 := hW.rl
        rwa [show lst F k = p from nth_ext (by rw [lst_length]; exact hlen.symm) fun j hj => by rw [lst_length] at hj; rw [lst_nth _ hj]; exact HI.out j hj] at h1
      have HRES := Lib.hid hres
      have HB2 := Lib.hid hb
      clear hb hW hres
      go_wp2
      go_ret
      exact ⟨w.heap.size, rfl, HB2.out, HRES.out⟩
set_option maxHeartbeats 1600000 in
theorem numbersOf_any (A : Option Addr) (n cap : Nat) (p : List Nat) (hn : n ≤ 1048576) (hp : ∀ j, nth p j < 256) (w : World) (hR : Rl w .u8 A n p) :
    Calls Try.prog 105 #[.slice A n cap] w fun e w' => ∃ b, e = .returned (.slice (some ⟨b, 0, none⟩) n n) ∧ w.heap.size ≤ b ∧ Below w.heap.size w w' ∧ Mt w' b n (ints p) := by
  obtain ⟨i0, hi, hz0, hz1, hz2⟩ := info_parts Try.infoI
  have HP := Lib.hid hp
  have HR := Lib.hid hR
  clear hp hR
  go_enter Try.func105, Try.ntmps105
  go_wp2_with (at_make; refine wpList_make_full _ rfl _ _ 46 rfl w.heap.size 2 i0 (.int .i64 0) 1 Try.underlying46 hi hz0 hz1 .i64 .i64 _ _ n rfl rfl rfl rfl (by rw [hz2]; omega) (by unfold maxLen; omega) (Nat.le_refl _) ?_; intro w1 hown hgrow)
  have hb1 : Below w.heap.size w w1 := (Below.refl _ w).grown hgrow (Nat.le_refl _) (fun k h => by cases h)
  have HW := Lib.hid (Wr.made (K := .i64) hown)
  have HB := Lib.hid hb1
  clear hown hgrow hz0 hz1 hz2 hi hb1
  go_loopw [11] (fun i wr => ∃ (k : Nat) (F : Nat → Nat), k ≤ n ∧ i = .int .i64 k ∧ Below w.heap.size w wr ∧ Wr wr .i64 w.heap.size n F ∧ Hid (∀ j, j < k → F j = nth p j)) (fun i _ => n - (intOf i).toNat)
  case atStart => exact ⟨0, _, Nat.zero_le _, rfl, HB.out, HW.out, Lib.hid (fun j hj => by omega)⟩
  case round =>
    obtain ⟨k, F, hk, rfl, hb, hW, HI⟩ := hrel
    clear HW HB
    by_cases hlt : k < n
    · obtain ⟨g, rfl, hg, hc⟩ := (HR.out.below hb).row (by omega)
      have hck := hc k hlt
      clear hc
      have hx := HP.out k
      obtain ⟨x, hxe⟩ : ∃ x, nth p k = x := ⟨_, rfl⟩
      rw [hxe] at hck hx
      have HX := Lib.hid hxe
      clear hxe
      have hcw := hW.cell k hlt
      have hfw := hW.free k
      have e1 : IntKind.i64.wrap (x : Int) = x := wrapNat x (by omega)
      have HB2 := Lib.hid hb
      have HW2 := Lib.hid hW
      clear hb hW
      go_wp2
      go_roundw
      case rel => exact ⟨k + 1, _, by omega, by go_num, below_set HB2.out _ _ (Nat.le_refl _) _, HW2.out.set k hlt x, Lib.hid (fun j hj => by
        simp only [put]
        by_cases e : j = k
        · subst e; rw [if_pos rfl, HX.out]
        · rw [if_neg e]; exact HI.out j (by omega))⟩
      case measure => simp [intOf]; omega
    · obtain rfl : k = n := by omega
      have HB2 := Lib.hid hb
      have HW2 := Lib.hid hW
      clear hb hW
      go_wp2
      go_ret
      refine ⟨_, rfl, Nat.le_refl _, HB2.out, ?_⟩
      have h1 := HW2.out.mt hn
      rwa [show lst F k = p from nth_ext (by rw [lst_length]; exact HR.out.len.symm) fun j hj => by rw [lst_length] at hj; rw [lst_nth _ hj]; exact HI.out j hj] at h1
end Go.Proofs.Ytilghmfffdmnjaa
