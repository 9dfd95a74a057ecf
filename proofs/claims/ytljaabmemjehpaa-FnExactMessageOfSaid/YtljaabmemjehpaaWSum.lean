/- The sum of two words: the program's. -/
import Derived.Test.YtljaabmemjehpaaEPlus
import Derived.Test.YtljaabmemjehpaaSqr
import Derived.Test.YtljaabmemjehpaaColPure
import Derived.Test.YtljaabmemjehpaaWr
import Derived.Test.YtljaabmemjehpaaIn
import Derived.Test.YtljaabmemjehpaaDivPure
namespace Go.Proofs.Ytljaabmemjehpaa
open Go.RowKit Go.Joins
set_option linter.unusedVariables false

/-- The elements of the sum of two words. -/
def xorW (p q : List Nat) (k : Nat) : List Nat := lst (fun j => nth p j ^^^ nth q j) k
theorem xorW_lt {m : Nat} {p q : List Nat} (k : Nat) (hp : ∀ r ∈ p, r < 2 ^ m) (hq : ∀ r ∈ q, r < 2 ^ m) : ∀ r ∈ xorW p q k, r < 2 ^ m := fun r hr => by
  obtain ⟨j, hj, rfl⟩ := List.getElem_of_mem hr
  rw [xorW, lst_length] at hj
  have := lst_nth (fun j => nth p j ^^^ nth q j) hj
  have h2 : (xorW p q k)[j] = nth p j ^^^ nth q j := by
    rw [← this]; simp [nth, xorW, lst_length, hj]
  rw [h2]
  exact Nat.xor_lt_two_pow (nth_bound hp j) (nth_bound hq j)

set_option maxHeartbeats 3200000 in
theorem wplus_new (A B : Option Addr) (k ca cb : Nat) (p q : List Nat) (hp : ∀ j, nth p j < 256) (hq : ∀ j, nth q j < 256) (hk : k ≤ 1048576) (w : World) (hS : Rl w .u8 A k p) (hT : Rl w .u8 B k q) :
    Calls Try.prog 117 #[.slice A k ca, .slice B k cb] w fun e w' => ∃ g, e = .returned (.slice (some ⟨g, 0, none⟩) k k) ∧ w.heap.size ≤ g ∧ Below w.heap.size w w' ∧ Rl w' .u8 (some ⟨g, 0, none⟩) k (xorW p q k) := by
  obtain ⟨i0, hi, hz0, hz1, hz2⟩ := info_parts Try.infoE
  have HP := Lib.hid hp
  have HQ := Lib.hid hq
  have HS := Lib.hid hS
  have HT := Lib.hid hT
  clear hp hq hS hT
  go_enter Try.func117, Try.ntmps117
  go_wp2_with (first | (at_make; refine wpList_make_full _ rfl _ _ 96 rfl w.heap.size 109 i0 (.int .u8 0) 1 Try.underlying96 hi hz0 hz1 .i64 .i64 _ _ k rfl rfl rfl rfl (by rw [hz2]; omega) (by unfold maxLen; omega) (Nat.le_refl _) ?_; intro w1 hown hgrow; have hb1 : Below w.heap.size w w1 := (Below.refl _ w).grown hgrow (Nat.le_refl _) (fun k h => by cases h); have HW := Lib.hid (Wr.made (K := .u8) hown); have HB := Lib.hid hb1; clear hown hgrow hb1))
  go_loopw [13] (fun i wr => ∃ (j : Nat) (F : Nat → Nat), j ≤ k ∧ i = .int .i64 j ∧ Below w.heap.size w wr ∧ Wr wr .u8 w.heap.size k F ∧ Hid (∀ i, i < j → F i = nth p i ^^^ nth q i)) (fun i _ => k - (intOf i).toNat)
  case atStart => exact ⟨0, _, Nat.zero_le _, rfl, HB.out, HW.out, Lib.hid (fun j hj => by omega)⟩
  case round =>
    obtain ⟨j, F, hj, rfl, hb, hW, HI⟩ := hrel
    clear HW HB
    by_cases hlt : j < k
    · obtain ⟨ga, rfl, hga, hca⟩ := (HS.out.below hb).row (by omega)
      obtain ⟨gb, rfl, hgb, hcb⟩ := (HT.out.below hb).row (by omega)
      have cu := hca j hlt
      have cv := hcb j hlt
      clear hca hcb
      have hx := HP.out j
      have hy := HQ.out j
      obtain ⟨x, hxe⟩ : ∃ x, nth p j = x := ⟨_, rfl⟩
      obtain ⟨y, hye⟩ : ∃ y, nth q j = y := ⟨_, rfl⟩
      rw [hxe] at cu hx
      rw [hye] at cv hy
      have HX := Lib.hid hxe
      have HY := Lib.hid hye
      clear hxe hye
      have hcw := hW.cell j hlt
      have hfw := hW.free j
      have HB2 := Lib.hid hb
      have HW2 := Lib.hid hW
      clear hb hW
      go_wp2_with (go_at_call 129; refine (ePlus_any x y hx hy _).mono ?_; rintro e w' ⟨rfl, rfl⟩)
      go_roundw
      case rel => exact ⟨j + 1, _, by omega, by go_num, below_set HB2.out _ _ (Nat.le_refl _) _, HW2.out.set j hlt (x ^^^ y), Lib.hid (fun i hi => by
        simp only [put]
        by_cases e : i = j
        · subst e; rw [if_pos rfl, HX.out, HY.out]
        · rw [if_neg e]; exact HI.out i (by omega))⟩
      case measure => simp [intOf]; omega
    · obtain rfl : j = k := by omega
      have hres : Rl wr .u8 (some ⟨w.heap.size, 0, none⟩) j (xorW p q j) := by
        have h1 := hW.rl
        rwa [show lst F j = xorW p q j from lst_congr fun i hi => HI.out i hi] at h1
      have HRES := Lib.hid hres
      have HB2 := Lib.hid hb
      clear hb hW hres
      go_wp2
      go_ret
      exact ⟨w.heap.size, rfl, Nat.le_refl _, HB2.out, HRES.out⟩
theorem wplus_any (A B : Option Addr) (k ca cb : Nat) (p q : List Nat) (hp : ∀ j, nth p j < 256) (hq : ∀ j, nth q j < 256) (hk : k ≤ 1048576) (w : World) (hS : Rl w .u8 A k p) (hT : Rl w .u8 B k q) :
    Calls Try.prog 117 #[.slice A k ca, .slice B k cb] w fun e w' => ∃ g, e = .returned (.slice (some ⟨g, 0, none⟩) k k) ∧ Below w.heap.size w w' ∧ Rl w' .u8 (some ⟨g, 0, none⟩) k (xorW p q k) := by
  refine (wplus_new A B k ca cb p q hp hq hk w hS hT).mono ?_
  rintro e w' ⟨g, h1, _, h2, h3⟩
  exact ⟨g, h1, h2, h3⟩
end Go.Proofs.Ytljaabmemjehpaa
