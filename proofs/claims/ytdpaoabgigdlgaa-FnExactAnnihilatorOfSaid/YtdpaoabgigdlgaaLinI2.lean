/- The program's lists of coefficients: multiples, composed, sums. -/
import Derived.Test.YtdpaoabgigdlgaaLinI
import Derived.Laws.CopyOwn
namespace Go.Proofs.Ytdpaoabgigdlgaa
open Go.RowKit Go.Joins
set_option linter.unusedVariables false

theorem Try.infoE : (Try.prog.info? 49).map (fun i => (i.zero, i.size, i.bytes)) = some (some (.int .u8 0), 1, 1) := by kernel_rfl
theorem Rl.drewN {W : World} {K : IntKind} {A : Option Addr} {n : Nat} {p : List Nat} (h : Rl W K A n p) (k : Nat) : Rl (W.drewN k) K A n p := h.same rfl
theorem Wr.drewN {W : World} {K : IntKind} {g n : Nat} {f : Nat → Nat} (h : Wr W K g n f) (k : Nat) : Wr (W.drewN k) K g n f := h.same rfl

set_option maxHeartbeats 1600000 in
theorem multiple_any (c m P n : Nat) (hF : Fld m P n) (a : Nat) (ha : a < n) (A : Option Addr) (k cap : Nat) (p : List Nat) (hp : ∀ j, nth p j < n) (hk : k ≤ 1048576) (w : World) (hC : Calc c m P n w) (hR : Rl w .u8 A k p) :
    Calls Try.prog 105 #[.pointer (some ⟨c, 0, none⟩), .int .u8 a, .slice A k cap] w fun e w' => ∃ b, e = .returned (.slice (some ⟨b, 0, none⟩) k k) ∧ Below w.heap.size w w' ∧ Rl w' .u8 (some ⟨b, 0, none⟩) k (scl P a p) := by
  obtain ⟨i0, hi, hz0, hz1, hz2⟩ := info_parts Try.infoE
  have HP := Lib.hid hp
  have HR := Lib.hid hR
  have hcl := hC.lt
  have HC := Lib.hid hC
  clear hp hR hC
  go_enter Try.func105, Try.ntmps105
  go_wp2_with (at_make; refine wpList_make_full _ rfl _ _ 51 rfl w.heap.size 49 i0 (.int .u8 0) 1 Try.underlying51 hi hz0 hz1 .i64 .i64 _ _ k rfl rfl rfl rfl (by rw [hz2]; omega) (by unfold maxLen; omega) (Nat.le_refl _) ?_; intro w1 hown hgrow)
  have hb1 : Below w.heap.size w w1 := (Below.refl _ w).grown hgrow (Nat.le_refl _) (fun k h => by cases h)
  have HW := Lib.hid (Wr.made (K := .u8) hown)
  have HB := Lib.hid hb1
  clear hown hgrow hz0 hz1 hz2 hi hb1
  go_loopw [15] (fun i wr => ∃ (j : Nat) (F : Nat → Nat), j ≤ k ∧ i = .int .i64 j ∧ Below w.heap.size w wr ∧ Wr wr .u8 w.heap.size k F ∧ Hid (∀ i, i < j → F i = mul P a (nth p i))) (fun i _ => k - (intOf i).toNat)
  case atStart => exact ⟨0, _, Nat.zero_le _, rfl, HB.out, HW.out, Lib.hid (fun j hj => by omega)⟩
  case round =>
    obtain ⟨j, F, hj, rfl, hb, hW, HI⟩ := hrel
    clear HW HB
    by_cases hlt : j < k
    · obtain ⟨g, rfl, hg, hc⟩ := (HR.out.below hb).row (by omega)
      have hck := hc j hlt
      clear hc
      have hx := HP.out j
      obtain ⟨x, hxe⟩ : ∃ x, nth p j = x := ⟨_, rfl⟩
      rw [hxe] at hck hx
      have HX := Lib.hid hxe
      clear hxe
      have hcw := hW.cell j hlt
      have hfw := hW.free j
      have hCr := HC.out.below hcl hb
      have HB2 := Lib.hid hb
      have HW2 := Lib.hid hW
      clear hb hW
      go_wp2_with (go_at_call 100; refine (product_any c m P n hF _ _ ha hx _ hCr).mono ?_; rintro e w' ⟨rfl, rfl⟩)
      go_roundw
      case rel => exact ⟨j + 1, _, by omega, by go_num, below_set HB2.out _ _ (Nat.le_refl _) _, HW2.out.set j hlt _, Lib.hid (fun i hi => by
        simp only [put]
        by_cases e : i = j
        · subst e; rw [if_pos rfl, HX.out]
        · rw [if_neg e]; exact HI.out i (by omega))⟩
      case measure => simp [intOf]; omega
    · obtain rfl : j = k := by omega
      have HB2 := Lib.hid hb
      have HW2 := Lib.hid hW
      clear hb hW
      go_wp2
      go_ret
      refine ⟨_, rfl, HB2.out, ?_⟩
      have h1 := HW2.out.rl
      rwa [show lst F j = scl P a p by rw [scl, HR.out.len]; exact lst_congr fun i hi => HI.out i hi] at h1

set_option maxRecDepth 100000 in
set_option maxHeartbeats 3200000 in
theorem composed_any (c m P n : Nat) (hF : Fld m P n) (A B : Option Addr) (k l ca cb : Nat) (p q : List Nat) (hp : ∀ j, nth p j < n) (hq : ∀ j, nth q j < n) (hk : k ≤ 500000) (hl : l ≤ 500000) (w : World) (hC : Calc c m P n w) (hR : Rl w .u8 A k p) (hS : Rl w .u8 B l q) :
    Calls Try.prog 53 #[.pointer (some ⟨c, 0, none⟩), .slice A k ca, .slice B l cb] w fun e w' => ∃ D r, e = .returned (.slice D r r) ∧ Below w.heap.size w w' ∧ Rl w' .u8 D r (cmp P p q) := by
  obtain ⟨i0, hi, hz0, hz1, hz2⟩ := info_parts Try.infoE
  have h32 := hF.n32
  have hkp := hR.len
  have hlq := hS.len
  have HP := Lib.hid hp
  have HQ := Lib.hid hq
  have HR := Lib.hid hR
  have HS := Lib.hid hS
  have hcl := hC.lt
  have HC := Lib.hid hC
  clear hp hq hR hS hC
  by_cases hk0 : k = 0
  · subst hk0
    go_enter Try.func53, Try.ntmps53
    go_wp2
    go_ret
    exact ⟨none, 0, rfl, Below.refl _ _, by unfold cmp; rw [if_pos (.inl hkp)]; exact Rl.nil _ _ _⟩
  by_cases hl0 : l = 0
  · subst hl0
    go_enter Try.func53, Try.ntmps53
    go_wp2
    go_ret
    exact ⟨none, 0, rfl, Below.refl _ _, by unfold cmp; rw [if_pos (.inr hlq)]; exact Rl.nil _ _ _⟩
  have g1 : ((k : Int) == 0) = false := by simp; omega
  have g2 : ((l : Int) == 0) = false := by simp; omega
  obtain ⟨N, hN⟩ : ∃ N, k + l - 1 = N := ⟨_, rfl⟩
  have eN : (k : Int) + (l : Int) - 1 = (N : Int) := by omega
  have eN2 : IntKind.i64.wrap ((k : Int) + (l : Int)) = (k : Int) + (l : Int) := by rw [IntKind.wrap_i64]; omega
  have eN3 : IntKind.i64.wrap ((k : Int) + (l : Int) - 1) = (N : Int) := by rw [IntKind.wrap_i64]; omega
  go_enter Try.func53, Try.ntmps53
  go_wp2_with (at_make; refine wpList_make_full _ rfl _ _ 51 rfl w.heap.size 49 i0 (.int .u8 0) 1 Try.underlying51 hi hz0 hz1 .i64 .i64 _ _ N rfl rfl (by first | rfl | omega) (by first | rfl | omega) (by rw [hz2]; omega) (by unfold maxLen; omega) (Nat.le_refl _) ?_; intro w1 hown hgrow)
  have hb1 : Below w.heap.size w w1 := (Below.refl _ w).grown hgrow (Nat.le_refl _) (fun k h => by cases h)
  have HW := Lib.hid (Wr.made (K := .u8) hown)
  have HB := Lib.hid hb1
  have HN := Lib.hid hN
  clear hown hgrow hz0 hz1 hz2 hi hb1 hN eN eN2 eN3
  go_loopw [29] (fun i wr => ∃ (I : Nat), I ≤ k ∧ i = .int .i64 I ∧ Below w.heap.size w wr ∧ Wr wr .u8 w.heap.size N (call P p q I)) (fun i _ => k - (intOf i).toNat)
  case atStart => exact ⟨0, Nat.zero_le _, rfl, HB.out, HW.out⟩
  case round =>
    obtain ⟨I, hI, rfl, hb, hW⟩ := hrel
    clear HW HB
    by_cases hlt : I < k
    · obtain ⟨g, rfl, hg, hc⟩ := (HR.out.below hb).row (by omega)
      have hck := hc I hlt
      clear hc
      have hx := HP.out I
      obtain ⟨x, hxe⟩ : ∃ x, nth p I = x := ⟨_, rfl⟩
      rw [hxe] at hck hx
      have HX := Lib.hid hxe
      clear hxe
      have HB2 := Lib.hid hb
      have HW2 := Lib.hid hW
      clear hb hW
      go_wp2
      go_loopw [36] (fun i wr => ∃ (J : Nat), J ≤ l ∧ i = .int .i64 J ∧ Below w.heap.size w wr ∧ Wr wr .u8 w.heap.size N (crow P p q I (call P p q I) J)) (fun i _ => l - (intOf i).toNat)
      case atStart => exact ⟨0, Nat.zero_le _, rfl, HB2.out, HW2.out⟩
      case round =>
        obtain ⟨J, hJ, rfl, hb, hW⟩ := hrel
        clear HW2 HB2 hck
        by_cases hltJ : J < l
        · obtain ⟨g2, rfl, hg2, hc2⟩ := (HS.out.below hb).row (by omega)
          have hcq := hc2 J hltJ
          clear hc2
          have hy := HQ.out J
          obtain ⟨y, hye⟩ : ∃ y, nth q J = y := ⟨_, rfl⟩
          rw [hye] at hcq hy
          have HY := Lib.hid hye
          clear hye
          have hIJ : I + J < N := by have := HN.out; omega
          have hvl := crow_lt hF p q I (call_lt hF p q I) J (I + J)
          have hcw := hW.cell (I + J) hIJ
          have hfw := hW.free (I + J)
          have hset := hW.drewN 1
          obtain ⟨v, hv⟩ : ∃ v, crow P p q I (call P p q I) J (I + J) = v := ⟨_, rfl⟩
          rw [hv] at hcw hvl
          have HV := Lib.hid hv
          clear hv
          have hCr := HC.out.below hcl hb
          have hm := hF.mul_lt x (sq P y I)
          have HB2 := Lib.hid hb
          have HW2 := Lib.hid hW
          clear hb hW hset
          have e3 : IntKind.i64.wrap ((I : Int) + (J : Int)) = (I : Int) + (J : Int) := by rw [IntKind.wrap_i64]; omega
          have e4 : (0 : Int) ≤ (I : Int) + (J : Int) := by omega
          have e5 : (I : Int) + (J : Int) < (N : Int) := by omega
          have e6 : ((I : Int) + (J : Int)).toNat = I + J := by omega
          have hcw' : wr.drew.cell? ⟨w.heap.size, I + J, none⟩ = some (.int .u8 v) := hcw
          have hfw' : wr.drew.frozen? ⟨w.heap.size, I + J, none⟩ = false := hfw
          have HNEW : Hid (Wr (wr.setCell ⟨w.heap.size, I + J, none⟩ (.int .u8 ((v ^^^ mul P x (sq P y I) : Nat) : Int))).drew .u8 w.heap.size N (crow P p q I (call P p q I) (J + 1))) := by
            have h1 := (HW2.out.set (I + J) hIJ (v ^^^ mul P x (sq P y I))).drewN 1
            have e : crow P p q I (call P p q I) (J + 1) = put (crow P p q I (call P p q I) J) (I + J) (v ^^^ mul P x (sq P y I)) := by rw [← HV.out, ← HX.out, ← HY.out]; rfl
            rw [e]; exact h1
          go_wp2
          go_region_law (first | (go_simp; go_at_call 101; refine (timesInside_any c m P n hF x y I J hx hy (by omega) _ (by exact ⟨hCr.deg, hCr.tab⟩)).mono ?_; rintro e w' ⟨rfl, rfl⟩) | (go_simp; go_at_call 99; refine (plus_any _ _ (by omega) (by omega) _).mono ?_; rintro e w' ⟨rfl, rfl⟩))
          all_goals go_wp2
          all_goals go_roundw
          all_goals first | exact ⟨J + 1, by omega, by go_num, (below_set HB2.out _ _ (Nat.le_refl _) _).drew, HNEW.out⟩ | (simp [intOf]; omega)
        · obtain rfl : J = l := by omega
          have HB2 := Lib.hid hb
          have HW2 := Lib.hid hW
          clear hb hW
          go_wp2
          go_roundw
          case rel => exact ⟨I + 1, by omega, by go_num, HB2.out, by
            have h1 := HW2.out
            simp only [call]
            rw [hlq]
            exact h1⟩
          case measure => simp [intOf]; omega
    · obtain rfl : I = k := by omega
      have HB2 := Lib.hid hb
      have HW2 := Lib.hid hW
      clear hb hW
      go_wp2
      go_ret
      refine ⟨_, _, rfl, HB2.out, ?_⟩
      have h1 := HW2.out.rl
      unfold cmp
      rw [if_neg (by omega), hkp, hlq, HN.out, cmpF, hkp]
      exact h1
end Go.Proofs.Ytdpaoabgigdlgaa
