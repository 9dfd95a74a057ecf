/- Bases: the program's. -/
import Derived.Test.YtlchelaohiojiaaDoorEPlus
import Derived.Test.YtlchelaohiojiaaDoorSqr
import Derived.Test.YtlchelaohiojiaaDoorBasPure
import Derived.Test.YtlchelaohiojiaaDoorArr
import Derived.Deep.Cut
namespace Go.Proofs.YtlchelaohiojiaaDoor
open Go.RowKit Go.Joins
set_option linter.unusedVariables false

set_option maxHeartbeats 1600000 in
theorem chosenSum_any (A : Option Addr) (n cap : Nat) (p : List Nat) (hp : ∀ j, nth p j < 256) (hn : n ≤ 32) (r : Nat) (hr : r < 4294967296) (w : World) (hS : Rl w .i64 A n p) :
    Calls Tryd.prog 77 #[.slice A n cap, .int .i64 r] w fun e w' => e = .returned (.int .u8 (tms r p n : Nat)) ∧ w = w' := by
  have HP := Lib.hid hp
  have HS := Lib.hid hS
  clear hp hS
  go_enter Tryd.func77, Tryd.ntmps77
  go_wp2_with fail
  go_loop [5, 10] (fun s i => ∃ j : Nat, j ≤ n ∧ i = .int .i64 j ∧ s = .int .u8 (tms r p j : Nat)) (fun _ i => n - (intOf i).toNat)
  case atStart => exact ⟨0, Nat.zero_le _, rfl, rfl⟩
  case round =>
    obtain ⟨j, hj, rfl, rfl⟩ := hrel
    by_cases hlj : j < n
    · obtain ⟨g, rfl, hg, hc⟩ := HS.out.row (by omega)
      have hrow := hc j hlj
      clear hc
      have hx := HP.out j
      have hcs : tms r p (j + 1) = if r.testBit j then tms r p j ^^^ nth p j else tms r p j := rfl
      have hcl : tms r p j < 256 := tms_lt (C := 8) HP.out r j
      generalize tms r p j = s at hcs hcl ⊢
      generalize nth p j = x at hrow hx hcs
      have e1 : IntKind.u8.wrap (x : Int) = x := by rw [IntKind.wrap_u8']; omega
      by_cases hb : r.testBit j = true
      · rw [if_pos hb] at hcs
        have hb' := bit_yes (q := r) (k := j) (by omega) (bit_of'.1 hb)
        have HCS := Lib.hid hcs
        clear hb hcs
        go_wp2_with (go_at_call 79; refine (ePlus_any s x hcl hx _).mono ?_; rw [← HCS.out]; rintro e w' ⟨rfl, rfl⟩)
        go_round
        case rel => exact ⟨j + 1, by omega, by go_num, rfl⟩
        case measure => simp [intOf]; omega
      · rw [if_neg hb] at hcs
        have hb' := bit_no (q := r) (k := j) (by omega) (fun h => hb (bit_of'.2 h))
        have HCS := Lib.hid hcs
        clear hb hcs
        go_wp2
        go_round
        case rel => exact ⟨j + 1, by omega, by go_num, by rw [HCS.out]⟩
        case measure => simp [intOf]; omega
    · obtain rfl : j = n := by omega
      go_wp2_with fail
      go_ret
      exact ⟨rfl, rfl⟩

set_option maxRecDepth 100000 in
set_option maxHeartbeats 3200000 in
theorem coordinates_any (c m P n : Nat) (hF : Fld m P n) (A : Option Addr) (k cap : Nat) (p : List Nat) (hp : ∀ j, nth p j < n) (hk : k ≤ 1048576) (w : World) (hC : Calc c m P n w) (hS : Rl w .i64 A k p) :
    Calls Tryd.prog 41 #[.pointer (some ⟨c, 0, none⟩), .slice A k cap] w fun e w' => ∃ f : Nat → Nat, e = .returned (.tuple #[.agg (arrC f), .bool (basB m p)]) ∧ Below w.heap.size w w' ∧ (basB m p = true → ∀ b, b < n → f (tms b p m) = b) := by
  have h32 := hF.n32
  have hn2 := hF.n2
  have hm5 := hF.m5
  have hlen := hS.len
  have hcl := hC.lt
  have h4 := AAt.start w (fun _ => 0) 67
  have h6 := AAt.start (w.alloc (.cells (arrC fun _ => 0) 67)) (fun _ => 0) 67
  have h7 := BAt.start ((w.alloc (.cells (arrC fun _ => 0) 67)).alloc (.cells (arrC fun _ => 0) 67)) 119
  rw [World.size_alloc] at h6
  rw [World.size_alloc, World.size_alloc] at h7
  have hb0 := below_alloc1 w (.cells (arrC fun _ => 0) 67)
  have hb1 := below_alloc1 (w.alloc (.cells (arrC fun _ => 0) 67)) (.cells (arrC fun _ => 0) 67)
  have hb2 := below_alloc1 ((w.alloc (.cells (arrC fun _ => 0) 67)).alloc (.cells (arrC fun _ => 0) 67)) (.cells falses 119)
  have H4 := (h4.below hb1).below hb2
  have H6 := h6.below hb2
  have HB0 := (hb0.trans (hb1.mono hb0.size)).trans (hb2.mono (by simp; omega))
  have hz3 : (((w.alloc (.cells (arrC fun _ => 0) 67)).alloc (.cells (arrC fun _ => 0) 67)).alloc (.cells falses 119)).heap.size = w.heap.size + 1 + 1 + 1 := by simp
  have ex : ∃ W3, ((w.alloc (.cells (arrC fun _ => 0) 67)).alloc (.cells (arrC fun _ => 0) 67)).alloc (.cells falses 119) = W3 := ⟨_, rfl⟩
  obtain ⟨W3, hW3⟩ := ex
  have hW3' : ((w.alloc (.cells #[.int .i64 0, .int .i64 0, .int .i64 0, .int .i64 0, .int .i64 0, .int .i64 0, .int .i64 0, .int .i64 0, .int .i64 0, .int .i64 0, .int .i64 0, .int .i64 0, .int .i64 0, .int .i64 0, .int .i64 0, .int .i64 0, .int .i64 0, .int .i64 0, .int .i64 0, .int .i64 0, .int .i64 0, .int .i64 0, .int .i64 0, .int .i64 0, .int .i64 0, .int .i64 0, .int .i64 0, .int .i64 0, .int .i64 0, .int .i64 0, .int .i64 0, .int .i64 0] 67)).alloc (.cells #[.int .i64 0, .int .i64 0, .int .i64 0, .int .i64 0, .int .i64 0, .int .i64 0, .int .i64 0, .int .i64 0, .int .i64 0, .int .i64 0, .int .i64 0, .int .i64 0, .int .i64 0, .int .i64 0, .int .i64 0, .int .i64 0, .int .i64 0, .int .i64 0, .int .i64 0, .int .i64 0, .int .i64 0, .int .i64 0, .int .i64 0, .int .i64 0, .int .i64 0, .int .i64 0, .int .i64 0, .int .i64 0, .int .i64 0, .int .i64 0, .int .i64 0, .int .i64 0] 67)).alloc (.cells #[.bool false, .bool false, .bool false, .bool false, .bool false, .bool false, .bool false, .bool false, .bool false, .bool false, .bool false, .bool false, .bool false, .bool false, .bool false, .bool false, .bool false, .bool false, .bool false, .bool false, .bool false, .bool false, .bool false, .bool false, .bool false, .bool false, .bool false, .bool false, .bool false, .bool false, .bool false, .bool false] 119) = W3 := hW3
  rw [hW3] at H4 H6 h7 HB0 hz3
  have HC := hC.below hcl (Below.mono HB0 (Nat.le_refl _))
  have HS := Lib.hid hS
  have HW := Lib.hid hW3'
  have HP := Lib.hid hp
  clear h4 h6 hb0 hb1 hb2 hS hp hC hW3 hW3'
  obtain ⟨r, hr⟩ : ∃ r, basB m p = r := ⟨_, rfl⟩
  rw [hr]
  have HR := Lib.hid hr
  clear hr
  have hdeg := HC.deg
  go_enter Tryd.func41, Tryd.ntmps41
  go_upto_region 3 with fail
  rw [HW.out]
  clear HW
  by_cases hkm : k = m
  · subst hkm
    go_wp2_with (go_at_call 73; refine (size_any c k P n hF _ (by exact hdeg)).mono ?_; rintro e w' ⟨rfl, rfl⟩)
    go_loopw [20] (fun i wr => ∃ (j : Nat) (F : Nat → Nat) (G : Nat → Bool), j ≤ n ∧ i = .int .i64 j ∧ Below w.heap.size w wr ∧ w.heap.size + 1 + 1 + 1 ≤ wr.heap.size ∧ AAt wr w.heap.size (fun _ => 0) ∧ AAt wr (w.heap.size + 1) F ∧ BAt wr (w.heap.size + 1 + 1) G ∧ Hid (∀ x, x < 32 → (G x = true ↔ ∃ b, b < j ∧ tms b p k = x)) ∧ Hid (∀ b, b < j → F (tms b p k) = b)) (fun i _ => n - (intOf i).toNat)
    case atStart => exact ⟨0, _, _, Nat.zero_le _, rfl, HB0, by omega, H4, H6, h7, Lib.hid (fun x hx => by simp), Lib.hid (fun b hb => by omega)⟩
    case round =>
      obtain ⟨j, F, G, hj, rfl, hb, hz, hA4, hA6, hA7, HG, HFn⟩ := hrel
      have hSr := HS.out.below hb
      clear H4 H6 h7 HB0 hz3 HC hdeg
      have hSUM := fun (hj : j < n) => chosenSum_any A k cap p (fun i => by have := HP.out i; omega) (by omega) j (by omega) wr hSr
      by_cases hlt : j < n
      · have hsl : tms j p k < n := by rw [← hF.n]; exact tms_lt (fun i => by rw [hF.n]; exact HP.out i) j k
        obtain ⟨s, hs⟩ : ∃ s, tms j p k = s := ⟨_, rfl⟩
        have HSUM := Lib.hid (hSUM hlt)
        rw [hs] at HSUM hsl
        have HE := Lib.hid hs
        have g7 := hA7.cell s (by omega)
        have f7 := hA7.free s (by omega)
        have g6 := hA6.cell s (by omega)
        have f6 := hA6.free s (by omega)
        have HA4 := Lib.hid hA4
        have HA6 := Lib.hid hA6
        have HA7 := Lib.hid hA7
        have HB := Lib.hid hb
        clear hSUM hs hA4 hA6 hA7 hSr hb
        cases hGs : G s with
        | true =>
          rw [hGs] at g7
          have HGS := Lib.hid hGs
          clear hGs
          go_wp2_with (first | (go_at_call 77; refine HSUM.out.mono ?_; rintro e w' ⟨rfl, rfl⟩) | (refine arr_load rfl _ rfl (w.heap.size + 1) F rfl HA6.out ?_) | (refine arr_store rfl _ _ rfl w.heap.size (fun _ => 0) F rfl rfl HA4.out ?_; intro W2 HA2 HO2))
          refine bodyPost_ret (v := .tuple #[.agg (arrC F), .bool false]) (arr_results (p := 4) (u := 5) (fn := Tryd.f41) rfl _ rfl HA2.out) rfl ?_
          have hno : basB k p = false := by
            obtain ⟨b, hb, e⟩ := (HG.out s (by omega)).1 HGS.out
            exact basB_twice hb (by rw [hF.n]; exact hlt) (by rw [e, HE.out])
          have hr0 : r = false := by rw [← HR.out]; exact hno
          exact ⟨F, by rw [hr0], HO2.out.below HB.out (Nat.le_refl _), fun h => by rw [hr0] at h; cases h⟩
        | false =>
          rw [hGs] at g7
          have HGS := Lib.hid hGs
          clear hGs
          go_wp2_with (go_at_call 77; refine HSUM.out.mono ?_; rintro e w' ⟨rfl, rfl⟩)
          go_roundw
          case rel => exact ⟨j + 1, _, _, by omega, by go_num, (HB.out.setCell (p := ⟨w.heap.size + 1 + 1, s, none⟩) (by show w.heap.size ≤ w.heap.size + 1 + 1; omega) _).setCell (p := ⟨w.heap.size + 1, s, none⟩) (by show w.heap.size ≤ w.heap.size + 1; omega) _, by show _ ≤ (Array.modify _ _ _).size; rw [Array.size_modify]; show _ ≤ (Array.modify _ _ _).size; rw [Array.size_modify]; exact hz,
            (HA4.out.only ((Only.refl (w.heap.size + 1 + 1) _).setCell s _) (by omega)).only ((Only.refl (w.heap.size + 1) _).setCell s _) (by omega),
            (HA6.out.only ((Only.refl (w.heap.size + 1 + 1) _).setCell s _) (by omega)).set s (by omega) j,
            (HA7.out.set s (by omega) true).only ((Only.refl (w.heap.size + 1) _).setCell s _) (by omega), Lib.hid (fun x hx => by
              by_cases e : x = s
              · subst e
                simp only [if_true, true_iff]
                exact ⟨j, by omega, HE.out⟩
              · rw [if_neg e, HG.out x hx]
                constructor
                · rintro ⟨b, hb, eb⟩; exact ⟨b, by omega, eb⟩
                · rintro ⟨b, hb, eb⟩
                  refine ⟨b, ?_, eb⟩
                  rcases Nat.lt_or_ge b j with h | h
                  · exact h
                  · exfalso; apply e; rw [← eb, ← HE.out, show b = j by omega]), Lib.hid (fun b hb => by
              simp only [put]
              by_cases e : b = j
              · subst e; rw [HE.out, if_pos rfl]
              · have hne : tms b p k ≠ s := fun e2 => by
                  have := (HG.out s (by omega)).2 ⟨b, by omega, e2⟩
                  rw [HGS.out] at this; cases this
                rw [if_neg hne]; exact HFn.out b (by omega))⟩
          case measure => simp [intOf]; omega
      · obtain rfl : j = n := by omega
        have HA4 := Lib.hid hA4
        have HA6 := Lib.hid hA6
        have HB := Lib.hid hb
        clear hSUM hA4 hA6 hA7 hSr hb
        go_wp2_with (first | (refine arr_load rfl _ rfl (w.heap.size + 1) F rfl HA6.out ?_) | (refine arr_store rfl _ _ rfl w.heap.size (fun _ => 0) F rfl rfl HA4.out ?_; intro W2 HA2 HO2))
        refine bodyPost_ret (v := .tuple #[.agg (arrC F), .bool true]) (arr_results (p := 4) (u := 5) (fn := Tryd.f41) rfl _ rfl HA2.out) rfl ?_
        have hyes : basB k p = true := basB_all hlen (fun a b hab hb e => by
          rw [hF.n] at hb
          have e1 := HFn.out a (by omega)
          have e2 := HFn.out b hb
          rw [e, e2] at e1; omega)
        have hr1 : r = true := by rw [← HR.out]; exact hyes
        exact ⟨F, by rw [hr1], HO2.out.below HB.out (Nat.le_refl _), fun _ => HFn.out⟩
  · have g0 : ((k : Int) == (m : Int)) = false := by simp; omega
    have h6' := Lib.hid H6
    have h4' := Lib.hid H4
    go_wp2_with (first | (refine arr_load rfl _ rfl (w.heap.size + 1) (fun _ => 0) rfl h6'.out ?_) | (refine arr_store rfl _ _ rfl w.heap.size (fun _ => 0) (fun _ => 0) rfl rfl h4'.out ?_; intro W2 HA2 HO2))
    refine bodyPost_ret (v := .tuple #[.agg (arrC fun _ => 0), .bool false]) (arr_results (p := 4) (u := 5) (fn := Tryd.f41) rfl _ rfl HA2.out) rfl ?_
    have hno : basB m p = false := basB_len (by omega)
    have hr0 : r = false := by rw [← HR.out]; exact hno
    exact ⟨_, by rw [hr0], HO2.out.below HB0 (Nat.le_refl _), fun h => by rw [hr0] at h; cases h⟩
end Go.Proofs.YtlchelaohiojiaaDoor
