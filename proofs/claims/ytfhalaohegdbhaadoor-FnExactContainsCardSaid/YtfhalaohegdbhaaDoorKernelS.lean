/- The product of two rows: the model. · The kernel: the model's. -/
import Derived.Test.YtfhalaohegdbhaaDoorSp1
import Derived.Test.YtfhalaohegdbhaaDoorKern
import Derived.Test.YtfhalaohegdbhaaDoorEchelonOf
namespace Go.Proofs.YtfhalaohegdbhaaDoor
open Go.RowKit Go.Joins
set_option linter.unusedVariables false

/-- A truth as a number. -/
def b01 (b : Bool) : Nat := if b then 1 else 0
theorem b01_le (b : Bool) : b01 b ≤ 1 := by cases b <;> simp [b01]
theorem b01_xor (s : Bool) (y : Nat) : b01 s ^^^ (y % 2) = b01 (s ^^ (y % 2 == 1)) := by
  have : y % 2 = 0 ∨ y % 2 = 1 := by omega
  rcases this with h | h <;> rw [h] <;> cases s <;> rfl

set_option maxHeartbeats 800000 in
theorem l02Product_any (a b : Nat) (ha : a < 4294967296) (hb : b < 4294967296) (w : World) :
    Calls Tryd.prog 84 #[.int .i64 a, .int .i64 b] w fun e w' => e = .returned (.int .i64 (b01 (prd a b) : Nat)) ∧ w = w' := by
  have hand := i64_and_nat a b (by omega) (by omega)
  have hlt : a &&& b < 2 ^ 32 := Nat.and_lt_two_pow _ (by omega)
  unfold prd
  obtain ⟨x, hx⟩ : ∃ x, a &&& b = x := ⟨_, rfl⟩
  rw [hx] at hand hlt ⊢
  clear hx
  go_enter Tryd.func84, Tryd.ntmps84
  go_wp2_with fail
  go_loop [5, 6] (fun n y => ∃ (s : Bool) (z : Nat), z ≤ x ∧ n = .int .i64 (b01 s : Nat) ∧ y = .int .i64 z ∧ (s ^^ par z) = par x) (fun _ y => (intOf y).toNat)
  case atStart => exact ⟨false, x, Nat.le_refl _, rfl, rfl, by simp⟩
  case round =>
    obtain ⟨s, z, hz, rfl, rfl, hp⟩ := hrel
    have hs := b01_le s
    by_cases hz0 : 0 < z
    · have h1 := i64_and1 z (by omega)
      have h2 := i64_xor_nat (b01 s) (z % 2) (by omega) (by omega)
      rw [b01_xor] at h2
      have hd : (z : Int) / 2 = ((z / 2 : Nat) : Int) := by omega
      have hp2 : ((s ^^ (z % 2 == 1)) ^^ par (z / 2)) = par x := by rw [← hp, par_half z, Bool.xor_assoc]
      have HP := Lib.hid hp2
      have H1 := Lib.hid h1
      have H2 := Lib.hid h2
      have HD := Lib.hid hd
      clear hp hp2 h1 h2 hd
      go_wp2_with fail
      go_round
      case rel => exact ⟨s ^^ (z % 2 == 1), z / 2, by omega, by rw [H1.out, H2.out], by go_num, HP.out⟩
      case measure => simp [intOf]; omega
    · obtain rfl : z = 0 := by omega
      rw [par_zero, Bool.xor_false] at hp
      subst hp
      go_wp2_with fail
      go_ret
      exact ⟨rfl, rfl⟩
end Go.Proofs.YtfhalaohegdbhaaDoor
namespace Go.Proofs.YtfhalaohegdbhaaDoor
open Go.RowKit Go.Joins
set_option linter.unusedVariables false

/-- The rows below x whose products with all rows are 0. -/
def anniTo (L : List Nat) (x : Nat) : List Nat := (List.range x).filter (fun x => L.all (fun r => !prd r x))
theorem anniTo_yes {L : List Nat} {x : Nat} (h : L.all (fun r => !prd r x) = true) : anniTo L (x + 1) = anniTo L x ++ [x] := by
  rw [anniTo, List.range_succ, List.filter_append, List.filter_cons, h]; rfl
theorem anniTo_no {L : List Nat} {x : Nat} (h : L.all (fun r => !prd r x) = false) : anniTo L (x + 1) = anniTo L x := by
  rw [anniTo, List.range_succ, List.filter_append, List.filter_cons, h]; simp [anniTo]
theorem anniTo_len (L : List Nat) (x : Nat) : (anniTo L x).length ≤ x := by
  have := List.length_filter_le (fun x => L.all (fun r => !prd r x)) (List.range x)
  rw [List.length_range] at this; exact this
theorem anniTo_lt (L : List Nat) (x : Nat) : ∀ r ∈ anniTo L x, r < x := fun r hr => List.mem_range.1 (List.mem_filter.1 hr).1
theorem anni_def (c : Nat) (L : List Nat) : anni c L = anniTo L (2 ^ c) := rfl
theorem OR.mt {W : World} {B g cap : Nat} {A : List Nat} (h : OR W B 2 g cap A) (hk : A.length ≤ 1048576) : Mt W g A.length (ints A) :=
  ⟨by rw [ints_length], hk, h.lt.2, fun j hj => by rw [ints_get]; exact h.cell j hj, fun j => h.free j⟩
theorem allTo_succ {L : List Nat} {x j : Nat} (hj : j < L.length) : (L.take (j + 1)).all (fun r => !prd r x) = ((L.take j).all (fun r => !prd r x) && !prd (nth L j) x) := by
  rw [take_succ' hj, List.all_append]; simp
theorem allTo_false {L : List Nat} {x j : Nat} (h : (L.take j).all (fun r => !prd r x) = false) : L.all (fun r => !prd r x) = false := by
  rw [← List.take_append_drop j L, List.all_append, h]; rfl

set_option maxRecDepth 100000 in
set_option maxHeartbeats 6400000 in
theorem l02Kernel_any (C b n cap : Nat) (L : List Nat) (hC : C ≤ 10) (hL : ∀ r ∈ L, r < 2 ^ C) (hn : n ≤ 1024) (w : World) (hM : Mt w b n (ints L)) :
    Calls Tryd.prog 59 #[.int .i64 C, .slice (some ⟨b, 0, none⟩) n cap] w fun e w' => ∃ v, e = .returned (.agg #[.int .i64 C, v]) ∧ Below w.heap.size w w' ∧ Res w' w.heap.size w'.heap.size v (ints (kernel C L)) := by
  obtain ⟨i0, hi, hz0, hz1, hz2⟩ := info_parts Tryd.infoI
  have hll := hM.len
  rw [ints_length] at hll
  have hbl := hM.lt
  have HLL := Lib.hid hll
  clear hll
  have hP10 : (2 : Nat) ^ C ≤ 1024 := pow_le10 hC
  have hgL : ∀ j, nth L j < 1024 := fun j => Nat.lt_of_lt_of_le (nth_bound hL j) hP10
  rw [← kernel_eq hL]
  have E := fun g n cap w hn hM => l02Echelon_any C g n cap (anni C L) hC (fun r hr => (anni_mem.1 hr).1) hn w hM
  have hJ : ((cols (anni C L) C).2).length ≤ 10 := by
    rw [cols_eq (fun r hr => (anni_mem.1 hr).1)]; exact joined_len hC (fun r hr => (anni_mem.1 hr).1)
  obtain ⟨J, hJ0⟩ : ∃ J, (cols (anni C L) C).2 = J := ⟨_, rfl⟩
  rw [hJ0] at E hJ ⊢
  rw [anni_def] at E
  obtain ⟨P, hP⟩ : ∃ P : Nat, 2 ^ C = P := ⟨_, rfl⟩
  rw [hP] at E hP10
  have hPi : (2 : Int) ^ C = P := by rw [← int_pow, hP]
  clear hP
  have EE := Lib.hid E
  clear E hJ0 hL
  have hR0 := (MRoom.start w (.int .i64 0) (.slice none 0 0) 28).below (below_alloc1 _ (.cells #[] 2))
  have hO0 : OR ((w.alloc (.cells #[.int .i64 0, .slice none 0 0] 28)).alloc (.cells #[] 2)) (w.heap.size + 1) 2 (w.heap.size + 1) 0 [] := by
    have := OR.start (W := w.alloc (.cells #[.int .i64 0, .slice none 0 0] 28))
    simpa using this
  have hb0 := below_alloc2 w (.cells #[.int .i64 0, .slice none 0 0] 28) (.cells #[] 2)
  have HR0 := Lib.hid hR0
  have HO0 := Lib.hid hO0
  have HB0 := Lib.hid hb0
  clear hR0 hO0 hb0
  go_enter Tryd.func59, Tryd.ntmps59
  go_wp2_with fail
  go_loopw [5, 6] (fun a i wr => ∃ x g cp : Nat, x ≤ P ∧ i = .int .i64 x ∧ a = .slice (some ⟨g, 0, none⟩) (anniTo L x).length cp ∧ OR wr (w.heap.size + 1) 2 g cp (anniTo L x) ∧ MRoom wr w.heap.size ∧ Below w.heap.size w wr) (fun _ i _ => P - (intOf i).toNat)
  case atStart => exact ⟨0, _, _, Nat.zero_le _, rfl, rfl, HO0.out, HR0.out, HB0.out⟩
  case round =>
    obtain ⟨x, g, cp, hx, rfl, rfl, hO, hR, hb⟩ := hrel
    clear HR0 HO0 HB0
    have hal := anniTo_len L x
    by_cases hxP : x < P
    · have hMr := hM.below hb
      have HO := Lib.hid hO
      have HR := Lib.hid hR
      have HB := Lib.hid hb
      have HMR := Lib.hid hMr
      have hrz := hR.lt
      clear hO hR hb hMr
      obtain ⟨m, hm⟩ : ∃ m, (anniTo L x).length = m := ⟨_, rfl⟩
      rw [hm] at hal ⊢
      have HMM := Lib.hid hm
      clear hm
      go_wp2_with fail
      go_loop [7, 8] (fun r i => ∃ j : Nat, j ≤ n ∧ i = .int .i64 j ∧ r = .bool ((L.take j).all (fun r => !prd r x))) (fun _ i => n - (intOf i).toNat)
      case atStart => exact ⟨0, Nat.zero_le _, rfl, rfl⟩
      case round =>
        obtain ⟨j, hj, rfl, rfl⟩ := hrel
        have hfal := allTo_false (L := L) (x := x) (j := j)
        have hsuc : j < n → (L.take (j + 1)).all (fun r => !prd r x) = ((L.take j).all (fun r => !prd r x) && !prd (nth L j) x) := fun h => allTo_succ (by have := HLL.out; omega)
        have hall : j = n → L.all (fun r => !prd r x) = (L.take j).all (fun r => !prd r x) := fun h => by rw [h, ← HLL.out, List.take_length]
        obtain ⟨t, ht⟩ : ∃ t, (L.take j).all (fun r => !prd r x) = t := ⟨_, rfl⟩
        rw [ht] at hfal hsuc hall ⊢
        clear ht
        cases t with
        | false =>
          have HNO := Lib.hid (hfal rfl)
          clear hfal hsuc hall
          have hcase : j < n ∨ ¬ j < n := by omega
          rcases hcase with hlj | hlj
          all_goals
            go_wp2_with fail
            go_roundw
            case rel => exact ⟨x + 1, g, cp, by omega, by go_num, by rw [anniTo_no HNO.out, HMM.out], by rw [anniTo_no HNO.out]; exact HO.out, HR.out, HB.out⟩
            case measure => simp [intOf]; omega
        | true =>
          by_cases hlj : j < n
          · have hrow := HMR.out.cell j hlj
            rw [ints_get] at hrow
            have hgj := hgL j
            have hs := hsuc hlj
            obtain ⟨s, hss⟩ : ∃ s, nth L j = s := ⟨_, rfl⟩
            rw [hss] at hrow hgj hs
            clear hfal hsuc hall hss
            obtain ⟨q, hq⟩ : ∃ q, prd s x = q := ⟨_, rfl⟩
            rw [hq] at hs
            have HQ := Lib.hid hq
            have HS := Lib.hid hs
            clear hq hs
            cases q with
            | false =>
              go_wp2_with (go_at_call 84; refine (l02Product_any s x (by omega) (by omega) _).mono ?_; rw [HQ.out, b01]; rintro e w3 ⟨rfl, rfl⟩)
              go_round
              case rel => exact ⟨j + 1, by omega, by go_num, by rw [HS.out]; rfl⟩
              case measure => simp [intOf]; omega
            | true =>
              go_wp2_with (go_at_call 84; refine (l02Product_any s x (by omega) (by omega) _).mono ?_; rw [HQ.out, b01]; rintro e w3 ⟨rfl, rfl⟩)
              go_round
              case rel => exact ⟨j + 1, by omega, by go_num, by rw [HS.out]; rfl⟩
              case measure => simp [intOf]; omega
          · obtain rfl : j = n := by omega
            have HYES := Lib.hid (anniTo_yes (hall rfl))
            clear hfal hsuc hall
            go_wp2_with (at_builtin; refine wpList_append_own _ rfl _ _ 22 rfl (w.heap.size + 1) 2 i0 (.int .i64 0) 1 8 Tryd.underlying22 hi hz0 hz1 hz2 rfl (by decide) _ _ _ rfl ((HO.out.own' HMM.out).alloc _) ⟨wr.heap.size, 0, none⟩ 1 1 [.int .i64 x] rfl rfl (one_new _ _ _) (one_one _ _) (by unfold maxLen; omega) (by omega) (by simp; omega) ?_; intro v' w3 hown' hgrow _; have hb3 : Below (w.heap.size + 1) wr w3 := (((Below.refl _ wr).alloc (by omega) _).grown hgrow (by simp; omega) (fun g hg => ((HO.out.own' HMM.out).lt g hg).1)); have hown2 := hown'; rw [← HMM.out] at hown2; obtain ⟨g', cp', hv, hN⟩ := OR.snoc hown2; rw [HMM.out] at hv; subst hv; have HN := Lib.hid hN; have HB3 := Lib.hid hb3; clear hown' hown2 hgrow hN hb3)
            go_roundw
            case rel => exact ⟨x + 1, g', cp', by omega, by go_num, by rw [HYES.out]; simp [HMM.out], by rw [HYES.out]; exact HN.out, ⟨by obtain ⟨u, v, h0, h1⟩ := HR.out.ex; exact ⟨u, v, (HB3.out.cell (p := ⟨w.heap.size, 0, none⟩) (by simp)).trans h0, (HB3.out.cell (p := ⟨w.heap.size, 1, none⟩) (by simp)).trans h1⟩, (HB3.out.frozen (p := ⟨w.heap.size, 0, none⟩) (by simp)).trans HR.out.f0, (HB3.out.frozen (p := ⟨w.heap.size, 1, none⟩) (by simp)).trans HR.out.f1, Nat.lt_of_lt_of_le hrz HB3.out.size⟩, HB.out.trans (HB3.out.mono (by omega))⟩
            case measure => simp [intOf]; omega
    · obtain rfl : x = P := by omega
      have hE := EE.out g _ cp wr (by omega) (hO.mt (by omega))
      have HE := Lib.hid hE
      have HR := Lib.hid hR
      have HB := Lib.hid hb
      have hrz := hR.lt
      clear hE hO hR hb
      go_wp2_with fail
      refine HE.out.mono ?_
      rintro e w4 ⟨g4, cp4, rfl, hb4, hO4⟩
      have hR4 := HR.out.below hb4
      have hbb := HB.out.trans (hb4.mono HB.out.size)
      obtain ⟨u, v, h0, h1⟩ := hR4.ex
      have f0 := hR4.f0
      have f1 := hR4.f1
      have HO4 := Lib.hid hO4
      have HBB := Lib.hid hbb
      have hsz := HB.out.size
      clear hR4 hb4 hbb hO4 HE HR HB
      go_wp2_with fail
      refine bodyPost_ret (v := .agg #[.int .i64 C, .slice (some ⟨g4, 0, none⟩) J.length cp4]) (mat_result (p := 4) (fn := Tryd.f59) rfl _ rfl (two_setCell _ _ _ _ h0 h1).1 (two_setCell _ _ _ _ h0 h1).2) rfl ⟨_, rfl, ?_, (HO4.out.res (B' := wr.heap.size) (by omega) (Nat.le_refl _)).fin (q := w.heap.size) hrz (by omega) _ _⟩
      exact (only2 _ _ _ _).below HBB.out (Nat.le_refl _)
end Go.Proofs.YtfhalaohegdbhaaDoor
