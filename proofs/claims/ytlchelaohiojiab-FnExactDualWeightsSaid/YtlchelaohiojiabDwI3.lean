/- DualWeights: the program's main part. -/
import Derived.Test.YtlchelaohiojiabDwI2
import Derived.Test.YtlchelaohiojiabSv
namespace Go.Proofs.Ytlchelaohiojiab
open Go.RowKit Go.Joins
set_option linter.unusedVariables false

theorem duW_ints {R C : Nat} {zs : List Int} {F : Nat → Nat} (hS : 1 ≤ smD zs (R + 1)) (h : ∀ j, j < R + 1 → okJ R C zs j = true ∧ F j = (dsD R C j zs (R + 1) / smD zs (R + 1)).toNat) : ints (lst F (R + 1)) = duW R C zs (R + 1) := by
  simp only [ints, lst, duW, List.map_map]
  refine List.map_congr_left fun j hj => ?_
  obtain ⟨h1, h2⟩ := h j (List.mem_range.1 hj)
  have h3 : 0 ≤ dsD R C j zs (R + 1) := by simp only [okJ, decide_eq_true_eq] at h1; exact h1.1
  show ((F j : Nat) : Int) = _
  rw [h2]
  exact Int.toNat_of_nonneg (ediv_le h3 hS).1

set_option maxRecDepth 100000 in
set_option maxHeartbeats 3200000 in
theorem implDw_E (R C : Nat) (h : 1 ≤ R ∧ R ≤ 5) (h2 : 1 ≤ C ∧ C ≤ 5) (b len cap : Nat) (h3 : len = R + 1) (zs : List Int) (w : World) (hM : Mt w b len zs) (ha : zs.all okW = true) (h4 : ¬ R ≤ C ∨ ¬ wt zs 0 = 1) :
    Calls Try.prog 6 #[.int .i64 R, .int .i64 C, .slice (some ⟨b, 0, none⟩) len cap] w fun e w' => ∃ v, e = .returned (.tuple #[v, .int .i64 4]) ∧ Below w.heap.size w w' ∧ Res w' w.heap.size w'.heap.size v [] := by
  have H1 := Lib.hid (show decide (1 ≤ (R : Int) ∧ (R : Int) ≤ 5) = true by simp; omega)
  have H2 := Lib.hid (show decide (1 ≤ (C : Int) ∧ (C : Int) ≤ 5) = true by simp; omega)
  have hg := wt_ok ha
  have hS := fun k => smD_at hg k
  have hln := hM.len
  have hout : ∀ j, ¬ j < len → wt zs j = 0 := fun j hj => by rw [wt, List.getElem?_eq_none (by omega)]; rfl
  have HOUT := Lib.hid hout
  have HM := Lib.hid hM
  have HA := Lib.hid (A6.start w (fun _ => 0) 33)
  have HB := Lib.hid (below_alloc1 w (.cells (a6 fun _ => 0) 33))
  clear hM hout hln
  go_enter Try.func6, Try.ntmps6
  go_wp2_with (go_at_call 12; first | (with_reducible refine (isLength_eq _ _ H2.out _).mono ?_; rintro e w' ⟨rfl, rfl⟩) | (with_reducible refine (isLength_eq _ _ H1.out _).mono ?_; rintro e w' ⟨rfl, rfl⟩))
  go_loopw [9, 32] (fun s i wr => ∃ k : Nat, k ≤ len ∧ i = .int .i64 k ∧ s = .int .i64 (smD zs k) ∧ Below w.heap.size w wr ∧ A6 wr w.heap.size (fun j => if j < k then wt zs j else 0)) (fun _ i _ => len - (intOf i).toNat)
  case atStart => exact ⟨0, Nat.zero_le _, rfl, rfl, HB.out, HA.out.congr (fun j hj => by simp)⟩
  case round =>
    obtain ⟨k, hk, rfl, rfl, hB, hA⟩ := hrel
    clear HA HB
    have HB := Lib.hid hB
    have HA := Lib.hid hA
    by_cases hlt : k < len
    · have hc : wr.cell? ⟨b, k, none⟩ = some (.int .i64 (wt zs k)) := (HM.out.below hB).cell k hlt
      have hk6 : k < 6 := by omega
      have hk6' : (k : Int) < 6 := by omega
      have hac := hA.cell k hk6
      have haf := hA.free k hk6
      have hgk := hg k
      have hsk := hS k
      have HE := Lib.hid (show smD zs (k + 1) = smD zs k + wt zs k from rfl)
      have HSET := Lib.hid (HA.out.set k hk6 (wt zs k) (fun j => if j < k + 1 then wt zs j else 0) (by simp) (fun j hj => by by_cases h : j < k <;> simp [h] <;> omega))
      generalize smD zs k = x at hsk HE ⊢
      generalize wt zs k = y at hc hgk HE HSET
      clear hg hS hB hA
      go_wp2_with fail
      go_roundw
      case rel => exact ⟨k + 1, by omega, by go_num, by rw [HE.out], HB.out.setCell (p := ⟨w.heap.size, k, none⟩) (Nat.le_refl _) _, HSET.out⟩
      case measure => simp [intOf] <;> omega
    · obtain rfl : k = len := by omega
      have HA6 := Lib.hid (hA.congr (g := wt zs) (fun j hj => by by_cases h : j < k; rw [if_pos h]; rw [if_neg h]; exact HOUT.out j h))
      have hc0 := HA6.out.cell 0 (by omega)
      clear hA hB HA
      clear hg hS
      generalize wt zs 0 = y0 at hc0 h4
      by_cases h5 : R ≤ C
      · have h6 : ¬ y0 = 1 := by omega
        have h7 : (y0 == 1) = false := by simpa using h6
        have h8 : (y0 != 1) = true := by simpa using h6
        go_wp2_with fail
        go_ret2
        exact ⟨_, rfl, HB.out, .nil _ _⟩
      · go_wp2_with fail
        go_ret2
        exact ⟨_, rfl, HB.out, .nil _ _⟩
set_option maxRecDepth 100000 in
set_option maxHeartbeats 3200000 in
theorem implDw_F (R C : Nat) (h : 1 ≤ R ∧ R ≤ 5) (h2 : 1 ≤ C ∧ C ≤ 5) (b len cap : Nat) (h3 : len = R + 1) (zs : List Int) (w : World) (hM : Mt w b len zs) (ha : zs.all okW = true) (h4 : R ≤ C) (h5 : wt zs 0 = 1) :
    Calls Try.prog 6 #[.int .i64 R, .int .i64 C, .slice (some ⟨b, 0, none⟩) len cap] w fun e w' => ∃ v, e = .returned (.tuple #[v, .int .i64 (if (List.range (R + 1)).all (okJ R C zs) = true then 0 else 4)]) ∧ Below w.heap.size w w' ∧ Res w' w.heap.size w'.heap.size v (if (List.range (R + 1)).all (okJ R C zs) = true then duW R C zs (R + 1) else []) := by
  have H1 := Lib.hid (show decide (1 ≤ (R : Int) ∧ (R : Int) ≤ 5) = true by simp; omega)
  have H2 := Lib.hid (show decide (1 ≤ (C : Int) ∧ (C : Int) ≤ 5) = true by simp; omega)
  have hg := wt_ok ha
  have hS := fun k => smD_at hg k
  have hln := hM.len
  have hout : ∀ j, ¬ j < len → wt zs j = 0 := fun j hj => by rw [wt, List.getElem?_eq_none (by omega)]; rfl
  have HOUT := Lib.hid hout
  have HM := Lib.hid hM
  have HA := Lib.hid (A6.start w (fun _ => 0) 33)
  have HB := Lib.hid (below_alloc1 w (.cells (a6 fun _ => 0) 33))
  clear hM hout hln
  go_enter Try.func6, Try.ntmps6
  go_wp2_with (go_at_call 12; first | (with_reducible refine (isLength_eq _ _ H2.out _).mono ?_; rintro e w' ⟨rfl, rfl⟩) | (with_reducible refine (isLength_eq _ _ H1.out _).mono ?_; rintro e w' ⟨rfl, rfl⟩))
  go_loopw [9, 32] (fun s i wr => ∃ k : Nat, k ≤ len ∧ i = .int .i64 k ∧ s = .int .i64 (smD zs k) ∧ Below w.heap.size w wr ∧ A6 wr w.heap.size (fun j => if j < k then wt zs j else 0)) (fun _ i _ => len - (intOf i).toNat)
  case atStart => exact ⟨0, Nat.zero_le _, rfl, rfl, HB.out, HA.out.congr (fun j hj => by simp)⟩
  case round =>
    obtain ⟨k, hk, rfl, rfl, hB, hA⟩ := hrel
    clear HA HB
    have HB := Lib.hid hB
    have HA := Lib.hid hA
    by_cases hlt : k < len
    · have hc : wr.cell? ⟨b, k, none⟩ = some (.int .i64 (wt zs k)) := (HM.out.below hB).cell k hlt
      have hk6 : k < 6 := by omega
      have hk6' : (k : Int) < 6 := by omega
      have hac := hA.cell k hk6
      have haf := hA.free k hk6
      have hgk := hg k
      have hsk := hS k
      have HE := Lib.hid (show smD zs (k + 1) = smD zs k + wt zs k from rfl)
      have HSET := Lib.hid (HA.out.set k hk6 (wt zs k) (fun j => if j < k + 1 then wt zs j else 0) (by simp) (fun j hj => by by_cases h : j < k <;> simp [h] <;> omega))
      generalize smD zs k = x at hsk HE ⊢
      generalize wt zs k = y at hc hgk HE HSET
      clear hg hS hB hA
      go_wp2_with fail
      go_roundw
      case rel => exact ⟨k + 1, by omega, by go_num, by rw [HE.out], HB.out.setCell (p := ⟨w.heap.size, k, none⟩) (Nat.le_refl _) _, HSET.out⟩
      case measure => simp [intOf] <;> omega
    · obtain rfl : k = len := by omega
      have HA6 := Lib.hid (hA.congr (g := wt zs) (fun j hj => by by_cases h : j < k; rw [if_pos h]; rw [if_neg h]; exact HOUT.out j h))
      have hc0 := HA6.out.cell 0 (by omega)
      clear hA hB HA
      rw [h5] at hc0
      have HQ := Lib.hid HA6.out.lt
      obtain ⟨i0, hi, hz0, hz1, hz2⟩ := info_parts Try.infoI'
      generalize hwq : wr = wq at HB HA6 HQ hc0 ⊢
      clear hwq
      go_wp2_with (at_make; refine wpList_make_full _ rfl _ _ 22 rfl wq.heap.size 2 i0 (.int .i64 0) 1 Try.underlying22 hi hz0 hz1 .i64 .i64 _ _ (R + 1) rfl rfl (by first | rfl | omega) (by first | rfl | omega) (by rw [hz2]; omega) (by unfold maxLen; omega) (Nat.le_refl _) ?_; intro w1 hown hgrow; have hb1 : Below wq.heap.size wq w1 := (Below.refl _ wq).grown hgrow (Nat.le_refl _) (fun k h => by cases h); have HW := Lib.hid (Wr.made (K := .i64) hown); have HB1 := Lib.hid (HB.out.trans (hb1.mono HB.out.size)); have HA1 := Lib.hid (HA6.out.below hb1); clear hown hgrow hb1)
      have hp := smD_pos (fun i => wt_ok ha i) h5 R
      have HP := Lib.hid hp
      clear hp hg hS hc0 HA6
      go_loopw [63] (fun i v => ∃ (k : Nat) (F : Nat → Nat), k ≤ R + 1 ∧ i = .int .i64 k ∧ Below w.heap.size w v ∧ A6 v w.heap.size (wt zs) ∧ Wr v .i64 wq.heap.size (R + 1) F ∧ Hid (∀ j, j < k → okJ R C zs j = true ∧ F j = (dsD R C j zs (R + 1) / smD zs (R + 1)).toNat)) (fun i _ => R + 1 - (intOf i).toNat)
      case atStart => exact ⟨0, _, Nat.zero_le _, rfl, HB1.out, HA1.out, HW.out, Lib.hid (fun j hj => by omega)⟩
      case round =>
        obtain ⟨k, F, hk, rfl, hB, hA, hW, HF⟩ := hrel
        clear HB1 HA1 HW
        have HA := Lib.hid hA
        have hpz := HP.out
        by_cases hlt : k < R + 1
        · have HSUM := Lib.hid (fun W => dualSum_zs R C k (by omega) h4 (by omega) zs (fun i => wt_ok ha i) W)
          have hd0 := dsD_at (show C ≤ 5 by omega) h4 (show k ≤ R by omega) (fun i => wt_ok ha i) (R + 1) (by omega)
          have hk1 : okJ R C zs k = decide (0 ≤ dsD R C k zs (R + 1) ∧ dsD R C k zs (R + 1) % smD zs (R + 1) = 0) := rfl
          obtain ⟨D, hD⟩ : ∃ D, dsD R C k zs (R + 1) = D := ⟨_, rfl⟩
          rw [hD] at hd0 hk1 HSUM
          have HDD := Lib.hid hD
          have hd2 : D ≤ 200000000000000000 := by omega
          have HWW := Lib.hid hW
          have HBB := Lib.hid hB
          clear hd0 hD hA hB hW
          go_wp2_with (refine a6_load rfl _ rfl w.heap.size (wt zs) rfl HA.out ?_)
          refine (HSUM.out _).mono ?_
          rintro e w4 ⟨rfl, hb4⟩
          have HB4 := Lib.hid (HBB.out.trans (hb4.mono HBB.out.size))
          have HA4 := Lib.hid (HA.out.below hb4)
          have hW4 := HWW.out.below hb4
          have hcw := hW4.cell k hlt
          have hfw := hW4.free k
          have HW4 := Lib.hid hW4
          clear hb4 hW4
          by_cases hneg : D < 0
          · have HALL := Lib.hid (all_no (p := okJ R C zs) (show k ≤ R by omega) (by rw [hk1]; simp; omega))
            clear hk1 hd2 hcw hfw
            dsimp only
            repeat (first | go_guarded | go_step)
            go_ret2
            exact ⟨_, by rw [if_neg HALL.out]; rfl, HB4.out, by rw [if_neg HALL.out]; exact .nil _ _⟩
          · have hS0 : ¬ smD zs (R + 1) = 0 := by omega
            by_cases hrem : D % smD zs (R + 1) = 0
            · have HOK2 := Lib.hid (show okJ R C zs k = true by rw [hk1]; simp [hrem]; omega)
              have hq := ediv_le (D := D) (S := smD zs (R + 1)) (by omega) hpz
              obtain ⟨E, hE⟩ : ∃ E, (D / smD zs (R + 1)).toNat = E := ⟨_, rfl⟩
              have hEQ : wrap64 (D.tdiv (smD zs (R + 1))) = (E : Int) := by
                rw [Int.tdiv_eq_ediv_of_nonneg (by omega), ← hE]
                generalize D / smD zs (R + 1) = X at hq ⊢
                unfold wrap64
                omega
              have HEE := Lib.hid hE
              clear hk1 hd2 hq hE
              go_wp2_with fail
              go_roundw
              case rel => exact ⟨k + 1, _, by omega, by go_num, below_set HB4.out _ _ (by have := HQ.out; omega) _, HA4.out.other (by have := HQ.out; show w.heap.size ≠ wq.heap.size; omega) _, HW4.out.set k hlt E, Lib.hid (fun j hj => by
                simp only [put]
                by_cases e : j = k
                · subst e; rw [if_pos rfl, HDD.out, HEE.out]; exact ⟨HOK2.out, rfl⟩
                · rw [if_neg e]; exact HF.out j (by omega))⟩
              case measure => simp [intOf] <;> omega
            · have HALL := Lib.hid (all_no (p := okJ R C zs) (show k ≤ R by omega) (by rw [hk1]; simp [hrem]))
              have hr2 : (D % smD zs (R + 1) == 0) = false := by simpa using hrem
              clear hk1 hd2 hcw hfw
              dsimp only
              repeat (first | go_guarded | go_step)
              go_ret2
              exact ⟨_, by rw [if_neg HALL.out]; rfl, HB4.out, by rw [if_neg HALL.out]; exact .nil _ _⟩
        · obtain rfl : k = R + 1 := by omega
          have HALL := Lib.hid (all_yes (p := okJ R C zs) (fun j hj => (HF.out j hj).1))
          have HRES := Lib.hid (show Res wr w.heap.size wr.heap.size (.slice (some ⟨wq.heap.size, 0, none⟩) (R + 1) (R + 1)) (duW R C zs (R + 1)) from by
            have h9 := (hW.mt (by omega)).res (cap := R + 1) (B := w.heap.size) (by have := HQ.out; omega)
            rwa [duW_ints hpz HF.out] at h9)
          have HBB := Lib.hid hB
          clear hB hA hW
          repeat (first | go_guarded | go_step)
          go_ret2
          exact ⟨_, by rw [if_pos HALL.out]; rfl, HBB.out, by rw [if_pos HALL.out]; exact HRES.out⟩
end Go.Proofs.Ytlchelaohiojiab
