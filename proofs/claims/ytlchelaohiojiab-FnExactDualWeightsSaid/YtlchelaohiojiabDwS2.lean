/- DualWeights: the model's main part. -/
import Derived.Test.YtlchelaohiojiabDwS
namespace Go.Proofs.Ytlchelaohiojiab
open Go.RowKit Go.Joins
set_option linter.unusedVariables false

set_option maxRecDepth 100000 in
set_option maxHeartbeats 3200000 in
theorem specDw_F (R C : Nat) (h : 1 ≤ R ∧ R ≤ 5) (h2 : 1 ≤ C ∧ C ≤ 5) (b len cap : Nat) (h3 : len = R + 1) (zs : List Int) (w : World) (hM : Mt w b len zs) (ha : zs.all okW = true) (h4 : R ≤ C) (h5 : wt zs 0 = 1) :
    Calls Try.prog 4 #[.int .i64 R, .int .i64 C, .slice (some ⟨b, 0, none⟩) len cap] w fun e w' => ∃ v, e = .returned (.tuple #[v, .int .i64 (if (List.range (R + 1)).all (okJ R C zs) = true then 0 else 4)]) ∧ Below w.heap.size w w' ∧ Res w' w.heap.size w'.heap.size v (if (List.range (R + 1)).all (okJ R C zs) = true then duW R C zs (R + 1) else []) := by
  have hg := wt_ok ha
  have hS := fun k => smD_at hg k
  have HM := Lib.hid hM
  have hc0 : w.cell? ⟨b, 0, none⟩ = some (.int .i64 (wt zs 0)) := hM.cell 0 (by omega)
  clear hM
  rw [h5] at hc0
  obtain ⟨i0, hi, hz0, hz1, hz2⟩ := info_parts Try.infoI'
  go_enter Try.func4, Try.ntmps4
  go_wp2_with (go_at_call 10; first | (with_reducible refine (l00In_yes C 1 5 (by omega) (by omega) _).mono ?_; rintro e w' ⟨rfl, rfl⟩) | (with_reducible refine (l00In_yes R 1 5 (by omega) (by omega) _).mono ?_; rintro e w' ⟨rfl, rfl⟩))
  go_loop [8, 9, 10] (fun o s i => ∃ k : Nat, k ≤ len ∧ i = .int .i64 k ∧ s = .int .i64 (smD zs k) ∧ o = .bool true) (fun _ _ i => len - (intOf i).toNat)
  case atStart => exact ⟨0, Nat.zero_le _, rfl, rfl, congrArg Value.bool (by simp)⟩
  case round =>
    obtain ⟨k, hk, rfl, rfl, rfl⟩ := hrel
    by_cases hlt : k < len
    · have hc : w.cell? ⟨b, k, none⟩ = some (.int .i64 (wt zs k)) := HM.out.cell k hlt
      have hgk := hg k
      have hsk := hS k
      have HE := Lib.hid (show smD zs (k + 1) = smD zs k + wt zs k from rfl)
      generalize smD zs k = x at hsk HE ⊢
      generalize wt zs k = y at hc hgk HE
      clear hg hS
      go_wp2_with (go_at_call 10; refine (l00In_yes y 0 33554432 (by omega) (by omega) _).mono ?_; rintro e w' ⟨rfl, rfl⟩)
      go_round
      case rel => exact ⟨k + 1, by omega, by go_num, by rw [HE.out], rfl⟩
      case measure => simp [intOf] <;> omega
    · obtain rfl : k = len := by omega
      have hO0 : (w.alloc (.cells #[] 2)).ownsRow w.heap.size 2 1 (.slice (some ⟨w.heap.size, 0, none⟩) 0 0) 0 ((duW R C zs 0).map (Value.int .i64)) := World.ownsRow_made w #[] 0 (by omega) (by unfold maxLen; omega) (by simp)
      have HO := Lib.hid hO0
      have HB := Lib.hid (below_alloc1 w (.cells #[] 2))
      clear hO0
      go_wp2_with fail
      go_loopw [11, 12] (fun v j wr => ∃ (k cp : Nat) (A : Option Addr), k ≤ R + 1 ∧ j = .int .i64 k ∧ v = .slice A k cp ∧ Below w.heap.size w wr ∧ wr.ownsRow w.heap.size 2 1 (.slice A k cp) k ((duW R C zs k).map (Value.int .i64)) ∧ ∀ i, i < k → okJ R C zs i = true) (fun _ j _ => R + 1 - (intOf j).toNat)
      case atStart => exact ⟨0, 0, _, Nat.zero_le _, rfl, rfl, HB.out, HO.out, fun i hi => by omega⟩
      case round =>
        obtain ⟨k, cp, A, hk, rfl, rfl, hB, hO, hok⟩ := hrel
        clear HO HB
        have HB := Lib.hid hB
        have HO := Lib.hid hO
        have HOK := Lib.hid hok
        have hMr := HM.out.below hB
        have HMR := Lib.hid hMr
        clear hB hO hok hMr
        by_cases hlt : k < R + 1
        · go_wp2_with fail
          go_loopw [13, 14] (fun s i v => ∃ t q : Nat, t ≤ R + 1 ∧ i = .int .i64 t ∧ s = .int .i64 (dsD R C k zs t) ∧ v = wr.drewN q) (fun _ i _ => R + 1 - (intOf i).toNat)
          case atStart => exact ⟨0, 0, Nat.zero_le _, rfl, rfl, rfl⟩
          case round =>
            obtain ⟨t, q, ht, rfl, rfl, rfl⟩ := hrel
            by_cases hlt2 : t < R + 1
            · have hc : (wr.drewN q).cell? ⟨b, t, none⟩ = some (.int .i64 (wt zs t)) := HMR.out.cell t (by omega)
              have hc' : wr.cell? ⟨b, t, none⟩ = some (.int .i64 (wt zs t)) := hc
              have ht1 : (t : Int) < (R : Int) + 1 := by omega
              have ht2 : t ≤ R := by omega
              have ht3 : (t : Int) ≤ (R : Int) := by omega
              have hyt := wt_ok ha t
              have hT := tD_at (l := toD R k t) (show C ≤ 5 by omega) h4 (show k ≤ R by omega) (show t ≤ R by omega) (Nat.le_refl _)
              have hmt := mul_two hyt.1 hyt.2 hT (by omega)
              have hd0 := dsD_at (show C ≤ 5 by omega) h4 (show k ≤ R by omega) (fun i => wt_ok ha i) t (by omega)
              have HT := Lib.hid (fun w => l04Term_any R C t k (by omega) h4 (by omega) (by omega) w)
              have HE := Lib.hid (show dsD R C k zs (t + 1) = dsD R C k zs t + wt zs t * tD R C k t (toD R k t) from rfl)
              generalize tD R C k t (toD R k t) = T at hT hmt HT HE
              generalize wt zs t = y at hc hc' hyt hmt HE
              generalize dsD R C k zs t = D at hd0 HE ⊢
              clear hg hS
              go_wp2_with fail
              go_quiet ((go_at_call 11; exact (HT.out _).mono fun _ _ h => ⟨h.1, _, h.2.symm⟩))
              go_wp2_with fail
              go_roundw
              case rel => exact ⟨t + 1, q + _, by omega, by go_num, by rw [HE.out], rfl⟩
              case measure => simp [intOf] <;> omega
            · obtain rfl : t = R + 1 := by omega
              have hd0 := dsD_at (show C ≤ 5 by omega) h4 (show k ≤ R by omega) (fun i => wt_ok ha i) (R + 1) (by omega)
              have hs0 := smD_at (fun i => wt_ok ha i) (R + 1)
              have hk1 : okJ R C zs k = decide (0 ≤ dsD R C k zs (R + 1) ∧ dsD R C k zs (R + 1) % smD zs (R + 1) = 0) := rfl
              have hk2 := duW_succ R C zs k
              have hp := smD_pos (fun i => wt_ok ha i) h5 R
              obtain ⟨D, hD⟩ : ∃ D, dsD R C k zs (R + 1) = D := ⟨_, rfl⟩
              rw [hD] at hd0 hk1 hk2 ⊢
              have HK2 := Lib.hid hk2
              have HO2 := Lib.hid (show (wr.drewN q).ownsRow w.heap.size 2 1 (.slice A k cp) k ((duW R C zs k).map (Value.int .i64)) from HO.out)
              have HB2 := Lib.hid (below_drewN HB.out q)
              have hzs : w.heap.size ≤ (wr.drewN q).heap.size := HB.out.size
              have hd1 : -200000000000000000 ≤ D := by omega
              have hd2 : D ≤ 200000000000000000 := by omega
              have hs1 : smD zs (R + 1) ≤ 400000000 := by omega
              clear hg hS hk2 hD hd0 hs0
              by_cases hneg : D < 0
              · have HALL := Lib.hid (all_no (p := okJ R C zs) (show k ≤ R by omega) (by rw [hk1]; simp; omega))
                clear hk1 hd1 hd2 hs1 hp ha h5
                repeat (first | go_guarded | go_step)
                go_ret2
                exact ⟨_, by rw [if_neg HALL.out]; rfl, HB2.out.alloc hzs _, by rw [if_neg HALL.out]; exact .nil _ _⟩
              · have hS0 : ¬ smD zs (R + 1) = 0 := by omega
                by_cases hrem : D % smD zs (R + 1) = 0
                · have HOK2 := Lib.hid (show okJ R C zs k = true by rw [hk1]; simp [hrem]; omega)
                  have hq := ediv_le (D := D) (S := smD zs (R + 1)) (by omega) hp
                  have hq1 : D / smD zs (R + 1) ≤ 200000000000000000 := by omega
                  obtain ⟨hq0, -⟩ := hq
                  have HEQ := Lib.hid (show D / smD zs (R + 1) = wrap64 (D.tdiv (smD zs (R + 1))) by rw [Int.tdiv_eq_ediv_of_nonneg (by omega)]; generalize D / smD zs (R + 1) = E at hq0 hq1 ⊢; unfold wrap64; omega)
                  clear hk1 hd1 hd2 hs1 ha h5
                  generalize wr.drewN q = wq at HO2 HB2 hzs ⊢
                  go_wp2_with (at_builtin; refine wpList_append_own _ rfl _ _ 22 rfl w.heap.size 2 i0 (.int .i64 0) 1 8 Try.underlying22 hi hz0 hz1 hz2 rfl (by decide) _ _ _ rfl (HO2.out.alloc _) ⟨wq.heap.size, 0, none⟩ 1 1 [.int .i64 (wrap64 (D.tdiv (smD zs (R + 1))))] rfl rfl (one_new _ _ _) (one_one _ _) (by unfold maxLen; omega) (by omega) (by simp; omega) ?_; intro v' w4 hown' hgrow _; have hb4 : Below w.heap.size wq w4 := ((Below.refl _ wq).alloc (by omega) _).grown hgrow (by simp; omega) (fun g hg => (HO2.out.lt g hg).1); have HB4 := Lib.hid (HB2.out.trans hb4); have HO4 := Lib.hid (show w4.ownsRow w.heap.size 2 1 v' (k + 1) ((duW R C zs (k + 1)).map (Value.int .i64)) by rw [HK2.out, List.map_append, HEQ.out]; exact hown'); obtain ⟨g4, cp4, rfl⟩ : ∃ g cp, v' = .slice (some ⟨g, 0, none⟩) (k + 1) cp := (ownsRow_forms HO4.out).resolve_left (fun h => by have := h.2; omega); clear hown' hgrow hb4)
                  go_roundw
                  case rel => exact ⟨k + 1, cp4, _, by omega, by go_num, rfl, HB4.out, HO4.out, fun i hi => by rcases Nat.lt_or_eq_of_le (Nat.le_of_lt_succ hi) with h | h; exact HOK.out i h; rw [h]; exact HOK2.out⟩
                  case measure => simp [intOf] <;> omega
                · have HALL := Lib.hid (all_no (p := okJ R C zs) (show k ≤ R by omega) (by rw [hk1]; simp [hrem]))
                  have hr2 : (D % smD zs (R + 1) == 0) = false := by simpa using hrem
                  clear hk1 hd1 hd2 hs1 ha h5
                  repeat (first | go_guarded | go_step)
                  go_ret2
                  exact ⟨_, by rw [if_neg HALL.out]; rfl, HB2.out.alloc hzs _, by rw [if_neg HALL.out]; exact .nil _ _⟩
        · obtain rfl : k = R + 1 := by omega
          have HALL := Lib.hid (all_yes (p := okJ R C zs) HOK.out)
          repeat (first | go_guarded | go_step)
          go_ret2
          exact ⟨_, by rw [if_pos HALL.out]; rfl, HB.out, by rw [if_pos HALL.out]; exact own_res HO.out (by omega) (Nat.le_refl _)⟩
end Go.Proofs.Ytlchelaohiojiab
