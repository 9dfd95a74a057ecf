/- Rows and columns exchanged: the model's. -/
import Derived.Test.YtfhalaohegdbhaaOut
import Derived.Test.YtfhalaohegdbhaaSp1
import Derived.Test.YtfhalaohegdbhaaTurned
namespace Go.Proofs.Ytfhalaohegdbhaa
open Go.RowKit Go.Joins
set_option linter.unusedVariables false

theorem own_mt {W : World} {B k : Nat} {v : Value} {xs : List Int} (h : W.ownsRow B 2 1 v k (xs.map (Value.int .i64))) (h0 : 0 < k) (hk : k ≤ 1048576) : ∃ g cp, v = .slice (some ⟨g, 0, none⟩) k cp ∧ B ≤ g ∧ Mt W g k xs := by
  have hl : xs.length = k := by have := h.1; simpa using this
  rcases ownsRow_forms h with ⟨rfl, h1⟩ | ⟨g, cap, rfl⟩
  · omega
  · have hg := h.lt g rfl
    refine ⟨g, cap, rfl, hg.1, hl, hk, hg.2, fun j hj => ?_, fun j => h.frozenAt j⟩
    rw [h.cellAt j (by omega), List.getElem?_map, List.getElem?_eq_getElem (by omega)]
    simp
set_option maxHeartbeats 1600000 in
theorem l02Turn_any (q C b cap : Nat) (L : List Nat) (hO : OkM C L) (w : World) (hS : Sp1 w q C b L.length cap (ints L)) :
    Calls Try.prog 23 #[.pointer (some ⟨q, 0, none⟩)] w fun e w' => ∃ v, e = .returned (.agg #[.int .i64 L.length, v]) ∧ Below w.heap.size w w' ∧ Res w' w.heap.size w'.heap.size v (ints (turnL L C)) ∧ (0 < C → ∃ g cp, v = .slice (some ⟨g, 0, none⟩) C cp ∧ Mt w' g C (ints (turnL L C))) := by
  obtain ⟨i0, hi, hz0, hz1, hz2⟩ := info_parts Try.infoI
  have c0 := hS.m.c0
  have c1 := hS.m.c1
  have hlt := hS.m.lt
  have hbl := hS.r.lt
  have hn10 := hO.n10
  have hc10 := hO.c10
  have hb0 := below_alloc2 w (.cells #[.int .i64 0, .slice none 0 0] 26) (.cells #[.int .i64 L.length, .slice none 0 0] 26)
  have hS0 := hS.below hb0
  have hX := Box.two w (.cells #[.int .i64 0, .slice none 0 0] 26) (.int .i64 L.length) (.slice none 0 0) 26
  have hOB : OB ((w.alloc (.cells #[.int .i64 0, .slice none 0 0] 26)).alloc (.cells #[.int .i64 L.length, .slice none 0 0] 26)) w.heap.size (w.heap.size + 1) (w.heap.size + 2) L.length 0 (.slice none 0 0) [] :=
    ⟨by omega, by omega, by omega, hX.c0, hX.c1, by simp [World.frozen?_alloc_at], (MRoom.start w _ _ _).below (below_alloc1 _ _), World.ownsRow_nil _ _ _ _, by simp⟩
  have HOB := Lib.hid hOB
  have HS0 := Lib.hid hS0
  have HB0 := Lib.hid hb0
  clear hOB hS0 hb0 hX
  go_enter Try.func23, Try.ntmps23
  go_wp2_with fail
  go_loopw [4] (fun i wr => ∃ (k : Nat) (v : Value), k ≤ C ∧ i = .int .i64 k ∧ Sp1 wr q C b L.length cap (ints L) ∧ OB wr w.heap.size (w.heap.size + 1) (w.heap.size + 2) L.length k v (ints (turnL L k)) ∧ Below w.heap.size w wr) (fun i _ => C - (intOf i).toNat)
  case atStart => exact ⟨0, _, Nat.zero_le _, rfl, HS0.out, HOB.out, HB0.out⟩
  case round =>
    obtain ⟨k, v, hk, rfl, hSr, hOr, hBr⟩ := hrel
    clear HOB HS0 HB0 c0 c1 hS
    have c0 := hSr.m.c0
    have c1 := hSr.m.c1
    by_cases hkC : k < C
    · have HOr := Lib.hid hOr
      have HBr := Lib.hid hBr
      clear hOr hBr
      go_wp2_with fail
      go_loop [5, 6] (fun r i => ∃ j : Nat, j ≤ L.length ∧ i = .int .i64 j ∧ r = .int .i64 (colm L k j : Nat)) (fun _ i => L.length - (intOf i).toNat)
      case atStart => exact ⟨0, Nat.zero_le _, rfl, rfl⟩
      case round =>
        obtain ⟨j, hj, rfl, rfl⟩ := hrel
        by_cases hlj : j < L.length
        · have hrow := hSr.r.cell j hlj
          rw [ints_get] at hrow
          have hx := hO.get' j
          have hcs : colm L k (j + 1) = if (nth L j).testBit k then colm L k j ^^^ 2 ^ j else colm L k j := rfl
          have hcl2 := colm_lt L k j
          have hcl := Nat.lt_of_lt_of_le hcl2 (Nat.pow_le_pow_right (n := 2) (by omega) (show j ≤ 10 by omega))
          have hor := or_pow hcl2
          have hp10 : 2 ^ j ≤ 1024 := pow_le10 (by omega)
          clear hcl2
          generalize colm L k j = s at hcs hcl hor ⊢
          generalize nth L j = x at hrow hx hcs
          by_cases hb : x.testBit k = true
          · rw [if_pos hb] at hcs
            have HB := Lib.hid (bitN_one hb)
            have HCS := Lib.hid hcs
            have HOR := Lib.hid hor
            have HP := Lib.hid hp10
            clear hb hcs hor hp10
            go_wp2_with (go_at_call 35; refine (l02Bit_any x k (by omega) (by omega) _).mono ?_; rw [HB.out]; rintro e w1 ⟨rfl, rfl⟩)
            go_round
            case rel => exact ⟨j + 1, by omega, by go_num, by rw [i64_or_pow s j (by omega) (by omega), HOR.out, HCS.out]⟩
            case measure => simp [intOf]; omega
          · rw [if_neg hb] at hcs
            have HB := Lib.hid (bitN_zero hb)
            have HCS := Lib.hid hcs
            clear hb hcs hor hp10
            go_wp2_with (go_at_call 35; refine (l02Bit_any x k (by omega) (by omega) _).mono ?_; rw [HB.out]; rintro e w1 ⟨rfl, rfl⟩)
            go_round
            case rel => exact ⟨j + 1, by omega, by go_num, by rw [i64_or_zero s (by omega), HCS.out]⟩
            case measure => simp [intOf]; omega
        · obtain rfl : j = L.length := by omega
          have hts := turnL_succ L k
          generalize colm L k L.length = s at hts ⊢
          have HTS := Lib.hid hts
          clear hts
          have a1 := HOr.out.a1
          have f1 := HOr.out.f1
          go_wp2_with (at_builtin; refine wpList_append_own _ rfl _ _ 22 rfl (w.heap.size + 2) 2 i0 (.int .i64 0) 1 8 Try.underlying22 hi hz0 hz1 hz2 rfl (by decide) _ _ _ rfl (HOr.out.own.alloc _) ⟨wr.heap.size, 0, none⟩ 1 1 [.int .i64 s] rfl rfl (one_new _ _ _) (one_one _ _) (by unfold maxLen; omega) (by omega) (by have := HOr.out.z; simp; omega) ?_; intro v' w2 hown' hgrow _; obtain ⟨⟨g, cp, rfl⟩, hb2⟩ := HOr.out.grown hown' hgrow; obtain ⟨hN, hK⟩ := HOr.out.step hb2 hown'; have d1 := (hb2.cell (p := ⟨w.heap.size + 1, 1, none⟩) (by simp)).trans a1; have d2 := (hb2.frozen (p := ⟨w.heap.size + 1, 1, none⟩) (by simp)).trans f1; have HN := Lib.hid hN; have HK := Lib.hid hK; clear hown' hgrow hb2 hN hK a1 f1)
          go_roundw
          case rel => exact ⟨k + 1, _, by omega, by go_num, ⟨hSr.m.at (HK.out.heap q (by omega) (by omega)) HK.out.size, hSr.r.at (HK.out.heap b (by omega) (by omega)) HK.out.size⟩, by rw [HTS.out, ints, List.map_append]; exact HN.out, HBr.out.trans (HK.out.below _ (by omega) (by omega))⟩
          case measure => simp [intOf]; omega
    · obtain rfl : k = C := by omega
      obtain ⟨ao, m, cp, rfl⟩ := hOr.form
      have a0 := hOr.a0; have a1 := hOr.a1
      obtain ⟨x, y, h0, h1⟩ := hOr.room.ex
      have f0 := hOr.room.f0; have f1 := hOr.room.f1
      have HOr := Lib.hid hOr
      have HBr := Lib.hid hBr
      clear hOr hBr
      go_wp2_with fail
      refine bodyPost_ret (v := .agg #[.int .i64 L.length, .slice ao m cp]) (mat_result (p := 2) (fn := Try.f23) rfl _ rfl (two_setCell _ _ _ _ h0 h1).1 (two_setCell _ _ _ _ h0 h1).2) rfl ⟨_, rfl, ?_, HOr.out.res (by omega) (by omega) _ _, fun h0 => ?_⟩
      · exact (only2 _ _ _ _).below HBr.out (Nat.le_refl _)
      · obtain ⟨g, cp', e, hBg, hM⟩ := own_mt HOr.out.own h0 (by omega)
        have hr := HOr.out.rB
        exact ⟨g, cp', e, hM.only (only2 _ _ _ _) (by omega)⟩
end Go.Proofs.Ytfhalaohegdbhaa
