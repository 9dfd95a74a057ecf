/- TurnMatrix: the program and the model. -/
import Derived.Test.YtkiighfmaoaejaaTurned
import Derived.Test.YtkiighfmaoaejaaOut
namespace Go.Proofs.Ytkiighfmaoaejaa
open Go.RowKit Go.Joins
set_option linter.unusedVariables false

/-- What a function of one matrix returns: if it is not valid, ErrInvalid. -/
def mk1 (c : Int) (zs : List Int) (f : Nat → List Nat → Int × List Int × Int) : Int × List Int × Int := if okM c zs = true then f c.toNat (zs.map Int.toNat) else (0, [], 1)
theorem nats_ints (L : List Nat) : (ints L).map Int.toNat = L := by
  induction L with
  | nil => rfl
  | cons r L ih => simp only [ints, List.map_cons] at ih ⊢; rw [ih]; simp
theorem mk1_yes {C : Nat} {L : List Nat} (hO : OkM C L) (f : Nat → List Nat → Int × List Int × Int) : mk1 C (ints L) f = f C L := by
  rw [mk1, if_pos (okM_ints hO), nats_ints]; rfl
theorem mk1_no {c : Int} {zs : List Int} (h : okM c zs = false) (f : Nat → List Nat → Int × List Int × Int) : mk1 c zs f = (0, [], 1) := by
  rw [mk1, if_neg (by rw [h]; simp)]
def fTurnMatrix (c : Int) (zs : List Int) : Int × List Int × Int := mk1 c zs fun C L => if L.length = 0 then (0, [], 2) else (L.length, ints (turnL L C), 0)

set_option maxHeartbeats 1600000 in
theorem implTurnMatrix_any (c : Int) (b n cap : Nat) (xs : List Int) (w : World) (hM : Mt w b n xs) :
    Calls Try.prog 23 #[.agg #[.int .i64 c, .slice (some ⟨b, 0, none⟩) n cap]] w fun e w' => ∃ v, e = .returned (.tuple #[.agg #[.int .i64 (fTurnMatrix c xs).1, v], .int .i64 (fTurnMatrix c xs).2.2]) ∧ Below w.heap.size w w' ∧ Res w' w.heap.size w'.heap.size v (fTurnMatrix c xs).2.1 := by
  unfold fTurnMatrix
  cases hk : okM c xs with
  | false =>
    rw [mk1_no hk]
    have hR : MRoom ((w.alloc (.cells #[.int .i64 c, .slice (some ⟨b, 0, none⟩) n cap] 27)).alloc (.cells #[.int .i64 0, .slice none 0 0] 27)) (w.heap.size + 1) := by simpa using MRoom.start (w.alloc (.cells #[.int .i64 c, .slice (some ⟨b, 0, none⟩) n cap] 27)) (.int .i64 0) (.slice none 0 0) 27
    have hb0 := below_alloc2 w (.cells #[.int .i64 c, .slice (some ⟨b, 0, none⟩) n cap] 27) (.cells #[.int .i64 0, .slice none 0 0] 27)
    go_enter Try.func23, Try.ntmps23
    go_wp2_with fail
    refine (gridFor_no c b n cap xs _ (hM.below (below_alloc2 _ _ _)) hk).mono ?_
    rintro e w1 ⟨rfl, hb⟩
    have hR1 := hR.below hb
    have hb1 := hb0.trans (hb.mono hb0.size)
    have hlt1 := hR1.lt
    clear hb hR hb0
    obtain ⟨w2, hst, hG2, hb⟩ := grid_put w1 [] 0 (by simp) (by intro j; simp [nth])
    have hR2 := hR1.below hb
    have hb2 := hb1.trans (hb.mono hb1.size)
    clear hb hb1
    obtain ⟨x, y, h0, h1⟩ := hR2.ex
    have f0 := hR2.f0
    have f1 := hR2.f1
    go_wp2_with fail
    refine bodyPost_ret (v := .tuple #[.agg #[.int .i64 0, .slice none 0 0], .int .i64 1]) (mat_results (p := 2) (u := 3) (fn := Try.f23) rfl _ rfl (two_setCell _ _ _ _ h0 h1).1 (two_setCell _ _ _ _ h0 h1).2) rfl ⟨_, rfl, ?_, .nil none 0⟩
    exact (only2 _ _ _ _).below hb2 (by simp)
  | true =>
    obtain ⟨C, L, rfl, rfl, hO⟩ := okM_nat hk
    rw [mk1_yes hO]
    have hn10 := hO.n10
    by_cases hL : L.length = 0
    · simp only [hL, if_true]
      have hR : MRoom ((w.alloc (.cells #[.int .i64 C, .slice (some ⟨b, 0, none⟩) n cap] 27)).alloc (.cells #[.int .i64 0, .slice none 0 0] 27)) (w.heap.size + 1) := by simpa using MRoom.start (w.alloc (.cells #[.int .i64 C, .slice (some ⟨b, 0, none⟩) n cap] 27)) (.int .i64 0) (.slice none 0 0) 27
      have hb0 := below_alloc2 w (.cells #[.int .i64 C, .slice (some ⟨b, 0, none⟩) n cap] 27) (.cells #[.int .i64 0, .slice none 0 0] 27)
      go_enter Try.func23, Try.ntmps23
      go_wp2_with fail
      refine (gridFor_yes C L hO b n cap _ (hM.below (below_alloc2 _ _ _))).mono ?_
      rintro e w1 ⟨rfl, hb⟩
      have hR1 := hR.below hb
      have hb1 := hb0.trans (hb.mono hb0.size)
      have hlt1 := hR1.lt
      clear hb hR hb0
      obtain ⟨w2, hst, hG2, hb⟩ := grid_put w1 L C hO.n10 (fun j => Nat.lt_trans (hO.get' j) (by omega))
      have hR2 := hR1.below hb
      have hb2 := hb1.trans (hb.mono hb1.size)
      clear hb hb1
      obtain ⟨x, y, h0, h1⟩ := hR2.ex
      have f0 := hR2.f0
      have f1 := hR2.f1
      obtain ⟨g0, g1, g2, g3, g4, g5, g6, g7, g8, g9, g10, g11⟩ := hG2.facts
      rw [hL] at g0
      go_wp2_with fail
      refine bodyPost_ret (v := .tuple #[.agg #[.int .i64 0, .slice none 0 0], .int .i64 2]) (mat_results (p := 2) (u := 3) (fn := Try.f23) rfl _ rfl (two_setCell _ _ _ _ h0 h1).1 (two_setCell _ _ _ _ h0 h1).2) rfl ⟨_, rfl, ?_, .nil none 0⟩
      exact (only2 _ _ _ _).below hb2 (by simp)
    · simp only [hL, if_false]
      have hL' : ¬ (L.length : Int) = 0 := by omega
      have hR : MRoom ((w.alloc (.cells #[.int .i64 C, .slice (some ⟨b, 0, none⟩) n cap] 27)).alloc (.cells #[.int .i64 0, .slice none 0 0] 27)) (w.heap.size + 1) := by simpa using MRoom.start (w.alloc (.cells #[.int .i64 C, .slice (some ⟨b, 0, none⟩) n cap] 27)) (.int .i64 0) (.slice none 0 0) 27
      have hb0 := below_alloc2 w (.cells #[.int .i64 C, .slice (some ⟨b, 0, none⟩) n cap] 27) (.cells #[.int .i64 0, .slice none 0 0] 27)
      go_enter Try.func23, Try.ntmps23
      go_wp2_with fail
      refine (gridFor_yes C L hO b n cap _ (hM.below (below_alloc2 _ _ _))).mono ?_
      rintro e w1 ⟨rfl, hb⟩
      have hR1 := hR.below hb
      have hb1 := hb0.trans (hb.mono hb0.size)
      have hlt1 := hR1.lt
      clear hb hR hb0
      obtain ⟨w2, hst, hG2, hb⟩ := grid_put w1 L C hO.n10 (fun j => Nat.lt_trans (hO.get' j) (by omega))
      have hR2 := hR1.below hb
      have hb2 := hb1.trans (hb.mono hb1.size)
      clear hb hb1
      obtain ⟨g0, g1, g2, g3, g4, g5, g6, g7, g8, g9, g10, g11⟩ := hG2.facts
      go_wp2_with fail
      refine (turned_any C L hO _).mono ?_
      rintro e w3 ⟨rfl, hb⟩
      have hR3 := hR2.below hb
      have hb3 := hb2.trans (hb.mono hb2.size)
      clear hb hR2 hb2
      go_wp2_with fail
      refine (matrix_any (turnL L C) L.length (by rw [turnL_len]; exact hO.c10) (nth_lt (by omega) (fun r hr => Nat.lt_trans (turnL_lt hO.n10 C r hr) (by omega))) _).mono ?_
      rintro e w4 ⟨v, rfl, hb, hV⟩
      have hR4 := hR3.below hb
      have hb4 := hb3.trans (hb.mono hb3.size)
      have hs4 := hb3.size
      have hq4 : w.heap.size + 1 < w3.heap.size := hR3.lt
      clear hb hR3 hb3
      obtain ⟨x, y, h0, h1⟩ := hR4.ex
      have f0 := hR4.f0
      have f1 := hR4.f1
      obtain ⟨ao, m, cap', rfl⟩ := hV.form
      have HV := Lib.hid hV
      clear hV
      go_wp2_with fail
      refine bodyPost_ret (v := .tuple #[.agg #[.int .i64 L.length, _], .int .i64 0]) (mat_results (p := 2) (u := 3) (fn := Try.f23) rfl _ rfl (two_setCell _ _ _ _ h0 h1).1 (two_setCell _ _ _ _ h0 h1).2) rfl ⟨_, rfl, ?_, HV.out.fin (q := w.heap.size + 1) (by omega) (by omega) _ _⟩
      exact (only2 _ _ _ _).below hb4 (by simp)

/-- In the world W the model's matrix: its columns and its rows. -/
structure Sp1 (W : World) (q : Nat) (c : Int) (b n cap : Nat) (xs : List Int) : Prop where
  m : MAt W q c b n cap
  r : Mt W b n xs
theorem Sp1.below {W W' : World} {q : Nat} {c : Int} {b n cap : Nat} {xs : List Int} (h : Sp1 W q c b n cap xs) (hb : Below W.heap.size W W') : Sp1 W' q c b n cap xs := ⟨h.m.next hb, h.r.below hb⟩

/-- A bit as a number. -/
def bitN (r k : Nat) : Nat := r / 2 ^ k % 2
theorem bitN_one {r k : Nat} (h : r.testBit k = true) : bitN r k = 1 := by rw [Nat.testBit_eq_decide_div_mod_eq] at h; simpa [bitN] using h
theorem bitN_zero {r k : Nat} (h : ¬ r.testBit k = true) : bitN r k = 0 := by rw [Nat.testBit_eq_decide_div_mod_eq] at h; simp at h; unfold bitN; omega
set_option maxHeartbeats 400000 in
theorem l02Bit_any (r k : Nat) (hr : r < 4294967296) (hk : k < 32) (w : World) :
    Calls Try.prog 50 #[.int .i64 r, .int .i64 k] w fun e w' => e = .returned (.int .i64 (bitN r k : Nat)) ∧ w = w' := by
  go_enter Try.func50, Try.ntmps50
  go_wp2
  go_ret
  exact ⟨ret_int (bit_any r k (by omega)), rfl⟩

set_option maxHeartbeats 1600000 in
theorem l02Turn_any (q C b cap : Nat) (L : List Nat) (hO : OkM C L) (w : World) (hS : Sp1 w q C b L.length cap (ints L)) :
    Calls Try.prog 41 #[.pointer (some ⟨q, 0, none⟩)] w fun e w' => ∃ v, e = .returned (.agg #[.int .i64 L.length, v]) ∧ Below w.heap.size w w' ∧ Res w' w.heap.size w'.heap.size v (ints (turnL L C)) := by
  obtain ⟨i0, hi, hz0, hz1, hz2⟩ := info_parts Try.infoI
  have c0 := hS.m.c0
  have c1 := hS.m.c1
  have hlt := hS.m.lt
  have hbl := hS.r.lt
  have hn10 := hO.n10
  have hc10 := hO.c10
  have hb0 := below_alloc2 w (.cells #[.int .i64 0, .slice none 0 0] 27) (.cells #[.int .i64 L.length, .slice none 0 0] 27)
  have hS0 := hS.below hb0
  have hX := Box.two w (.cells #[.int .i64 0, .slice none 0 0] 27) (.int .i64 L.length) (.slice none 0 0) 27
  have hOB : OB ((w.alloc (.cells #[.int .i64 0, .slice none 0 0] 27)).alloc (.cells #[.int .i64 L.length, .slice none 0 0] 27)) w.heap.size (w.heap.size + 1) (w.heap.size + 2) L.length 0 (.slice none 0 0) [] :=
    ⟨by omega, by omega, by omega, hX.c0, hX.c1, by simp [World.frozen?_alloc_at], (MRoom.start w _ _ _).below (below_alloc1 _ _), World.ownsRow_nil _ _ _ _, by simp⟩
  have HOB := Lib.hid hOB
  have HS0 := Lib.hid hS0
  have HB0 := Lib.hid hb0
  clear hOB hS0 hb0 hX
  go_enter Try.func41, Try.ntmps41
  go_wp2_with fail
  go_loopw [4] (fun i wr => ∃ (k : Nat) (v : Value), k ≤ C ∧ i = .int .i64 k ∧ Sp1 wr q C b L.length cap (ints L) ∧ OB wr w.heap.size (w.heap.size + 1) (w.heap.size + 2) L.length k v (ints (turnL L k)) ∧ Below w.heap.size w wr) (fun i _ => C - (intOf i).toNat)
  case atStart => exact ⟨0, _, Nat.zero_le _, rfl, HS0.out, HOB.out, HB0.out⟩
  case round =>
    obtain ⟨k, v, hk, rfl, hSr, hOr, hBr⟩ := hrel
    clear HOB HS0 HB0 c0 c1 hS
    have c0 := hSr.m.c0
    have c1 := hSr.m.c1
    by_cases hkC : k < C
    · have HOr := Lib.hid hOr
      have HBr := Lib.hid hBr
      clear hOr hBr
      go_wp2_with fail
      go_loop [5, 6] (fun r i => ∃ j : Nat, j ≤ L.length ∧ i = .int .i64 j ∧ r = .int .i64 (colm L k j : Nat)) (fun _ i => L.length - (intOf i).toNat)
      case atStart => exact ⟨0, Nat.zero_le _, rfl, rfl⟩
      case round =>
        obtain ⟨j, hj, rfl, rfl⟩ := hrel
        by_cases hlj : j < L.length
        · have hrow := hSr.r.cell j hlj
          rw [ints_get] at hrow
          have hx := hO.get' j
          have hcs : colm L k (j + 1) = if (nth L j).testBit k then colm L k j ^^^ 2 ^ j else colm L k j := rfl
          have hcl2 := colm_lt L k j
          have hcl := Nat.lt_of_lt_of_le hcl2 (Nat.pow_le_pow_right (n := 2) (by omega) (show j ≤ 10 by omega))
          have hor := or_pow hcl2
          have hp10 : 2 ^ j ≤ 1024 := pow_le10 (by omega)
          clear hcl2
          generalize colm L k j = s at hcs hcl hor ⊢
          generalize nth L j = x at hrow hx hcs
          by_cases hb : x.testBit k = true
          · rw [if_pos hb] at hcs
            have HB := Lib.hid (bitN_one hb)
            have HCS := Lib.hid hcs
            have HOR := Lib.hid hor
            have HP := Lib.hid hp10
            clear hb hcs hor hp10
            go_wp2_with (go_at_call 50; refine (l02Bit_any x k (by omega) (by omega) _).mono ?_; rw [HB.out]; rintro e w1 ⟨rfl, rfl⟩)
            go_round
            case rel => exact ⟨j + 1, by omega, by go_num, by rw [i64_or_pow s j (by omega) (by omega), HOR.out, HCS.out]⟩
            case measure => simp [intOf]; omega
          · rw [if_neg hb] at hcs
            have HB := Lib.hid (bitN_zero hb)
            have HCS := Lib.hid hcs
            clear hb hcs hor hp10
            go_wp2_with (go_at_call 50; refine (l02Bit_any x k (by omega) (by omega) _).mono ?_; rw [HB.out]; rintro e w1 ⟨rfl, rfl⟩)
            go_round
            case rel => exact ⟨j + 1, by omega, by go_num, by rw [i64_or_zero s (by omega), HCS.out]⟩
            case measure => simp [intOf]; omega
        · obtain rfl : j = L.length := by omega
          have hts := turnL_succ L k
          generalize colm L k L.length = s at hts ⊢
          have HTS := Lib.hid hts
          clear hts
          have a1 := HOr.out.a1
          have f1 := HOr.out.f1
          go_wp2_with (at_builtin; refine wpList_append_own _ rfl _ _ 22 rfl (w.heap.size + 2) 2 i0 (.int .i64 0) 1 8 Try.underlying22 hi hz0 hz1 hz2 rfl (by decide) _ _ _ rfl (HOr.out.own.alloc _) ⟨wr.heap.size, 0, none⟩ 1 1 [.int .i64 s] rfl rfl (one_new _ _ _) (one_one _ _) (by unfold maxLen; omega) (by omega) (by have := HOr.out.z; simp; omega) ?_; intro v' w2 hown' hgrow _; obtain ⟨⟨g, cp, rfl⟩, hb2⟩ := HOr.out.grown hown' hgrow; obtain ⟨hN, hK⟩ := HOr.out.step hb2 hown'; have d1 := (hb2.cell (p := ⟨w.heap.size + 1, 1, none⟩) (by simp)).trans a1; have d2 := (hb2.frozen (p := ⟨w.heap.size + 1, 1, none⟩) (by simp)).trans f1; have HN := Lib.hid hN; have HK := Lib.hid hK; clear hown' hgrow hb2 hN hK a1 f1)
          go_roundw
          case rel => exact ⟨k + 1, _, by omega, by go_num, ⟨hSr.m.at (HK.out.heap q (by omega) (by omega)) HK.out.size, hSr.r.at (HK.out.heap b (by omega) (by omega)) HK.out.size⟩, by rw [HTS.out, ints, List.map_append]; exact HN.out, HBr.out.trans (HK.out.below _ (by omega) (by omega))⟩
          case measure => simp [intOf]; omega
    · obtain rfl : k = C := by omega
      obtain ⟨ao, m, cp, rfl⟩ := hOr.form
      have a0 := hOr.a0; have a1 := hOr.a1
      obtain ⟨x, y, h0, h1⟩ := hOr.room.ex
      have f0 := hOr.room.f0; have f1 := hOr.room.f1
      have HOr := Lib.hid hOr
      have HBr := Lib.hid hBr
      clear hOr hBr
      go_wp2_with fail
      refine bodyPost_ret (v := .agg #[.int .i64 L.length, .slice ao m cp]) (mat_result (p := 2) (fn := Try.f41) rfl _ rfl (two_setCell _ _ _ _ h0 h1).1 (two_setCell _ _ _ _ h0 h1).2) rfl ⟨_, rfl, ?_, HOr.out.res (by omega) (by omega) _ _⟩
      exact (only2 _ _ _ _).below HBr.out (Nat.le_refl _)

set_option maxHeartbeats 1600000 in
theorem specTurnMatrix_any (c : Int) (b n cap : Nat) (xs : List Int) (w : World) (hM : Mt w b n xs) :
    Calls Try.prog 22 #[.agg #[.int .i64 c, .slice (some ⟨b, 0, none⟩) n cap]] w fun e w' => ∃ v, e = .returned (.tuple #[.agg #[.int .i64 (fTurnMatrix c xs).1, v], .int .i64 (fTurnMatrix c xs).2.2]) ∧ Below w.heap.size w w' ∧ Res w' w.heap.size w'.heap.size v (fTurnMatrix c xs).2.1 := by
  unfold fTurnMatrix
  cases hk : okM c xs with
  | false =>
    rw [mk1_no hk]
    have hR : MRoom ((w.alloc (.cells #[.int .i64 c, .slice (some ⟨b, 0, none⟩) n cap] 27)).alloc (.cells #[.int .i64 0, .slice none 0 0] 27)) (w.heap.size + 1) := by simpa using MRoom.start (w.alloc (.cells #[.int .i64 c, .slice (some ⟨b, 0, none⟩) n cap] 27)) (.int .i64 0) (.slice none 0 0) 27
    have hb0 := below_alloc2 w (.cells #[.int .i64 c, .slice (some ⟨b, 0, none⟩) n cap] 27) (.cells #[.int .i64 0, .slice none 0 0] 27)
    have hX := (Box.one w (.int .i64 c) (.slice (some ⟨b, 0, none⟩) n cap) 27).next (below_alloc1 _ (.cells #[.int .i64 0, .slice none 0 0] 27))
    have hS : Sp1 ((w.alloc (.cells #[.int .i64 c, .slice (some ⟨b, 0, none⟩) n cap] 27)).alloc (.cells #[.int .i64 0, .slice none 0 0] 27)) w.heap.size c b n cap xs := ⟨⟨hX.c0, hX.c1, hX.lt⟩, hM.below hb0⟩
    have S := l02Ok_any w.heap.size c b n cap xs _ hS.m hS.r
    rw [hk] at S
    have HS := Lib.hid S
    clear S hX
    go_enter Try.func22, Try.ntmps22
    go_wp2_with fail
    refine HS.out.mono ?_
    rintro e w1 ⟨rfl, hb⟩
    have hR1 := hR.below hb
    have hS1 := hS.below hb
    have hb1 := hb0.trans (hb.mono hb0.size)
    have hq0 := hS1.m.c0
    have hq1 := hS1.m.c1
    clear hb hR hb0 hS
    obtain ⟨x, y, h0, h1⟩ := hR1.ex
    have f0 := hR1.f0
    have f1 := hR1.f1
    go_wp2_with fail
    refine bodyPost_ret (v := .tuple #[.agg #[.int .i64 0, .slice none 0 0], .int .i64 1]) (mat_results (p := 2) (u := 3) (fn := Try.f22) rfl _ rfl (two_setCell _ _ _ _ h0 h1).1 (two_setCell _ _ _ _ h0 h1).2) rfl ⟨_, rfl, ?_, .nil none 0⟩
    exact (only2 _ _ _ _).below hb1 (by simp)
  | true =>
    obtain ⟨C, L, rfl, rfl, hO⟩ := okM_nat hk
    rw [mk1_yes hO]
    have hn10 := hO.n10
    have hll := hM.len
    rw [ints_length] at hll
    subst hll
    by_cases hL : L.length = 0
    · rw [if_pos hL]
      have HL := Lib.hid hL
      clear hL
      have hR : MRoom ((w.alloc (.cells #[.int .i64 C, .slice (some ⟨b, 0, none⟩) L.length cap] 27)).alloc (.cells #[.int .i64 0, .slice none 0 0] 27)) (w.heap.size + 1) := by simpa using MRoom.start (w.alloc (.cells #[.int .i64 C, .slice (some ⟨b, 0, none⟩) L.length cap] 27)) (.int .i64 0) (.slice none 0 0) 27
      have hb0 := below_alloc2 w (.cells #[.int .i64 C, .slice (some ⟨b, 0, none⟩) L.length cap] 27) (.cells #[.int .i64 0, .slice none 0 0] 27)
      have hX := (Box.one w (.int .i64 C) (.slice (some ⟨b, 0, none⟩) L.length cap) 27).next (below_alloc1 _ (.cells #[.int .i64 0, .slice none 0 0] 27))
      have hS : Sp1 ((w.alloc (.cells #[.int .i64 C, .slice (some ⟨b, 0, none⟩) L.length cap] 27)).alloc (.cells #[.int .i64 0, .slice none 0 0] 27)) w.heap.size C b L.length cap (ints L) := ⟨⟨hX.c0, hX.c1, hX.lt⟩, hM.below hb0⟩
      have S := l02Ok_any w.heap.size C b L.length cap (ints L) _ hS.m hS.r
      rw [okM_ints hO] at S
      have HS := Lib.hid S
      clear S hX
      go_enter Try.func22, Try.ntmps22
      go_wp2_with fail
      refine HS.out.mono ?_
      rintro e w1 ⟨rfl, hb⟩
      have hR1 := hR.below hb
      have hS1 := hS.below hb
      have hb1 := hb0.trans (hb.mono hb0.size)
      have hq0 := hS1.m.c0
      have hq1 := hS1.m.c1
      clear hb hR hb0 hS
      rw [HL.out] at hq1
      obtain ⟨x, y, h0, h1⟩ := hR1.ex
      have f0 := hR1.f0
      have f1 := hR1.f1
      go_wp2_with fail
      refine bodyPost_ret (v := .tuple #[.agg #[.int .i64 0, .slice none 0 0], .int .i64 2]) (mat_results (p := 2) (u := 3) (fn := Try.f22) rfl _ rfl (two_setCell _ _ _ _ h0 h1).1 (two_setCell _ _ _ _ h0 h1).2) rfl ⟨_, rfl, ?_, .nil none 0⟩
      exact (only2 _ _ _ _).below hb1 (by simp)
    · rw [if_neg hL]
      have hL' : ¬ (L.length : Int) = 0 := by omega
      have hR : MRoom ((w.alloc (.cells #[.int .i64 C, .slice (some ⟨b, 0, none⟩) L.length cap] 27)).alloc (.cells #[.int .i64 0, .slice none 0 0] 27)) (w.heap.size + 1) := by simpa using MRoom.start (w.alloc (.cells #[.int .i64 C, .slice (some ⟨b, 0, none⟩) L.length cap] 27)) (.int .i64 0) (.slice none 0 0) 27
      have hb0 := below_alloc2 w (.cells #[.int .i64 C, .slice (some ⟨b, 0, none⟩) L.length cap] 27) (.cells #[.int .i64 0, .slice none 0 0] 27)
      have hX := (Box.one w (.int .i64 C) (.slice (some ⟨b, 0, none⟩) L.length cap) 27).next (below_alloc1 _ (.cells #[.int .i64 0, .slice none 0 0] 27))
      have hS : Sp1 ((w.alloc (.cells #[.int .i64 C, .slice (some ⟨b, 0, none⟩) L.length cap] 27)).alloc (.cells #[.int .i64 0, .slice none 0 0] 27)) w.heap.size C b L.length cap (ints L) := ⟨⟨hX.c0, hX.c1, hX.lt⟩, hM.below hb0⟩
      have S := l02Ok_any w.heap.size C b L.length cap (ints L) _ hS.m hS.r
      rw [okM_ints hO] at S
      have HS := Lib.hid S
      clear S hX
      go_enter Try.func22, Try.ntmps22
      go_wp2_with fail
      refine HS.out.mono ?_
      rintro e w1 ⟨rfl, hb⟩
      have hR1 := hR.below hb
      have hS1 := hS.below hb
      have hb1 := hb0.trans (hb.mono hb0.size)
      have hq0 := hS1.m.c0
      have hq1 := hS1.m.c1
      clear hb hR hb0 hS
      go_wp2_with fail
      refine (l02Turn_any w.heap.size C b cap L hO _ hS1).mono ?_
      rintro e w4 ⟨v, rfl, hb, hV⟩
      have hR4 := hR1.below hb
      have hb4 := hb1.trans (hb.mono hb1.size)
      have hq4 : w.heap.size + 1 < w1.heap.size := hR1.lt
      clear hb hR1 hb1
      obtain ⟨x, y, h0, h1⟩ := hR4.ex
      have f0 := hR4.f0
      have f1 := hR4.f1
      obtain ⟨ao, m, cap', rfl⟩ := hV.form
      have HV := Lib.hid hV
      clear hV
      go_wp2_with fail
      refine bodyPost_ret (v := .tuple #[.agg #[.int .i64 L.length, _], .int .i64 0]) (mat_results (p := 2) (u := 3) (fn := Try.f22) rfl _ rfl (two_setCell _ _ _ _ h0 h1).1 (two_setCell _ _ _ _ h0 h1).2) rfl ⟨_, rfl, ?_, HV.out.fin (q := w.heap.size + 1) (by omega) (by omega) _ _⟩
      exact (only2 _ _ _ _).below hb4 (by simp)
end Go.Proofs.Ytkiighfmaoaejaa
