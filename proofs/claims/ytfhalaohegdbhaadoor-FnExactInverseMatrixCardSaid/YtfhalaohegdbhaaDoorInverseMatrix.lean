/- InverseMatrix: the program and the model. -/
import Derived.Test.YtfhalaohegdbhaaDoorValid
import Derived.Test.YtfhalaohegdbhaaDoorGridFor
import Derived.Test.YtfhalaohegdbhaaDoorInvI
import Derived.Test.YtfhalaohegdbhaaDoorEchelonOf
import Derived.Test.YtfhalaohegdbhaaDoorStep
import Derived.Test.YtfhalaohegdbhaaDoorRankOf
import Derived.StillTailTactics
namespace Go.Proofs.YtfhalaohegdbhaaDoor
open Go.RowKit Go.Joins
set_option linter.unusedVariables false

theorem nth_le {L : List Nat} (h : ∀ j, nth L j < 1024) (r : Nat) : ∀ k, tms r L k < 1024 := tms_lt (C := 10) h r

set_option maxHeartbeats 1600000 in
theorem l02Times_any (b n cap : Nat) (L : List Nat) (hL : ∀ j, nth L j < 1024) (hn : L.length ≤ 10) (r : Nat) (hr : r < 4294967296) (w : World) (hM : Mt w b n (ints L)) :
    Calls Tryd.prog 92 #[.int .i64 r, .slice (some ⟨b, 0, none⟩) n cap] w fun e w' => e = .returned (.int .i64 (tms r L L.length : Nat)) ∧ w = w' := by
  have hll := hM.len
  rw [ints_length] at hll
  subst hll
  go_enter Tryd.func92, Tryd.ntmps92
  go_wp2_with fail
  go_loop [5, 6] (fun s i => ∃ j : Nat, j ≤ L.length ∧ i = .int .i64 j ∧ s = .int .i64 (tms r L j : Nat)) (fun _ i => L.length - (intOf i).toNat)
  case atStart => exact ⟨0, Nat.zero_le _, rfl, rfl⟩
  case round =>
    obtain ⟨j, hj, rfl, rfl⟩ := hrel
    by_cases hlj : j < L.length
    · have hrow := hM.cell j hlj
      rw [ints_get] at hrow
      have hx := hL j
      have hcs : tms r L (j + 1) = if r.testBit j then tms r L j ^^^ nth L j else tms r L j := rfl
      have hcl := nth_le hL r j
      generalize tms r L j = s at hcs hcl ⊢
      generalize nth L j = x at hrow hx hcs
      have hxor := i64_xor_nat s x (by omega) (by omega)
      by_cases hb : r.testBit j = true
      · rw [if_pos hb] at hcs
        have HB := Lib.hid (bitN_one hb)
        have HCS := Lib.hid hcs
        have HX := Lib.hid hxor
        clear hb hcs hxor
        go_wp2_with (go_at_call 82; refine (l02Bit_any r j (by omega) (by omega) _).mono ?_; rw [HB.out]; rintro e w1 ⟨rfl, rfl⟩)
        go_round
        case rel => exact ⟨j + 1, by omega, by go_num, by rw [HX.out, HCS.out]⟩
        case measure => simp [intOf]; omega
      · rw [if_neg hb] at hcs
        have HB := Lib.hid (bitN_zero hb)
        have HCS := Lib.hid hcs
        clear hb hcs hxor
        go_wp2_with (go_at_call 82; refine (l02Bit_any r j (by omega) (by omega) _).mono ?_; rw [HB.out]; rintro e w1 ⟨rfl, rfl⟩)
        go_round
        case rel => exact ⟨j + 1, by omega, by go_num, by rw [HCS.out]⟩
        case measure => simp [intOf]; omega
    · obtain rfl : j = L.length := by omega
      go_wp2_with fail
      go_ret
      exact ⟨rfl, rfl⟩
set_option maxHeartbeats 1600000 in
theorem l02Solve_any (C : Nat) (L : List Nat) (hO : OkM C L) (b cap : Nat) (row : Int) (w : World) (hM : Mt w b L.length (ints L)) :
    Calls Tryd.prog 70 #[.slice (some ⟨b, 0, none⟩) L.length cap, .int .i64 row] w fun e w' => (∃ r : Int, e = .returned (.int .i64 r) ∧ ((∃ k : Nat, r = k ∧ k < 2 ^ L.length ∧ (∀ j, j < k → ¬ (tms j L L.length : Int) = row) ∧ (tms k L L.length : Int) = row) ∨ (r = -1 ∧ ∀ j, j < 2 ^ L.length → ¬ (tms j L L.length : Int) = row))) ∧ w = w' := by
  have hn := hO.n10
  have hg := hO.get'
  obtain ⟨P, hP⟩ : ∃ P : Nat, 2 ^ L.length = P := ⟨_, rfl⟩
  have hp : P ≤ 1024 := by rw [← hP]; exact pow_le10 hn
  have hPi : (2 : Int) ^ L.length = P := by rw [← int_pow, hP]
  rw [hP]
  have HP := Lib.hid hP
  clear hP
  go_enter Tryd.func70, Tryd.ntmps70
  go_wp2_with fail
  go_loop [5] (fun i => ∃ k : Nat, k ≤ P ∧ i = .int .i64 k ∧ ∀ j, j < k → ¬ (tms j L L.length : Int) = row) (fun i => P - (intOf i).toNat)
  case atStart => exact ⟨0, Nat.zero_le _, rfl, fun j hj => by omega⟩
  case round =>
    obtain ⟨k, hk, rfl, hno⟩ := hrel
    have HNO := Lib.hid hno
    clear hno
    by_cases hlt : k < P
    · obtain ⟨s, hs⟩ : ∃ s : Nat, tms k L L.length = s := ⟨_, rfl⟩
      have hs1 := nth_le hg k L.length
      rw [hs] at hs1
      have HS := Lib.hid hs
      clear hs
      by_cases he : (s : Int) = row
      · have HE := Lib.hid he
        clear he
        go_wp2_with (go_at_call 92; refine (l02Times_any b L.length cap L hg hn k (by omega) _ hM).mono ?_; rw [HS.out, HE.out]; rintro e w1 ⟨rfl, rfl⟩)
        go_ret
        exact ⟨⟨_, rfl, .inl ⟨k, rfl, hlt, HNO.out, by rw [HS.out, HE.out]⟩⟩, rfl⟩
      · go_wp2_with (go_at_call 92; refine (l02Times_any b L.length cap L hg hn k (by omega) _ hM).mono ?_; rw [HS.out]; rintro e w1 ⟨rfl, rfl⟩)
        go_round
        case rel => exact ⟨k + 1, by omega, by go_num, fun j hj => by
          by_cases e : j = k
          · subst e; rw [HS.out]; exact he
          · exact HNO.out j (by omega)⟩
        case measure => simp [intOf]; omega
    · obtain rfl : k = P := by omega
      go_wp2_with fail
      go_ret
      exact ⟨⟨_, rfl, .inr ⟨rfl, HNO.out⟩⟩, rfl⟩

/-- The inverse of a matrix, with the errors first. -/
def fInverseMatrix (c : Int) (zs : List Int) : Int × List Int × Int := mk1 c zs fun C L => if L.length = C then (if (joined [] L).length = C then (C, ints (invT C L C), 0) else (0, [], 4)) else (0, [], 2)

theorem solve_good (C : Nat) (L : List Nat) (hO : OkM C L) (hl : L.length = C) (hg : goodI C L) (i : Nat) (hi : i < C) (b cap : Nat) (w : World) (hM : Mt w b L.length (ints L)) (P : Nat) (hP : 2 ^ i = P) :
    Calls Tryd.prog 70 #[.slice (some ⟨b, 0, none⟩) L.length cap, .int .i64 (P : Int)] w fun e w' => e = .returned (.int .i64 (nth (mkd C L C) i / 2 ^ C : Nat)) ∧ w = w' := by
  refine (l02Solve_any C L hO b cap (P : Int) w hM).mono ?_
  rintro e w' ⟨⟨r, rfl, hr⟩, hw⟩
  refine ⟨?_, hw⟩
  rcases hr with ⟨k, rfl, h1, _, h3⟩ | ⟨rfl, h1⟩
  · rw [hl] at h1 h3
    have h4 : tms k L C = 2 ^ i := by rw [hP]; exact Int.ofNat.inj h3
    rw [inv_unique hO.lt hg hi h1 h4]
  · exfalso
    refine h1 (nth (mkd C L C) i / 2 ^ C) (by rw [hl]; exact invM_lt hO.lt i) ?_
    rw [hl, inv_tms hO.lt hg hi, hP]

set_option maxRecDepth 100000 in
set_option maxHeartbeats 1600000 in
theorem implInverseMatrix_any (c : Int) (b n cap : Nat) (xs : List Int) (w : World) (hM : Mt w b n xs) (hT : Tab w) :
    Calls Tryd.prog 42 #[.agg #[.int .i64 c, .slice (some ⟨b, 0, none⟩) n cap]] w fun e w' => ∃ v, e = .returned (.tuple #[.agg #[.int .i64 (fInverseMatrix c xs).1, v], .int .i64 (fInverseMatrix c xs).2.2]) ∧ Below w.heap.size w w' ∧ Res w' w.heap.size w'.heap.size v (fInverseMatrix c xs).2.1 := by
  unfold fInverseMatrix
  have hR : MRoom ((w.alloc (.cells #[.int .i64 c, .slice (some ⟨b, 0, none⟩) n cap] 28)).alloc (.cells #[.int .i64 0, .slice none 0 0] 28)) (w.heap.size + 1) := by simpa using MRoom.start (w.alloc (.cells #[.int .i64 c, .slice (some ⟨b, 0, none⟩) n cap] 28)) (.int .i64 0) (.slice none 0 0) 28
  have hb0 := below_alloc2 w (.cells #[.int .i64 c, .slice (some ⟨b, 0, none⟩) n cap] 28) (.cells #[.int .i64 0, .slice none 0 0] 28)
  have hM0 := hM.below hb0
  cases hk : okM c xs with
  | false =>
    rw [mk1_no hk]
    go_enter Tryd.func42, Tryd.ntmps42
    go_wp2_with fail
    refine (gridFor_no c b n cap xs _ hM0 hk).mono ?_
    rintro e w1 ⟨rfl, hb⟩
    have hR1 := hR.below hb
    have hb1 := hb0.trans (hb.mono hb0.size)
    have hlt1 := hR1.lt
    clear hb hR hb0
    obtain ⟨w2, hst, hG2, hb⟩ := grid_put w1 [] 0 (by simp) (by intro j; simp [nth])
    have hR2 := hR1.below hb
    have hb2 := hb1.trans (hb.mono hb1.size)
    clear hb hb1
    obtain ⟨x, y, h0, h1⟩ := hR2.ex
    have f0 := hR2.f0
    have f1 := hR2.f1
    go_wp2_with fail
    refine bodyPost_ret (v := .tuple #[.agg #[.int .i64 0, .slice none 0 0], .int .i64 1]) (mat_results (p := 2) (u := 3) (fn := Tryd.f42) rfl _ rfl (two_setCell _ _ _ _ h0 h1).1 (two_setCell _ _ _ _ h0 h1).2) rfl ⟨_, rfl, ?_, .nil none 0⟩
    exact (only2 _ _ _ _).below hb2 (by simp)
  | true =>
    obtain ⟨C, L, rfl, rfl, hO⟩ := okM_nat hk
    rw [mk1_yes hO]
    have hn10 := hO.n10
    have hc10 := hO.c10
    by_cases hl : L.length = C
    · rw [if_pos hl]
      have E := fun w hT => inverse_any C L hc10 hl hO.lt w hT
      have hrk : (joined [] L).length = C ↔ goodI C L := ⟨fun h => inv_leads hO.lt (by omega) h, fun h => inv_rank hO.lt h⟩
      have hX2 : ∀ j, nth (invT C L C) j < 4294967296 := lt32 (show C ≤ 20 by omega) (fun r hr => by
        obtain ⟨i, _, rfl⟩ := List.mem_map.1 hr
        exact invM_lt hO.lt i)
      have EE := Lib.hid E
      have HJ2 := Lib.hid hX2
      have HL := Lib.hid hl
      have hlb : ((L.length : Int) != (C : Int)) = false := by rw [hl]; simp
      by_cases hr : (joined [] L).length = C
      · rw [if_pos hr]
        have hgood := Lib.hid (hrk.1 hr)
        clear E hX2 hrk hr hl
        go_enter Tryd.func42, Tryd.ntmps42
        go_wp2_with fail
        refine (gridFor_yes C L hO b n cap _ hM0).mono ?_
        rintro e w1 ⟨rfl, hb⟩
        have hR1 := hR.below hb
        have hb1 := hb0.trans (hb.mono hb0.size)
        have hlt1 := hR1.lt
        clear hb hR hb0
        obtain ⟨w2, hst, hG2, hb⟩ := grid_put w1 L C hn10 (fun j => Nat.lt_trans (hO.get' j) (by omega))
        have hR2 := hR1.below hb
        have hb2 := hb1.trans (hb.mono hb1.size)
        clear hb hb1
        obtain ⟨g0, g1, g2, g3, g4, g5, g6, g7, g8, g9, g10, g11⟩ := hG2.facts
        have HS := Lib.hid (EE.out _ (hT.below hb2))
        clear hT
        go_wp2_with fail
        refine HS.out.mono ?_
        rintro e w3 ⟨h, hb⟩
        have hR3 := hR2.below hb
        have hb3 := hb2.trans (hb.mono hb2.size)
        clear hb hR2 hb2 g0 g1 g2 g3 g4 g5 g6 g7 g8 g9 g10 g11
        rcases h with ⟨_, rfl⟩ | ⟨h, _⟩
        · obtain ⟨w4, hst4, hG4, hb4⟩ := grid_put w3 (invT C L C) C (by rw [invT_len]; exact hc10) HJ2.out
          have hR4 := hR3.below hb4
          have hb5 := hb3.trans (hb4.mono hb3.size)
          obtain ⟨k0, k1, k2, k3, k4, k5, k6, k7, k8, k9, k10, k11⟩ := hG4.facts
          clear hR3 hb3 hb4 hG4
          go_wp2_with fail
          refine (matrix_any (invT C L C) C (by rw [invT_len]; exact hc10) HJ2.out _).mono ?_
          rintro e w5 ⟨v, rfl, hb, hV⟩
          have hR5 := hR4.below hb
          have hb6 := hb5.trans (hb.mono hb5.size)
          have hq5 : w.heap.size + 1 < w4.heap.size := hR4.lt
          have hs5 := hb5.size
          clear hb hR4 hb5 k0 k1 k2 k3 k4 k5 k6 k7 k8 k9 k10 k11
          obtain ⟨x, y, h0, h1⟩ := hR5.ex
          have f0 := hR5.f0
          have f1 := hR5.f1
          obtain ⟨ao, m, cap', rfl⟩ := hV.form
          have HV := Lib.hid hV
          clear hV
          go_wp2_with fail
          refine bodyPost_ret (v := .tuple #[.agg #[.int .i64 C, _], .int .i64 0]) (mat_results (p := 2) (u := 3) (fn := Tryd.f42) rfl _ rfl (two_setCell _ _ _ _ h0 h1).1 (two_setCell _ _ _ _ h0 h1).2) rfl ⟨_, rfl, ?_, HV.out.fin (q := w.heap.size + 1) (by omega) (by omega) _ _⟩
          exact (only2 _ _ _ _).below hb6 (by simp)
        · exact absurd hgood.out h
      · rw [if_neg hr]
        have hbad := Lib.hid (fun h => hr (hrk.2 h))
        clear E hX2 hrk hr hl
        go_enter Tryd.func42, Tryd.ntmps42
        go_wp2_with fail
        refine (gridFor_yes C L hO b n cap _ hM0).mono ?_
        rintro e w1 ⟨rfl, hb⟩
        have hR1 := hR.below hb
        have hb1 := hb0.trans (hb.mono hb0.size)
        have hlt1 := hR1.lt
        clear hb hR hb0
        obtain ⟨w2, hst, hG2, hb⟩ := grid_put w1 L C hn10 (fun j => Nat.lt_trans (hO.get' j) (by omega))
        have hR2 := hR1.below hb
        have hb2 := hb1.trans (hb.mono hb1.size)
        clear hb hb1
        obtain ⟨g0, g1, g2, g3, g4, g5, g6, g7, g8, g9, g10, g11⟩ := hG2.facts
        have HS := Lib.hid (EE.out _ (hT.below hb2))
        clear hT
        go_wp2_with fail
        refine HS.out.mono ?_
        rintro e w3 ⟨h, hb⟩
        have hR3 := hR2.below hb
        have hb3 := hb2.trans (hb.mono hb2.size)
        clear hb hR2 hb2 g0 g1 g2 g3 g4 g5 g6 g7 g8 g9 g10 g11
        rcases h with ⟨h, _⟩ | ⟨_, rfl⟩
        · exact absurd h hbad.out
        · obtain ⟨w4, hst4, hG4, hb4⟩ := grid_put w3 [] 0 (by simp) (by intro j; simp [nth])
          have hR4 := hR3.below hb4
          have hb5 := hb3.trans (hb4.mono hb3.size)
          clear hR3 hb3 hb4 hG4
          obtain ⟨x, y, h0, h1⟩ := hR4.ex
          have f0 := hR4.f0
          have f1 := hR4.f1
          go_wp2_with fail
          refine bodyPost_ret (v := .tuple #[.agg #[.int .i64 0, .slice none 0 0], .int .i64 4]) (mat_results (p := 2) (u := 3) (fn := Tryd.f42) rfl _ rfl (two_setCell _ _ _ _ h0 h1).1 (two_setCell _ _ _ _ h0 h1).2) rfl ⟨_, rfl, ?_, .nil none 0⟩
          exact (only2 _ _ _ _).below hb5 (by simp)
    · rw [if_neg hl]
      have hli : ¬ (L.length : Int) = (C : Int) := by omega
      go_enter Tryd.func42, Tryd.ntmps42
      go_wp2_with fail
      refine (gridFor_yes C L hO b n cap _ hM0).mono ?_
      rintro e w1 ⟨rfl, hb⟩
      have hR1 := hR.below hb
      have hb1 := hb0.trans (hb.mono hb0.size)
      have hlt1 := hR1.lt
      clear hb hR hb0
      obtain ⟨w2, hst, hG2, hb⟩ := grid_put w1 L C hn10 (fun j => Nat.lt_trans (hO.get' j) (by omega))
      have hR2 := hR1.below hb
      have hb2 := hb1.trans (hb.mono hb1.size)
      have g0 := hG2.c0
      have g11 := hG2.c11
      clear hb hb1 hG2
      obtain ⟨x, y, h0, h1⟩ := hR2.ex
      have f0 := hR2.f0
      have f1 := hR2.f1
      go_wp2_with fail
      refine bodyPost_ret (v := .tuple #[.agg #[.int .i64 0, .slice none 0 0], .int .i64 2]) (mat_results (p := 2) (u := 3) (fn := Tryd.f42) rfl _ rfl (two_setCell _ _ _ _ h0 h1).1 (two_setCell _ _ _ _ h0 h1).2) rfl ⟨_, rfl, ?_, .nil none 0⟩
      exact (only2 _ _ _ _).below hb2 (by simp)

set_option maxRecDepth 100000 in
set_option maxHeartbeats 6400000 in
theorem specInverseMatrix_any (c : Int) (b n cap : Nat) (xs : List Int) (w : World) (hM : Mt w b n xs) :
    Calls Tryd.prog 41 #[.agg #[.int .i64 c, .slice (some ⟨b, 0, none⟩) n cap]] w fun e w' => ∃ v, e = .returned (.tuple #[.agg #[.int .i64 (fInverseMatrix c xs).1, v], .int .i64 (fInverseMatrix c xs).2.2]) ∧ Below w.heap.size w w' ∧ Res w' w.heap.size w'.heap.size v (fInverseMatrix c xs).2.1 := by
  unfold fInverseMatrix
  obtain ⟨i0, hi, hz0, hz1, hz2'⟩ := info_parts Tryd.infoI
  have hR : MRoom ((w.alloc (.cells #[.int .i64 c, .slice (some ⟨b, 0, none⟩) n cap] 28)).alloc (.cells #[.int .i64 0, .slice none 0 0] 28)) (w.heap.size + 1) := by simpa using MRoom.start (w.alloc (.cells #[.int .i64 c, .slice (some ⟨b, 0, none⟩) n cap] 28)) (.int .i64 0) (.slice none 0 0) 28
  have hb0 := below_alloc2 w (.cells #[.int .i64 c, .slice (some ⟨b, 0, none⟩) n cap] 28) (.cells #[.int .i64 0, .slice none 0 0] 28)
  have hX := (Box.one w (.int .i64 c) (.slice (some ⟨b, 0, none⟩) n cap) 28).next (below_alloc1 _ (.cells #[.int .i64 0, .slice none 0 0] 28))
  have hS : Sp1 ((w.alloc (.cells #[.int .i64 c, .slice (some ⟨b, 0, none⟩) n cap] 28)).alloc (.cells #[.int .i64 0, .slice none 0 0] 28)) w.heap.size c b n cap xs := ⟨⟨hX.c0, hX.c1, hX.lt⟩, hM.below hb0⟩
  have S := l02Ok_any w.heap.size c b n cap xs _ hS.m hS.r
  cases hk : okM c xs with
  | false =>
    rw [mk1_no hk]
    rw [hk] at S
    have HS := Lib.hid S
    clear S hX
    go_enter Tryd.func41, Tryd.ntmps41
    go_wp2_with fail
    refine HS.out.mono ?_
    rintro e w1 ⟨rfl, hb⟩
    have hR1 := hR.below hb
    have hb1 := hb0.trans (hb.mono hb0.size)
    clear hb hR hb0 hS
    obtain ⟨x, y, h0, h1⟩ := hR1.ex
    have f0 := hR1.f0
    have f1 := hR1.f1
    go_wp2_with fail
    refine bodyPost_ret (v := .tuple #[.agg #[.int .i64 0, .slice none 0 0], .int .i64 1]) (mat_results (p := 2) (u := 3) (fn := Tryd.f41) rfl _ rfl (two_setCell _ _ _ _ h0 h1).1 (two_setCell _ _ _ _ h0 h1).2) rfl ⟨_, rfl, ?_, .nil none 0⟩
    exact (only2 _ _ _ _).below hb1 (by simp)
  | true =>
    rw [hk] at S
    obtain ⟨C, L, rfl, rfl, hO⟩ := okM_nat hk
    rw [mk1_yes hO]
    have hll := hM.len
    rw [ints_length] at hll
    subst hll
    have hn10 := hO.n10
    have hc10 := hO.c10
    by_cases hl : L.length = C
    · rw [if_pos hl]
      have hlb : ((L.length : Int) != (C : Int)) = false := by rw [hl]; simp
      have HL := Lib.hid hl
      have RK0 := fun w hM => l02Rank_any C b L.length cap L hc10 hO.lt (by omega) w hM
      have hJ := joined_len hc10 hO.lt
      have hgood : (joined [] L).length = C → goodI C L := fun h => inv_leads hO.lt (by omega) h
      obtain ⟨rk, hrk⟩ : ∃ rk, (joined [] L).length = rk := ⟨_, rfl⟩
      rw [hrk] at RK0 hJ hgood ⊢
      have RK := Lib.hid RK0
      have HS := Lib.hid S
      clear S hX RK0 hrk hl
      by_cases hr : rk = C
      · rw [if_pos hr]
        have HG := Lib.hid (hgood hr)
        have hrb : ((rk : Int) != (C : Int)) = false := by rw [hr]; simp
        clear hgood hr
        go_enter Tryd.func41, Tryd.ntmps41
        go_wp2_with fail
        refine HS.out.mono ?_
        rintro e w1 ⟨rfl, hb⟩
        have hR1 := hR.below hb
        have hS1 := hS.below hb
        have hb1 := hb0.trans (hb.mono hb0.size)
        have q0 := hS1.m.c0
        have q1 := hS1.m.c1
        have hqz := hS1.m.lt
        have hrz := hR1.lt
        clear hb hR hb0 hS
        have HB := Lib.hid hb1
        have HSS := Lib.hid hS1
        have HR1 := Lib.hid hR1
        clear hb1 hS1 hR1
        go_wp2_with fail
        go_region_held3 (fun w' => w'.cell? ⟨w.heap.size, 0, none⟩ = some (.int .i64 C) ∧ w'.cell? ⟨w.heap.size, 1, none⟩ = some (.slice (some ⟨b, 0, none⟩) L.length cap)) (first | with_reducible exact ⟨q0, q1⟩ | exact ⟨q0, q1⟩ | exact ⟨by assumption, by assumption⟩) (first | (go_at_call 53; refine (RK.out _ (HSS.out.r.drewN 1)).mono ?_; rintro e w3 ⟨rfl, hb⟩; have hdb := (Below.refl w1.heap.size w1).drew.trans hb; have S3 := Lib.hid (HSS.out.below hdb); have R3 := Lib.hid (HR1.out.below hdb); have B3 := Lib.hid (HB.out.trans (hdb.mono HB.out.size)); have t0 := S3.out.m.c0; have t1 := S3.out.m.c1; clear hb hdb))
        clear q0 q1
        have hbo := below_alloc1 w3 (.cells #[.int .i64 C, .slice none 0 0] 28)
        have hX := Box.one w3 (.int .i64 C) (.slice none 0 0) 28
        have hrz3 : w.heap.size + 1 < w3.heap.size := R3.out.lt
        have hOB : OB (w3.alloc (.cells #[.int .i64 C, .slice none 0 0] 28)) (w.heap.size + 1) w3.heap.size (w3.heap.size + 1) C 0 (.slice none 0 0) [] :=
          ⟨by omega, by omega, by omega, hX.c0, hX.c1, by simp [World.frozen?_alloc_at], R3.out.below hbo, World.ownsRow_nil _ _ _ _, by simp⟩
        have HOB := Lib.hid hOB
        have HS0 := Lib.hid (S3.out.below hbo)
        have HB0 := Lib.hid (B3.out.trans (hbo.mono B3.out.size))
        have hqb : b < w.heap.size := hM.lt
        clear hOB hX hbo hM
        go_wp2_with fail
        clear t0 t1
        go_loopw [5] (fun i wr => ∃ (k : Nat) (v : Value), k ≤ C ∧ i = .int .i64 k ∧ Sp1 wr w.heap.size C b L.length cap (ints L) ∧ OB wr (w.heap.size + 1) w3.heap.size (w3.heap.size + 1) C k v (ints (invT C L k)) ∧ Below w.heap.size w wr) (fun i _ => C - (intOf i).toNat)
        case atStart => exact ⟨0, _, Nat.zero_le _, rfl, HS0.out, HOB.out, HB0.out⟩
        case round =>
          obtain ⟨k, v, hk, rfl, hSr, hOr, hBr⟩ := hrel
          clear HOB HS0 HB0
          have c0 := hSr.m.c0
          have c1 := hSr.m.c1
          by_cases hkC : k < C
          · have hts := invT_succ C L k
            obtain ⟨P, hP⟩ : ∃ P : Nat, 2 ^ k = P := ⟨_, rfl⟩
            have hp : P ≤ 1024 := by rw [← hP]; exact pow_le10 (by omega)
            have hPi : (2 : Int) ^ k = P := by rw [← int_pow, hP]
            have hsh : IntKind.i64.wrap (2 ^ min (IntKind.u64.wrap (k : Int)).toNat 64) = (P : Int) := by
              have e : (IntKind.u64.wrap (k : Int)).toNat = k := by
                simp [IntKind.wrap, IntKind.signed, IntKind.bits]; omega
              rw [e, Nat.min_eq_left (by omega), hPi]
              exact wrapNat P (by omega)
            have HSH := Lib.hid hsh
            clear hsh hPi
            have SG := fun w hM => solve_good C L hO HL.out HG.out k hkC b cap w hM P hP
            have hxl := invM_lt hO.lt k
            have hc1024 := pow_le10 hc10
            obtain ⟨s, hs⟩ : ∃ s, nth (mkd C L C) k / 2 ^ C = s := ⟨_, rfl⟩
            rw [hs] at SG hts hxl
            have hs10 : s < 1024 := by omega
            have HSG := Lib.hid SG
            have HTS := Lib.hid hts
            have HOr := Lib.hid hOr
            have HBr := Lib.hid hBr
            have hSrq := Lib.hid (show Sp1 wr.drew w.heap.size C b L.length cap (ints L) from hSr.below (Below.refl _ _).drew)
            have HTD := Lib.hid (show Mt wr.drew b L.length (ints L) from hSr.r.drewN 1)
            have HOD := Lib.hid (show OB wr.drew (w.heap.size + 1) w3.heap.size (w3.heap.size + 1) C k v (ints (invT C L k)) from hOr.drewN 1)
            have a1 := hOr.a1
            have f1 := hOr.f1
            have hoz : w3.heap.size < wr.heap.size := by have := hOr.z; omega
            clear hts hs hOr hBr hSr SG hP hxl hc1024
            go_wp2_with fail
            go_region_law (first | (refine step_append_own rfl (.tmp 35) (.tmp 42) 22 rfl (w3.heap.size + 1) 2 i0 (.int .i64 0) 1 8 Tryd.underlying22 hi hz0 hz1 hz2' rfl (by decide) v k _ (by simp [Act.eval]) (HOD.out.own.alloc _) ⟨wr.drew.heap.size, 0, none⟩ 1 1 [.int .i64 s] (by simp [Act.eval]) rfl (one_new wr.drew _ _) (one_one _ _) (by unfold maxLen; omega) (by omega) (by have := HOr.out.z; simp; omega) ?_; intro v' w4 hown' hgrow; obtain ⟨⟨g, cp, rfl⟩, hb2⟩ := HOD.out.grown hown' hgrow; obtain ⟨hN, hK⟩ := HOD.out.step hb2 hown'; have t1 := (hb2.cell (p := ⟨w3.heap.size, 1, none⟩) (by simp)).trans a1; have t2 := (hb2.cell (p := ⟨w.heap.size, 1, none⟩) (by simp; omega)).trans c1; have t3 := (hb2.cell (p := ⟨w.heap.size, 0, none⟩) (by simp; omega)).trans c0; have t5 := (hb2.frozen (p := ⟨w3.heap.size, 1, none⟩) (by simp)).trans f1; have HN := Lib.hid hN; have HK := Lib.hid hK; clear hown' hgrow hb2 hN hK) | (go_simp; go_wp2_with (go_at_call 70; (try rw [HSH.out]); with_reducible refine Calls.mono (HSG.out _ HTD.out) ?_; rintro e w5 ⟨rfl, rfl⟩)))
            all_goals
              clear hoz t1 t2 t3 t5 a1 c1 c0 f1
              go_wp2_with fail
              go_roundw
              case rel => exact ⟨k + 1, _, by omega, by go_num, ⟨hSrq.out.m.at (HK.out.heap w.heap.size (by omega) (by omega)) HK.out.size, hSrq.out.r.at (HK.out.heap b (by omega) (by omega)) HK.out.size⟩, by rw [HTS.out, ints, List.map_append]; exact HN.out, (HBr.out.drew).trans (HK.out.below _ (by omega) (by omega))⟩
              case measure => simp [intOf]; omega
          · obtain rfl : k = C := by omega
            obtain ⟨ao, m, cp, rfl⟩ := hOr.form
            have a0 := hOr.a0; have a1 := hOr.a1
            obtain ⟨x, y, h0, h1⟩ := hOr.room.ex
            have f0 := hOr.room.f0; have f1 := hOr.room.f1
            have HOr := Lib.hid hOr
            have HBr := Lib.hid hBr
            clear hOr hBr
            go_wp2_with fail
            refine bodyPost_ret (v := .tuple #[.agg #[.int .i64 k, .slice ao m cp], .int .i64 0]) (mat_results (p := 2) (u := 3) (fn := Tryd.f41) rfl _ rfl (two_setCell _ _ _ _ h0 h1).1 (two_setCell _ _ _ _ h0 h1).2) rfl ⟨_, rfl, ?_, HOr.out.res (by omega) (by omega) _ _⟩
            exact (only2 _ _ _ _).below HBr.out (by simp)
      · rw [if_neg hr]
        have hri : ¬ (rk : Int) = (C : Int) := by omega
        have hrb : ((rk : Int) != (C : Int)) = true := by rw [bne, beq_eq_false_iff_ne.2 hri]; rfl
        clear hgood
        go_enter Tryd.func41, Tryd.ntmps41
        go_wp2_with fail
        refine HS.out.mono ?_
        rintro e w1 ⟨rfl, hb⟩
        have hR1 := hR.below hb
        have hS1 := hS.below hb
        have hb1 := hb0.trans (hb.mono hb0.size)
        have q0 := hS1.m.c0
        have q1 := hS1.m.c1
        have hqz := hS1.m.lt
        have hrz := hR1.lt
        clear hb hR hb0 hS
        have HB := Lib.hid hb1
        have HSS := Lib.hid hS1
        have HR1 := Lib.hid hR1
        clear hb1 hS1 hR1
        go_wp2_with fail
        go_region_held3 (fun w' => w'.cell? ⟨w.heap.size, 0, none⟩ = some (.int .i64 C) ∧ w'.cell? ⟨w.heap.size, 1, none⟩ = some (.slice (some ⟨b, 0, none⟩) L.length cap)) (first | with_reducible exact ⟨q0, q1⟩ | exact ⟨q0, q1⟩ | exact ⟨by assumption, by assumption⟩) (first | (go_at_call 53; refine (RK.out _ (HSS.out.r.drewN 1)).mono ?_; rintro e w3 ⟨rfl, hb⟩; have hdb := (Below.refl w1.heap.size w1).drew.trans hb; have S3 := Lib.hid (HSS.out.below hdb); have R3 := Lib.hid (HR1.out.below hdb); have B3 := Lib.hid (HB.out.trans (hdb.mono HB.out.size)); have t0 := S3.out.m.c0; have t1 := S3.out.m.c1; clear hb hdb))
        obtain ⟨x, y, h0, h1⟩ := R3.out.ex
        have f0 := R3.out.f0
        have f1 := R3.out.f1
        clear q0 q1
        go_wp2_with fail
        refine bodyPost_ret (v := .tuple #[.agg #[.int .i64 0, .slice none 0 0], .int .i64 4]) (mat_results (p := 2) (u := 3) (fn := Tryd.f41) rfl _ rfl (two_setCell _ _ _ _ h0 h1).1 (two_setCell _ _ _ _ h0 h1).2) rfl ⟨_, rfl, ?_, .nil none 0⟩
        exact (only2 _ _ _ _).below B3.out (by simp)
    · rw [if_neg hl]
      have hli : ¬ (L.length : Int) = (C : Int) := by omega
      have hlb : ((L.length : Int) != (C : Int)) = true := by rw [bne, beq_eq_false_iff_ne.2 hli]; rfl
      have HS := Lib.hid S
      clear S hX
      go_enter Tryd.func41, Tryd.ntmps41
      go_wp2_with fail
      refine HS.out.mono ?_
      rintro e w1 ⟨rfl, hb⟩
      have hR1 := hR.below hb
      have hS1 := hS.below hb
      have hb1 := hb0.trans (hb.mono hb0.size)
      have q0 := hS1.m.c0
      have q1 := hS1.m.c1
      have hqz := hS1.m.lt
      have hrz := hR1.lt
      clear hb hR hb0 hS
      obtain ⟨x, y, h0, h1⟩ := hR1.ex
      have f0 := hR1.f0
      have f1 := hR1.f1
      go_wp2_with fail
      refine bodyPost_ret (v := .tuple #[.agg #[.int .i64 0, .slice none 0 0], .int .i64 2]) (mat_results (p := 2) (u := 3) (fn := Tryd.f41) rfl _ rfl (two_setCell _ _ _ _ h0 h1).1 (two_setCell _ _ _ _ h0 h1).2) rfl ⟨_, rfl, ?_, .nil none 0⟩
      exact (only2 _ _ _ _).below hb1 (by simp)
end Go.Proofs.YtfhalaohegdbhaaDoor
