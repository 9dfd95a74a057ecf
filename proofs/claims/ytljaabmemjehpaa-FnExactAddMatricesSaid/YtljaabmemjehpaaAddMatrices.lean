/- AddMatrices: the program and the model. -/
import Derived.Test.YtljaabmemjehpaaValid
import Derived.Test.YtljaabmemjehpaaMulMatrices
import Derived.Test.YtljaabmemjehpaaCAt
namespace Go.Proofs.Ytljaabmemjehpaa
open Go.RowKit Go.Joins
set_option linter.unusedVariables false

/-- The sums of the first k rows. -/
def addL (L M : List Nat) (k : Nat) : List Nat := (List.range k).map fun i => nth L i ^^^ nth M i
theorem addL_succ (L M : List Nat) (k : Nat) : addL L M (k + 1) = addL L M k ++ [nth L k ^^^ nth M k] := range_succ_map _ _
/-- Rows of which the first k have been added to. -/
def addF (L M : List Nat) (k j : Nat) : Nat := if j < k then nth L j ^^^ nth M j else nth L j
theorem addF_zero (L M : List Nat) (j : Nat) : addF L M 0 j = nth L j := by unfold addF; rw [if_neg (by omega)]
theorem addF_at (L M : List Nat) (k : Nat) : addF L M k k = nth L k := by unfold addF; rw [if_neg (by omega)]
theorem addF_succ (L M : List Nat) (k j : Nat) : addF L M (k + 1) j = if j = k then nth L k ^^^ nth M k else addF L M k j := by
  unfold addF
  by_cases h : j = k
  · subst h; rw [if_pos (by omega), if_pos rfl]
  · rw [if_neg h]
    by_cases h2 : j < k
    · rw [if_pos h2, if_pos (by omega)]
    · rw [if_neg h2, if_neg (by omega)]
theorem nth_len' {L : List Nat} {j : Nat} (h : L.length ≤ j) : nth L j = 0 := by
  simp [nth, List.getD_eq_getElem?_getD, List.getElem?_eq_none h]
theorem addL_fn {L M : List Nat} (hlm : ∀ j, addF L M M.length j = addF L M L.length j) (j : Nat) : nth (addL L M L.length) j = addF L M M.length j := by
  rw [hlm]
  unfold addF
  by_cases h : j < L.length
  · rw [if_pos h]; simp [nth, addL, h]
  · rw [if_neg h, nth_len' (L := L) (by omega), nth_len' (by simp [addL]; omega)]
def fAddMatrices (c : Int) (zs : List Int) (d : Int) (ys : List Int) : Int × List Int × Int := mk2 c zs d ys fun C L D M => if C = D ∧ L.length = M.length then (C, ints (addL L M L.length), 0) else (0, [], 2)

set_option maxRecDepth 100000 in
set_option maxHeartbeats 6400000 in
theorem implAddMatrices_any (c : Int) (b n cap : Nat) (xs : List Int) (d : Int) (b' n' cap' : Nat) (ys : List Int) (w : World) (hM : Mt w b n xs) (hN : Mt w b' n' ys) :
    Calls Try.prog 56 #[.agg #[.int .i64 c, .slice (some ⟨b, 0, none⟩) n cap], .agg #[.int .i64 d, .slice (some ⟨b', 0, none⟩) n' cap']] w fun e w' => ∃ v, e = .returned (.tuple #[.agg #[.int .i64 (fAddMatrices c xs d ys).1, v], .int .i64 (fAddMatrices c xs d ys).2.2]) ∧ Below w.heap.size w w' ∧ Res w' w.heap.size w'.heap.size v (fAddMatrices c xs d ys).2.1 := by
  unfold fAddMatrices
  by_cases hk : okM c xs = false ∨ okM d ys = false
  · rw [mk2_no hk]
    obtain ⟨hR, hb0, hX, hY⟩ := three w (.int .i64 c) (.slice (some ⟨b, 0, none⟩) n cap) (.int .i64 d) (.slice (some ⟨b', 0, none⟩) n' cap') _ rfl
    have hM0 := hM.below hb0
    have hN0 := hN.below hb0
    go_enter Try.func56, Try.ntmps56
    go_wp2_with fail
    refine (gridsFor_no c xs d ys hk b n cap b' n' cap' _ hM0 hN0).mono ?_
    rintro e w1 ⟨rfl, hb⟩
    have hR1 := hR.below hb
    have hb1 := hb0.trans (hb.mono hb0.size)
    clear hb hb0 hR hX hY hM0 hN0
    obtain ⟨w2, w3, hst, hst2, hG, hH, hb⟩ := grids_put w1 [] 0 (by simp) (by intro j; simp [nth]) [] 0 (by simp) (by intro j; simp [nth]) _ rfl
    have hR3 := hR1.below hb
    have hb3 := hb1.trans (hb.mono hb1.size)
    clear hb hb1 hR1
    obtain ⟨x, y, h0, h1⟩ := hR3.ex
    have f0 := hR3.f0
    have f1 := hR3.f1
    go_wp2_with fail
    refine bodyPost_ret (v := .tuple #[.agg #[.int .i64 0, .slice none 0 0], .int .i64 1]) (mat_results (p := 4) (u := 5) (fn := Try.f56) rfl _ rfl (two_setCell _ _ _ _ h0 h1).1 (two_setCell _ _ _ _ h0 h1).2) rfl ⟨_, rfl, ?_, .nil none 0⟩
    exact (only2 _ _ _ _).below hb3 (by omega)
  · obtain ⟨C, L, rfl, rfl, hO⟩ := okM_nat (show okM c xs = true by cases e : okM c xs <;> simp_all)
    obtain ⟨D, M, rfl, rfl, hP⟩ := okM_nat (show okM d ys = true by cases e : okM d ys <;> simp_all)
    rw [mk2_yes hO hP]
    have hn10 := hO.n10
    have hm10 := hP.n10
    have hd10 := hP.c10
    by_cases hL : C = D ∧ L.length = M.length
    · rw [if_pos hL]
      obtain ⟨rfl, hlm⟩ := hL
      have HLM := Lib.hid hlm
      have hlmf : ∀ j, addF L M M.length j = addF L M L.length j := fun j => by rw [hlm]
      replace hlmf := hlmf
      clear hlm
      have hbe : ((L.length : Int) == (M.length : Int)) = true := by rw [beq_iff_eq]; have := HLM.out; omega
      have hbn : ((L.length : Int) != (M.length : Int)) = false := by rw [bne, hbe]; rfl
      obtain ⟨hR, hb0, hX, hY⟩ := three w (.int .i64 C) (.slice (some ⟨b, 0, none⟩) n cap) (.int .i64 C) (.slice (some ⟨b', 0, none⟩) n' cap') _ rfl
      have hM0 := hM.below hb0
      have hN0 := hN.below hb0
      go_enter Try.func56, Try.ntmps56
      go_wp2_with fail
      refine (gridsFor_yes C L hO C M hP b n cap b' n' cap' _ hM0 hN0).mono ?_
      rintro e w1 ⟨rfl, hb⟩
      have hR1 := hR.below hb
      have hb1 := hb0.trans (hb.mono hb0.size)
      clear hb hb0 hR hX hY hM0 hN0
      obtain ⟨w2, w3, hst, hst2, hG, hH, hb⟩ := grids_put w1 L C hn10 (fun j => Nat.lt_trans (hO.get' j) (by omega)) M C hm10 (fun j => Nat.lt_trans (hP.get' j) (by omega)) _ rfl
      have hR3 := hR1.below hb
      have hR1lt := hR1.lt
      have hb3 := hb1.trans (hb.mono hb1.size)
      clear hb hb1 hR1
      have hGC := hG.toC
      have g0 := hG.c0; have g11 := hG.c11; have m0 := hH.c0; have m11 := hH.c11
      have hsz3 : w1.heap.size + 1 < w3.heap.size := hH.lt
      have zR := hR1lt
      have HGC := Lib.hid (hGC.congr (addF_zero L M))
      have HH := Lib.hid hH
      have HR := Lib.hid hR3
      have HB := Lib.hid hb3
      clear hGC hG hR3 hb3
      go_wp2_with (go_at_call 103; refine (all_any (w1.heap.size + 1) M C _ hH).mono ?_; rintro e w4 ⟨rfl, q0, rfl⟩)
      clear hH g0 g11 m0 m11
      go_loopw [40] (fun i wr => ∃ k : Nat, k ≤ M.length ∧ i = .int .i64 k ∧ CAt wr w1.heap.size L.length (addF L M k) C ∧ GAt wr (w1.heap.size + 1) M C ∧ MRoom wr (w.heap.size + 1 + 1) ∧ Below w.heap.size w wr) (fun i _ => M.length - (intOf i).toNat)
      case atStart => exact ⟨0, Nat.zero_le _, rfl, HGC.out.drewN q0, HH.out.drewN q0, ⟨HR.out.ex, HR.out.f0, HR.out.f1, HR.out.lt⟩, HB.out.trans (below_draws _ _ _)⟩
      case round =>
        obtain ⟨k, hk, rfl, hC, hH, hR, hb⟩ := hrel
        clear HGC HH HR HB
        by_cases hkm : k < M.length
        · have hrow := hH.row k (by omega)
          have grow := hC.row k (by omega)
          have gfr := hC.free (1 + k) (by omega)
          have hpk := addF_at L M k
          have hx : nth L k < 4294967296 := Nat.lt_trans (hO.get' k) (by omega)
          have hy : nth M k < 4294967296 := Nat.lt_trans (hP.get' k) (by omega)
          rw [hpk] at grow
          have hset := (hC.setRow k (by omega) (nth L k ^^^ nth M k) (by have := Nat.xor_lt_two_pow (n := 32) hx hy; omega)).congr (g := addF L M (k + 1)) (addF_succ L M k)
          obtain ⟨x, hxx⟩ : ∃ x, nth L k = x := ⟨_, rfl⟩
          obtain ⟨y, hyy⟩ : ∃ y, nth M k = y := ⟨_, rfl⟩
          rw [hxx, hyy] at hset
          rw [hxx] at grow hx
          rw [hyy] at hrow hy
          have HSET := Lib.hid hset
          have HO := Lib.hid ((Only.refl w1.heap.size wr).setCell (1 + k) (.int .u32 ((x ^^^ y : Nat) : Int)))
          have HH := Lib.hid hH
          have HR := Lib.hid hR
          have HB := Lib.hid hb
          clear hset hC hH hR hb hxx hyy hpk
          go_wp2_with (go_at_call 104; refine (plus_any x y hx hy _).mono ?_; rintro e w5 ⟨rfl, rfl⟩)
          go_roundw
          case rel => exact ⟨k + 1, by omega, by go_num, HSET.out, HH.out.only HO.out (by omega), HR.out.only HO.out (by omega), HO.out.below HB.out (by omega)⟩
          case measure => simp [intOf]; omega
        · obtain rfl : k = M.length := by omega
          have hGA := hC.toG (addL L M L.length) (by simp [addL]) (addL_fn hlmf)
          have hga := hGA.facts
          obtain ⟨g0, g1, g2, g3, g4, g5, g6, g7, g8, g9, g10, g11⟩ := hga
          have hAl : (addL L M L.length).length ≤ 10 := hGA.len
          have hAr := hGA.r32
          have HR := Lib.hid hR
          have HB := Lib.hid hb
          obtain ⟨A, hA⟩ : ∃ A, addL L M L.length = A := ⟨_, rfl⟩
          rw [hA] at g0 g1 g2 g3 g4 g5 g6 g7 g8 g9 g10 hAl hAr
          have HAA := Lib.hid hA
          clear hGA hC hH hR hb hA
          go_wp2_with fail
          refine (matrix_any A C hAl hAr _).mono ?_
          rintro e w5 ⟨v, rfl, hb, hV⟩
          have hR5 := HR.out.below hb
          have hb5 := HB.out.trans (hb.mono HB.out.size)
          have hq5 := HR.out.lt
          have hs5 := HB.out.size
          rw [← HAA.out] at hV
          clear hb HR HB g0 g1 g2 g3 g4 g5 g6 g7 g8 g9 g10 g11
          obtain ⟨x, y, h0, h1⟩ := hR5.ex
          have f0 := hR5.f0
          have f1 := hR5.f1
          obtain ⟨ao, m, cq, rfl⟩ := hV.form
          have HV := Lib.hid hV
          clear hV
          go_wp2_with fail
          refine bodyPost_ret (v := .tuple #[.agg #[.int .i64 C, _], .int .i64 0]) (mat_results (p := 4) (u := 5) (fn := Try.f56) rfl _ rfl (two_setCell _ _ _ _ h0 h1).1 (two_setCell _ _ _ _ h0 h1).2) rfl ⟨_, rfl, ?_, HV.out.fin (q := w.heap.size + 1 + 1) (by omega) (by omega) _ _⟩
          exact (only2 _ _ _ _).below hb5 (by omega)
    · rw [if_neg hL]
      have hL' : ¬ (C : Int) = (D : Int) ∨ ((C : Int) = (D : Int) ∧ ¬ (L.length : Int) = (M.length : Int)) := by omega
      obtain ⟨hR, hb0, hX, hY⟩ := three w (.int .i64 C) (.slice (some ⟨b, 0, none⟩) n cap) (.int .i64 D) (.slice (some ⟨b', 0, none⟩) n' cap') _ rfl
      have hM0 := hM.below hb0
      have hN0 := hN.below hb0
      go_enter Try.func56, Try.ntmps56
      go_wp2_with fail
      refine (gridsFor_yes C L hO D M hP b n cap b' n' cap' _ hM0 hN0).mono ?_
      rintro e w1 ⟨rfl, hb⟩
      have hR1 := hR.below hb
      have hb1 := hb0.trans (hb.mono hb0.size)
      clear hb hb0 hR hX hY hM0 hN0
      obtain ⟨w2, w3, hst, hst2, hG, hH, hb⟩ := grids_put w1 L C hn10 (fun j => Nat.lt_trans (hO.get' j) (by omega)) M D hm10 (fun j => Nat.lt_trans (hP.get' j) (by omega)) _ rfl
      have hR3 := hR1.below hb
      have hb3 := hb1.trans (hb.mono hb1.size)
      clear hb hb1 hR1
      have g11 := hG.c11; have g0 := hG.c0; have m11 := hH.c11
      have m0 := hH.c0
      obtain ⟨x, y, h0, h1⟩ := hR3.ex
      have f0 := hR3.f0
      have f1 := hR3.f1
      rcases hL' with hL' | ⟨hL', hli⟩
      · skip
        go_wp2_with fail
        refine bodyPost_ret (v := .tuple #[.agg #[.int .i64 0, .slice none 0 0], .int .i64 2]) (mat_results (p := 4) (u := 5) (fn := Try.f56) rfl _ rfl (two_setCell _ _ _ _ h0 h1).1 (two_setCell _ _ _ _ h0 h1).2) rfl ⟨_, rfl, ?_, .nil none 0⟩
        exact (only2 _ _ _ _).below hb3 (by omega)
      · have hcd : C = D := by omega
        subst hcd
        have hbe : ((L.length : Int) == (M.length : Int)) = false := by rw [beq_eq_false_iff_ne]; exact hli
        have hbn : ((L.length : Int) != (M.length : Int)) = true := by rw [bne, hbe]; rfl
        go_wp2_with fail
        refine bodyPost_ret (v := .tuple #[.agg #[.int .i64 0, .slice none 0 0], .int .i64 2]) (mat_results (p := 4) (u := 5) (fn := Try.f56) rfl _ rfl (two_setCell _ _ _ _ h0 h1).1 (two_setCell _ _ _ _ h0 h1).2) rfl ⟨_, rfl, ?_, .nil none 0⟩
        exact (only2 _ _ _ _).below hb3 (by omega)

set_option maxRecDepth 100000 in
set_option maxHeartbeats 6400000 in
theorem specAddMatrices_any (c : Int) (b n cap : Nat) (xs : List Int) (d : Int) (b' n' cap' : Nat) (ys : List Int) (w : World) (hM : Mt w b n xs) (hN : Mt w b' n' ys) :
    Calls Try.prog 54 #[.agg #[.int .i64 c, .slice (some ⟨b, 0, none⟩) n cap], .agg #[.int .i64 d, .slice (some ⟨b', 0, none⟩) n' cap']] w fun e w' => ∃ v, e = .returned (.tuple #[.agg #[.int .i64 (fAddMatrices c xs d ys).1, v], .int .i64 (fAddMatrices c xs d ys).2.2]) ∧ Below w.heap.size w w' ∧ Res w' w.heap.size w'.heap.size v (fAddMatrices c xs d ys).2.1 := by
  unfold fAddMatrices
  obtain ⟨i0, hi, hz0, hz1, hz2'⟩ := info_parts Try.infoI
  cases hk : okM c xs with
  | false =>
    rw [mk2_no (.inl hk)]
    obtain ⟨hR, hb0, hX, hY⟩ := three w (.int .i64 c) (.slice (some ⟨b, 0, none⟩) n cap) (.int .i64 d) (.slice (some ⟨b', 0, none⟩) n' cap') _ rfl
    have hS0 : Sp1 _ w.heap.size c b n cap xs := ⟨⟨hX.c0, hX.c1, hX.lt⟩, hM.below hb0⟩
    have hT0 : Sp1 _ (w.heap.size + 1) d b' n' cap' ys := ⟨⟨hY.c0, hY.c1, hY.lt⟩, hN.below hb0⟩
    have S := l02Ok_any w.heap.size c b n cap xs _ hS0.m hS0.r
    rw [hk] at S
    have HS := Lib.hid S
    clear S hX hY
    go_enter Try.func54, Try.ntmps54
    go_wp2_with fail
    refine HS.out.mono ?_
    rintro e w1 ⟨rfl, hb⟩
    have hR1 := hR.below hb
    have hS1 := hS0.below hb
    have hT1 := hT0.below hb
    have hb1 := hb0.trans (hb.mono hb0.size)
    clear hb hb0 hR hS0 hT0
    obtain ⟨x, y, h0, h1⟩ := hR1.ex
    have f0 := hR1.f0
    have f1 := hR1.f1
    go_wp2_with fail
    refine bodyPost_ret (v := .tuple #[.agg #[.int .i64 0, .slice none 0 0], .int .i64 1]) (mat_results (p := 4) (u := 5) (fn := Try.f54) rfl _ rfl (two_setCell _ _ _ _ h0 h1).1 (two_setCell _ _ _ _ h0 h1).2) rfl ⟨_, rfl, ?_, .nil none 0⟩
    exact (only2 _ _ _ _).below hb1 (by omega)
  | true =>
    cases hk2 : okM d ys with
    | false =>
      rw [mk2_no (.inr hk2)]
      obtain ⟨hR, hb0, hX, hY⟩ := three w (.int .i64 c) (.slice (some ⟨b, 0, none⟩) n cap) (.int .i64 d) (.slice (some ⟨b', 0, none⟩) n' cap') _ rfl
      have hS0 : Sp1 _ w.heap.size c b n cap xs := ⟨⟨hX.c0, hX.c1, hX.lt⟩, hM.below hb0⟩
      have hT0 : Sp1 _ (w.heap.size + 1) d b' n' cap' ys := ⟨⟨hY.c0, hY.c1, hY.lt⟩, hN.below hb0⟩
      have S := l02Ok_any w.heap.size c b n cap xs _ hS0.m hS0.r
      rw [hk] at S
      have HS := Lib.hid S
      clear S hX hY
      go_enter Try.func54, Try.ntmps54
      go_wp2_with fail
      refine HS.out.mono ?_
      rintro e w1 ⟨rfl, hb⟩
      have hR1 := hR.below hb
      have hS1 := hS0.below hb
      have hT1 := hT0.below hb
      have hb1 := hb0.trans (hb.mono hb0.size)
      clear hb hb0 hR hS0 hT0
      have T := l02Ok_any (w.heap.size + 1) d b' n' cap' ys _ hT1.m hT1.r
      rw [hk2] at T
      have HT := Lib.hid T
      clear T
      go_wp2_with fail
      refine HT.out.mono ?_
      rintro e w2 ⟨rfl, hb⟩
      have hR2 := hR1.below hb
      have hS2 := hS1.below hb
      have hT2 := hT1.below hb
      have hb2 := hb1.trans (hb.mono hb1.size)
      clear hb hb1 hR1 hS1 hT1
      obtain ⟨x, y, h0, h1⟩ := hR2.ex
      have f0 := hR2.f0
      have f1 := hR2.f1
      go_wp2_with fail
      refine bodyPost_ret (v := .tuple #[.agg #[.int .i64 0, .slice none 0 0], .int .i64 1]) (mat_results (p := 4) (u := 5) (fn := Try.f54) rfl _ rfl (two_setCell _ _ _ _ h0 h1).1 (two_setCell _ _ _ _ h0 h1).2) rfl ⟨_, rfl, ?_, .nil none 0⟩
      exact (only2 _ _ _ _).below hb2 (by omega)
    | true =>
      obtain ⟨C, L, rfl, rfl, hO⟩ := okM_nat hk
      obtain ⟨D, M, rfl, rfl, hP⟩ := okM_nat hk2
      rw [mk2_yes hO hP]
      have hn10 := hO.n10
      have hm10 := hP.n10
      have hll := hM.len
      have hmm := hN.len
      rw [ints_length] at hll hmm
      subst hll
      subst hmm
      by_cases hL : C = D ∧ L.length = M.length
      · rw [if_pos hL]
        obtain ⟨rfl, hlm⟩ := hL
        have HLM := Lib.hid hlm
        clear hlm
        have hbe : ((L.length : Int) == (M.length : Int)) = true := by rw [beq_iff_eq]; have := HLM.out; omega
        have hbn : ((L.length : Int) != (M.length : Int)) = false := by rw [bne, hbe]; rfl
        obtain ⟨hR, hb0, hX, hY⟩ := three w (.int .i64 C) (.slice (some ⟨b, 0, none⟩) L.length cap) (.int .i64 C) (.slice (some ⟨b', 0, none⟩) M.length cap') _ rfl
        have hS0 : Sp1 _ w.heap.size C b L.length cap (ints L) := ⟨⟨hX.c0, hX.c1, hX.lt⟩, hM.below hb0⟩
        have hT0 : Sp1 _ (w.heap.size + 1) C b' M.length cap' (ints M) := ⟨⟨hY.c0, hY.c1, hY.lt⟩, hN.below hb0⟩
        have S := l02Ok_any w.heap.size C b L.length cap (ints L) _ hS0.m hS0.r
        rw [okM_ints hO] at S
        have HS := Lib.hid S
        clear S hX hY
        go_enter Try.func54, Try.ntmps54
        go_wp2_with fail
        refine HS.out.mono ?_
        rintro e w1 ⟨rfl, hb⟩
        have hR1 := hR.below hb
        have hS1 := hS0.below hb
        have hT1 := hT0.below hb
        have hb1 := hb0.trans (hb.mono hb0.size)
        clear hb hb0 hR hS0 hT0
        have T := l02Ok_any (w.heap.size + 1) C b' M.length cap' (ints M) _ hT1.m hT1.r
        rw [okM_ints hP] at T
        have HT := Lib.hid T
        clear T
        go_wp2_with fail
        refine HT.out.mono ?_
        rintro e w2 ⟨rfl, hb⟩
        have hR2 := hR1.below hb
        have hS2 := hS1.below hb
        have hT2 := hT1.below hb
        have hb2 := hb1.trans (hb.mono hb1.size)
        clear hb hb1 hR1 hS1 hT1
        have s0 := hS2.m.c0; have s1 := hS2.m.c1
        have t0 := hT2.m.c0; have t1 := hT2.m.c1
        have hz2 : w.heap.size + 1 + 1 < w2.heap.size := hR2.lt
        have hbo := below_alloc1 w2 (.cells #[.int .i64 C, .slice none 0 0] 79)
        have hX := Box.one w2 (.int .i64 C) (.slice none 0 0) 79
        have hOB : OB (w2.alloc (.cells #[.int .i64 C, .slice none 0 0] 79)) (w.heap.size + 1 + 1) w2.heap.size (w2.heap.size + 1) C 0 (.slice none 0 0) [] :=
          ⟨by omega, by omega, by omega, hX.c0, hX.c1, by simp [World.frozen?_alloc_at], hR2.below hbo, World.ownsRow_nil _ _ _ _, by simp⟩
        have HOB := Lib.hid hOB
        have HS0 := Lib.hid (hS2.below hbo)
        have HT0 := Lib.hid (hT2.below hbo)
        have HB0 := Lib.hid (hb2.trans (hbo.mono hb2.size))
        have hqb : b < w.heap.size := hM.lt
        have hqb' : b' < w.heap.size := hN.lt
        clear hOB hX hbo hR2 hS2 hT2 hb2 hM hN
        go_wp2_with fail
        clear s0 s1 t0 t1
        go_loopw [7] (fun i wr => ∃ (k : Nat) (v : Value), k ≤ L.length ∧ i = .int .i64 k ∧ Sp1 wr w.heap.size C b L.length cap (ints L) ∧ Sp1 wr (w.heap.size + 1) C b' M.length cap' (ints M) ∧ OB wr (w.heap.size + 1 + 1) w2.heap.size (w2.heap.size + 1) C k v (ints (addL L M k)) ∧ Below w.heap.size w wr) (fun i _ => L.length - (intOf i).toNat)
        case atStart => exact ⟨0, _, Nat.zero_le _, rfl, HS0.out, HT0.out, HOB.out, HB0.out⟩
        case round =>
          obtain ⟨k, v, hk, rfl, hSr, hTr, hOr, hBr⟩ := hrel
          clear HOB HS0 HT0 HB0
          have c1 := hSr.m.c1
          by_cases hkC : k < L.length
          · have e1 := hTr.m.c1
            have hkM : k < M.length := by have := HLM.out; omega
            have hrow := hSr.r.cell k hkC
            rw [ints_get] at hrow
            have krow := hTr.r.cell k hkM
            rw [ints_get] at krow
            have hx := hO.get' k
            have hy := hP.get' k
            have hts := addL_succ L M k
            generalize hxx : nth L k = x at hrow hx hts
            generalize hyy : nth M k = y at krow hy hts
            have hxor := i64_xor_nat x y (by omega) (by omega)
            obtain ⟨s, hs⟩ : ∃ s, x ^^^ y = s := ⟨_, rfl⟩
            rw [hs] at hts hxor
            have HTS := Lib.hid hts
            have HOr := Lib.hid hOr
            have HBr := Lib.hid hBr
            have hSrq := Lib.hid (show Sp1 wr.drew w.heap.size C b L.length cap (ints L) from hSr.below (Below.refl _ _).drew)
            have hTrq := Lib.hid (show Sp1 wr.drew (w.heap.size + 1) C b' M.length cap' (ints M) from hTr.below (Below.refl _ _).drew)
            have HOD := Lib.hid (show OB wr.drew (w.heap.size + 1 + 1) w2.heap.size (w2.heap.size + 1) C k v (ints (addL L M k)) from hOr.drewN 1)
            have a1 := hOr.a1
            have f1 := hOr.f1
            have hoz : w2.heap.size < wr.heap.size := by have := hOr.z; omega
            clear hts hs hOr hBr hSr hTr hxx hyy
            go_wp2_with fail
            go_region_law (first | (refine step_append_own rfl (.tmp 41) (.tmp 53) 27 rfl (w2.heap.size + 1) 2 i0 (.int .i64 0) 1 8 Try.underlying27 hi hz0 hz1 hz2' rfl (by decide) v k _ (by simp [Act.eval]) (HOD.out.own.alloc _) ⟨wr.drew.heap.size, 0, none⟩ 1 1 [.int .i64 s] (by simp [Act.eval]) rfl (one_new wr.drew _ _) (one_one _ _) (by unfold maxLen; omega) (by omega) (by have := HOr.out.z; simp; omega) ?_; intro v' w4 hown' hgrow; obtain ⟨⟨g, cp, rfl⟩, hb2⟩ := HOD.out.grown hown' hgrow; obtain ⟨hN, hK⟩ := HOD.out.step hb2 hown'; have t1 := (hb2.cell (p := ⟨w2.heap.size, 1, none⟩) (by simp)).trans a1; have t2 := (hb2.cell (p := ⟨w.heap.size, 1, none⟩) (by simp; omega)).trans c1; have t3 := (hb2.cell (p := ⟨w.heap.size + 1, 1, none⟩) (by simp; omega)).trans e1; have t4 := (hb2.cell (p := ⟨b, k, none⟩) (by simp; omega)).trans hrow; have t5 := (hb2.frozen (p := ⟨w2.heap.size, 1, none⟩) (by simp)).trans f1; have t6 := (hb2.cell (p := ⟨b', k, none⟩) (by simp; omega)).trans krow; have HN := Lib.hid hN; have HK := Lib.hid hK; clear hown' hgrow hb2 hN hK))
            all_goals
              clear hoz t1 t2 t3 t4 t5 t6 a1 c1 e1 f1 hrow krow
              go_wp2_with fail
              go_roundw
              case rel => exact ⟨k + 1, _, by omega, by go_num, ⟨hSrq.out.m.at (HK.out.heap w.heap.size (by omega) (by omega)) HK.out.size, hSrq.out.r.at (HK.out.heap b (by omega) (by omega)) HK.out.size⟩, ⟨hTrq.out.m.at (HK.out.heap (w.heap.size + 1) (by omega) (by omega)) HK.out.size, hTrq.out.r.at (HK.out.heap b' (by omega) (by omega)) HK.out.size⟩, by rw [HTS.out, ints, List.map_append]; exact HN.out, (HBr.out.drew).trans (HK.out.below _ (by omega) (by omega))⟩
              case measure => simp [intOf]; omega
          · obtain rfl : k = L.length := by omega
            obtain ⟨ao, m, cp, rfl⟩ := hOr.form
            have a0 := hOr.a0; have a1 := hOr.a1
            obtain ⟨x, y, h0, h1⟩ := hOr.room.ex
            have f0 := hOr.room.f0; have f1 := hOr.room.f1
            have HOr := Lib.hid hOr
            have HBr := Lib.hid hBr
            clear hOr hBr
            go_wp2_with fail
            refine bodyPost_ret (v := .tuple #[.agg #[.int .i64 C, .slice ao m cp], .int .i64 0]) (mat_results (p := 4) (u := 5) (fn := Try.f54) rfl _ rfl (two_setCell _ _ _ _ h0 h1).1 (two_setCell _ _ _ _ h0 h1).2) rfl ⟨_, rfl, ?_, HOr.out.res (by omega) (by omega) _ _⟩
            exact (only2 _ _ _ _).below HBr.out (by omega)
      · rw [if_neg hL]
        have hL' : ¬ (C : Int) = (D : Int) ∨ ((C : Int) = (D : Int) ∧ ¬ (L.length : Int) = (M.length : Int)) := by omega
        obtain ⟨hR, hb0, hX, hY⟩ := three w (.int .i64 C) (.slice (some ⟨b, 0, none⟩) L.length cap) (.int .i64 D) (.slice (some ⟨b', 0, none⟩) M.length cap') _ rfl
        have hS0 : Sp1 _ w.heap.size C b L.length cap (ints L) := ⟨⟨hX.c0, hX.c1, hX.lt⟩, hM.below hb0⟩
        have hT0 : Sp1 _ (w.heap.size + 1) D b' M.length cap' (ints M) := ⟨⟨hY.c0, hY.c1, hY.lt⟩, hN.below hb0⟩
        have S := l02Ok_any w.heap.size C b L.length cap (ints L) _ hS0.m hS0.r
        rw [okM_ints hO] at S
        have HS := Lib.hid S
        clear S hX hY
        go_enter Try.func54, Try.ntmps54
        go_wp2_with fail
        refine HS.out.mono ?_
        rintro e w1 ⟨rfl, hb⟩
        have hR1 := hR.below hb
        have hS1 := hS0.below hb
        have hT1 := hT0.below hb
        have hb1 := hb0.trans (hb.mono hb0.size)
        clear hb hb0 hR hS0 hT0
        have T := l02Ok_any (w.heap.size + 1) D b' M.length cap' (ints M) _ hT1.m hT1.r
        rw [okM_ints hP] at T
        have HT := Lib.hid T
        clear T
        go_wp2_with fail
        refine HT.out.mono ?_
        rintro e w2 ⟨rfl, hb⟩
        have hR2 := hR1.below hb
        have hS2 := hS1.below hb
        have hT2 := hT1.below hb
        have hb2 := hb1.trans (hb.mono hb1.size)
        clear hb hb1 hR1 hS1 hT1
        have s0 := hS2.m.c0; have s1 := hS2.m.c1
        have t0 := hT2.m.c0; have t1 := hT2.m.c1
        obtain ⟨x, y, h0, h1⟩ := hR2.ex
        have f0 := hR2.f0
        have f1 := hR2.f1
        rcases hL' with hL' | ⟨hL', hli⟩
        · skip
          go_wp2_with fail
          refine bodyPost_ret (v := .tuple #[.agg #[.int .i64 0, .slice none 0 0], .int .i64 2]) (mat_results (p := 4) (u := 5) (fn := Try.f54) rfl _ rfl (two_setCell _ _ _ _ h0 h1).1 (two_setCell _ _ _ _ h0 h1).2) rfl ⟨_, rfl, ?_, .nil none 0⟩
          exact (only2 _ _ _ _).below hb2 (by omega)
        · have hcd : C = D := by omega
          subst hcd
          have hbe : ((L.length : Int) == (M.length : Int)) = false := by rw [beq_eq_false_iff_ne]; exact hli
          have hbn : ((L.length : Int) != (M.length : Int)) = true := by rw [bne, hbe]; rfl
          go_wp2_with fail
          refine bodyPost_ret (v := .tuple #[.agg #[.int .i64 0, .slice none 0 0], .int .i64 2]) (mat_results (p := 4) (u := 5) (fn := Try.f54) rfl _ rfl (two_setCell _ _ _ _ h0 h1).1 (two_setCell _ _ _ _ h0 h1).2) rfl ⟨_, rfl, ?_, .nil none 0⟩
          exact (only2 _ _ _ _).below hb2 (by omega)
end Go.Proofs.Ytljaabmemjehpaa
