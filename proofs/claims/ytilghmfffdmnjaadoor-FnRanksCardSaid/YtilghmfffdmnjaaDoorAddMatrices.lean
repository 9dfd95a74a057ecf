/- AddMatrices: the program and the model. -/
import Derived.Test.YtilghmfffdmnjaaDoorValid
import Derived.Test.YtilghmfffdmnjaaDoorMulMatrices
import Derived.Test.YtilghmfffdmnjaaDoorSpan2
namespace Go.Proofs.YtilghmfffdmnjaaDoor
open Go.RowKit Go.Joins
set_option linter.unusedVariables false

/-- The sums of the first k rows. -/
def addL (L M : List Nat) (k : Nat) : List Nat := (List.range k).map fun i => nth L i ^^^ nth M i
theorem addL_succ (L M : List Nat) (k : Nat) : addL L M (k + 1) = addL L M k ++ [nth L k ^^^ nth M k] := range_succ_map _ _
/-- Rows of which the first k have been added to. -/
def addF (L M : List Nat) (k j : Nat) : Nat := if j < k then nth L j ^^^ nth M j else nth L j
theorem addF_zero (L M : List Nat) (j : Nat) : addF L M 0 j = nth L j := by unfold addF; rw [if_neg (by omega)]
theorem addF_at (L M : List Nat) (k : Nat) : addF L M k k = nth L k := by unfold addF; rw [if_neg (by omega)]
theorem addF_succ (L M : List Nat) (k j : Nat) : addF L M (k + 1) j = if j = k then nth L k ^^^ nth M k else addF L M k j := by
  unfold addF
  by_cases h : j = k
  · subst h; rw [if_pos (by omega), if_pos rfl]
  · rw [if_neg h]
    by_cases h2 : j < k
    · rw [if_pos h2, if_pos (by omega)]
    · rw [if_neg h2, if_neg (by omega)]
theorem nth_len' {L : List Nat} {j : Nat} (h : L.length ≤ j) : nth L j = 0 := by
  simp [nth, List.getD_eq_getElem?_getD, List.getElem?_eq_none h]
theorem addL_fn {L M : List Nat} (hlm : ∀ j, addF L M M.length j = addF L M L.length j) (j : Nat) : nth (addL L M L.length) j = addF L M M.length j := by
  rw [hlm]
  unfold addF
  by_cases h : j < L.length
  · rw [if_pos h]; simp [nth, addL, h]
  · rw [if_neg h, nth_len' (L := L) (by omega), nth_len' (by simp [addL]; omega)]
def fAddMatrices (c : Int) (zs : List Int) (d : Int) (ys : List Int) : Int × List Int × Int := mk2 c zs d ys fun C L D M => if C = D ∧ L.length = M.length then (C, ints (addL L M L.length), 0) else (0, [], 2)

set_option maxRecDepth 100000 in
set_option maxHeartbeats 6400000 in
theorem implAddMatrices_anyR (c : Int) (A : Option Addr) (n cap : Nat) (xs : List Int) (d : Int) (A' : Option Addr) (n' cap' : Nat) (ys : List Int) (w : World) (hM : Rd w w.heap.size A n xs) (hN : Rd w w.heap.size A' n' ys) :
    Calls Tryd.prog 45 #[.agg #[.int .i64 c, .slice A n cap], .agg #[.int .i64 d, .slice A' n' cap']] w fun e w' => ∃ v, e = .returned (.tuple #[.agg #[.int .i64 (fAddMatrices c xs d ys).1, v], .int .i64 (fAddMatrices c xs d ys).2.2]) ∧ Below w.heap.size w w' ∧ Res w' w.heap.size w'.heap.size v (fAddMatrices c xs d ys).2.1 := by
  unfold fAddMatrices
  by_cases hk : okM c xs = false ∨ okM d ys = false
  · rw [mk2_no hk]
    obtain ⟨hR, hb0, hX, hY⟩ := three w (.int .i64 c) (.slice A n cap) (.int .i64 d) (.slice A' n' cap') _ rfl
    have hM0 := hM.below hb0
    have hN0 := hN.below hb0
    go_enter Tryd.func45, Tryd.ntmps45
    go_wp2_with fail
    refine (gridsFor_noR c xs d ys hk A n cap A' n' cap' _ hM0 hN0).mono ?_
    rintro e w1 ⟨rfl, hb⟩
    have hR1 := hR.below hb
    have hb1 := hb0.trans (hb.mono hb0.size)
    clear hb hb0 hR hX hY hM0 hN0
    obtain ⟨w2, w3, hst, hst2, hG, hH, hb⟩ := grids_put w1 [] 0 (by simp) (by intro j; simp [nth]) [] 0 (by simp) (by intro j; simp [nth]) _ rfl
    have hR3 := hR1.below hb
    have hb3 := hb1.trans (hb.mono hb1.size)
    clear hb hb1 hR1
    obtain ⟨x, y, h0, h1⟩ := hR3.ex
    have f0 := hR3.f0
    have f1 := hR3.f1
    go_wp2_with fail
    refine bodyPost_ret (v := .tuple #[.agg #[.int .i64 0, .slice none 0 0], .int .i64 1]) (mat_results (p := 4) (u := 5) (fn := Tryd.f45) rfl _ rfl (two_setCell _ _ _ _ h0 h1).1 (two_setCell _ _ _ _ h0 h1).2) rfl ⟨_, rfl, ?_, .nil none 0⟩
    exact (only2 _ _ _ _).below hb3 (by omega)
  · obtain ⟨C, L, rfl, rfl, hO⟩ := okM_nat (show okM c xs = true by cases e : okM c xs <;> simp_all)
    obtain ⟨D, M, rfl, rfl, hP⟩ := okM_nat (show okM d ys = true by cases e : okM d ys <;> simp_all)
    rw [mk2_yes hO hP]
    have hn10 := hO.n10
    have hm10 := hP.n10
    have hd10 := hP.c10
    by_cases hL : C = D ∧ L.length = M.length
    · rw [if_pos hL]
      obtain ⟨rfl, hlm⟩ := hL
      have HLM := Lib.hid hlm
      have hlmf : ∀ j, addF L M M.length j = addF L M L.length j := fun j => by rw [hlm]
      replace hlmf := hlmf
      clear hlm
      have hbe : ((L.length : Int) == (M.length : Int)) = true := by rw [beq_iff_eq]; have := HLM.out; omega
      have hbn : ((L.length : Int) != (M.length : Int)) = false := by rw [bne, hbe]; rfl
      obtain ⟨hR, hb0, hX, hY⟩ := three w (.int .i64 C) (.slice A n cap) (.int .i64 C) (.slice A' n' cap') _ rfl
      have hM0 := hM.below hb0
      have hN0 := hN.below hb0
      go_enter Tryd.func45, Tryd.ntmps45
      go_wp2_with fail
      refine (gridsFor_yesR C L hO C M hP A n cap A' n' cap' _ hM0 hN0).mono ?_
      rintro e w1 ⟨rfl, hb⟩
      have hR1 := hR.below hb
      have hb1 := hb0.trans (hb.mono hb0.size)
      clear hb hb0 hR hX hY hM0 hN0
      obtain ⟨w2, w3, hst, hst2, hG, hH, hb⟩ := grids_put w1 L C hn10 (fun j => Nat.lt_trans (hO.get' j) (by omega)) M C hm10 (fun j => Nat.lt_trans (hP.get' j) (by omega)) _ rfl
      have hR3 := hR1.below hb
      have hR1lt := hR1.lt
      have hb3 := hb1.trans (hb.mono hb1.size)
      clear hb hb1 hR1
      have hGC := hG.toC
      have g0 := hG.c0; have g11 := hG.c11; have m0 := hH.c0; have m11 := hH.c11
      have hsz3 : w1.heap.size + 1 < w3.heap.size := hH.lt
      have zR := hR1lt
      have HGC := Lib.hid (hGC.congr (addF_zero L M))
      have HH := Lib.hid hH
      have HR := Lib.hid hR3
      have HB := Lib.hid hb3
      clear hGC hG hR3 hb3
      go_wp2_with (go_at_call 90; refine (all_any (w1.heap.size + 1) M C _ hH).mono ?_; rintro e w4 ⟨rfl, q0, rfl⟩)
      clear hH g0 g11 m0 m11
      go_loopw [40] (fun i wr => ∃ k : Nat, k ≤ M.length ∧ i = .int .i64 k ∧ CAt wr w1.heap.size L.length (addF L M k) C ∧ GAt wr (w1.heap.size + 1) M C ∧ MRoom wr (w.heap.size + 1 + 1) ∧ Below w.heap.size w wr) (fun i _ => M.length - (intOf i).toNat)
      case atStart => exact ⟨0, Nat.zero_le _, rfl, HGC.out.drewN q0, HH.out.drewN q0, ⟨HR.out.ex, HR.out.f0, HR.out.f1, HR.out.lt⟩, HB.out.trans (below_draws _ _ _)⟩
      case round =>
        obtain ⟨k, hk, rfl, hC, hH, hR, hb⟩ := hrel
        clear HGC HH HR HB
        by_cases hkm : k < M.length
        · have hrow := hH.row k (by omega)
          have grow := hC.row k (by omega)
          have gfr := hC.free (1 + k) (by omega)
          have hpk := addF_at L M k
          have hx : nth L k < 4294967296 := Nat.lt_trans (hO.get' k) (by omega)
          have hy : nth M k < 4294967296 := Nat.lt_trans (hP.get' k) (by omega)
          rw [hpk] at grow
          have hset := (hC.setRow k (by omega) (nth L k ^^^ nth M k) (by have := Nat.xor_lt_two_pow (n := 32) hx hy; omega)).congr (g := addF L M (k + 1)) (addF_succ L M k)
          obtain ⟨x, hxx⟩ : ∃ x, nth L k = x := ⟨_, rfl⟩
          obtain ⟨y, hyy⟩ : ∃ y, nth M k = y := ⟨_, rfl⟩
          rw [hxx, hyy] at hset
          rw [hxx] at grow hx
          rw [hyy] at hrow hy
          have HSET := Lib.hid hset
          have HO := Lib.hid ((Only.refl w1.heap.size wr).setCell (1 + k) (.int .u32 ((x ^^^ y : Nat) : Int)))
          have HH := Lib.hid hH
          have HR := Lib.hid hR
          have HB := Lib.hid hb
          clear hset hC hH hR hb hxx hyy hpk
          go_wp2_with (go_at_call 91; refine (plus_any x y hx hy _).mono ?_; rintro e w5 ⟨rfl, rfl⟩)
          go_roundw
          case rel => exact ⟨k + 1, by omega, by go_num, HSET.out, HH.out.only HO.out (by omega), HR.out.only HO.out (by omega), HO.out.below HB.out (by omega)⟩
          case measure => simp [intOf]; omega
        · obtain rfl : k = M.length := by omega
          have hGA := hC.toG (addL L M L.length) (by simp [addL]) (addL_fn hlmf)
          have hga := hGA.facts
          obtain ⟨g0, g1, g2, g3, g4, g5, g6, g7, g8, g9, g10, g11⟩ := hga
          have hAl : (addL L M L.length).length ≤ 10 := hGA.len
          have hAr := hGA.r32
          have HR := Lib.hid hR
          have HB := Lib.hid hb
          obtain ⟨A, hA⟩ : ∃ A, addL L M L.length = A := ⟨_, rfl⟩
          rw [hA] at g0 g1 g2 g3 g4 g5 g6 g7 g8 g9 g10 hAl hAr
          have HAA := Lib.hid hA
          clear hGA hC hH hR hb hA
          go_wp2_with fail
          refine (matrix_any A C hAl hAr _).mono ?_
          rintro e w5 ⟨v, rfl, hb, hV⟩
          have hR5 := HR.out.below hb
          have hb5 := HB.out.trans (hb.mono HB.out.size)
          have hq5 := HR.out.lt
          have hs5 := HB.out.size
          rw [← HAA.out] at hV
          clear hb HR HB g0 g1 g2 g3 g4 g5 g6 g7 g8 g9 g10 g11
          obtain ⟨x, y, h0, h1⟩ := hR5.ex
          have f0 := hR5.f0
          have f1 := hR5.f1
          obtain ⟨ao, m, cq, rfl⟩ := hV.form
          have HV := Lib.hid hV
          clear hV
          go_wp2_with fail
          refine bodyPost_ret (v := .tuple #[.agg #[.int .i64 C, _], .int .i64 0]) (mat_results (p := 4) (u := 5) (fn := Tryd.f45) rfl _ rfl (two_setCell _ _ _ _ h0 h1).1 (two_setCell _ _ _ _ h0 h1).2) rfl ⟨_, rfl, ?_, HV.out.fin (q := w.heap.size + 1 + 1) (by omega) (by omega) _ _⟩
          exact (only2 _ _ _ _).below hb5 (by omega)
    · rw [if_neg hL]
      have hL' : ¬ (C : Int) = (D : Int) ∨ ((C : Int) = (D : Int) ∧ ¬ (L.length : Int) = (M.length : Int)) := by omega
      obtain ⟨hR, hb0, hX, hY⟩ := three w (.int .i64 C) (.slice A n cap) (.int .i64 D) (.slice A' n' cap') _ rfl
      have hM0 := hM.below hb0
      have hN0 := hN.below hb0
      go_enter Tryd.func45, Tryd.ntmps45
      go_wp2_with fail
      refine (gridsFor_yesR C L hO D M hP A n cap A' n' cap' _ hM0 hN0).mono ?_
      rintro e w1 ⟨rfl, hb⟩
      have hR1 := hR.below hb
      have hb1 := hb0.trans (hb.mono hb0.size)
      clear hb hb0 hR hX hY hM0 hN0
      obtain ⟨w2, w3, hst, hst2, hG, hH, hb⟩ := grids_put w1 L C hn10 (fun j => Nat.lt_trans (hO.get' j) (by omega)) M D hm10 (fun j => Nat.lt_trans (hP.get' j) (by omega)) _ rfl
      have hR3 := hR1.below hb
      have hb3 := hb1.trans (hb.mono hb1.size)
      clear hb hb1 hR1
      have g11 := hG.c11; have g0 := hG.c0; have m11 := hH.c11
      have m0 := hH.c0
      obtain ⟨x, y, h0, h1⟩ := hR3.ex
      have f0 := hR3.f0
      have f1 := hR3.f1
      rcases hL' with hL' | ⟨hL', hli⟩
      · skip
        go_wp2_with fail
        refine bodyPost_ret (v := .tuple #[.agg #[.int .i64 0, .slice none 0 0], .int .i64 2]) (mat_results (p := 4) (u := 5) (fn := Tryd.f45) rfl _ rfl (two_setCell _ _ _ _ h0 h1).1 (two_setCell _ _ _ _ h0 h1).2) rfl ⟨_, rfl, ?_, .nil none 0⟩
        exact (only2 _ _ _ _).below hb3 (by omega)
      · have hcd : C = D := by omega
        subst hcd
        have hbe : ((L.length : Int) == (M.length : Int)) = false := by rw [beq_eq_false_iff_ne]; exact hli
        have hbn : ((L.length : Int) != (M.length : Int)) = true := by rw [bne, hbe]; rfl
        go_wp2_with fail
        refine bodyPost_ret (v := .tuple #[.agg #[.int .i64 0, .slice none 0 0], .int .i64 2]) (mat_results (p := 4) (u := 5) (fn := Tryd.f45) rfl _ rfl (two_setCell _ _ _ _ h0 h1).1 (two_setCell _ _ _ _ h0 h1).2) rfl ⟨_, rfl, ?_, .nil none 0⟩
        exact (only2 _ _ _ _).below hb3 (by omega)
theorem implAddMatrices_any (c : Int) (b n cap : Nat) (xs : List Int) (d : Int) (b' n' cap' : Nat) (ys : List Int) (w : World) (hM : Mt w b n xs) (hN : Mt w b' n' ys) :
    Calls Tryd.prog 45 #[.agg #[.int .i64 c, .slice (some ⟨b, 0, none⟩) n cap], .agg #[.int .i64 d, .slice (some ⟨b', 0, none⟩) n' cap']] w fun e w' => ∃ v, e = .returned (.tuple #[.agg #[.int .i64 (fAddMatrices c xs d ys).1, v], .int .i64 (fAddMatrices c xs d ys).2.2]) ∧ Below w.heap.size w w' ∧ Res w' w.heap.size w'.heap.size v (fAddMatrices c xs d ys).2.1 :=
  implAddMatrices_anyR c (some ⟨b, 0, none⟩) n cap xs d (some ⟨b', 0, none⟩) n' cap' ys w hM.rd hN.rd

end Go.Proofs.YtilghmfffdmnjaaDoor
