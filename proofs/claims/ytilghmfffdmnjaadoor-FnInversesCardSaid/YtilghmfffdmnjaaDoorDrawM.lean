/- Matrices that are drawn: square ones. -/
import Derived.Test.YtilghmfffdmnjaaDoorDraw3
import Derived.Test.YtilghmfffdmnjaaDoorSp1
import Derived.Test.YtilghmfffdmnjaaDoorStep
namespace Go.Proofs.YtilghmfffdmnjaaDoor
open Go.RowKit Go.Joins Go.ChangeShapes
set_option linter.unusedVariables false

theorem one_any (B q n cap k : Nat) (A : Option Addr) (hk : k ≤ 100000) (m : Nat) (hm1 : 1 ≤ m) (hm : m ≤ 200) (w : World) (h : Src w B q A n cap k) :
    Calls Tryd.prog 114 #[.pointer (some ⟨q, 0, none⟩), .int .i64 m] w fun e w' => ∃ (b : Bool) (k' : Nat), k' ≤ k + 1 ∧ e = .returned (.bool b) ∧ Src w' B q A n cap k' ∧ Only q w w' := by
  have HP := Lib.hid (pick_any B q n cap k A hk m hm1 hm w h)
  clear h
  go_enter Tryd.func114, Tryd.ntmps114
  go_wp2_with fail
  refine HP.out.mono ?_
  rintro e w1 ⟨x, k', hx, hk', rfl, hS, hO⟩
  by_cases h0 : x = 0
  · subst h0
    go_wp2_with fail
    go_ret
    exact ⟨true, k', hk', rfl, hS, hO⟩
  · have h0i : ((x : Int) == 0) = false := by simp; omega
    have h0j : ¬ (x : Int) = 0 := by omega
    go_wp2_with fail
    go_ret
    exact ⟨false, k', hk', ret_bool (by simp), hS, hO⟩
theorem OB.only {wr w' : World} {r o B q : Nat} {c : Int} {k : Nat} {v : Value} {xs : List Int} (h : OB wr r o B c k v xs) (ho : Only q wr w') (hr : q ≠ r) (hoq : q ≠ o) (hq : q < B) : OB w' r o B c k v xs :=
  ⟨h.rB, h.oB, h.ne, (ho.cell (p := ⟨o, 0, none⟩) (Ne.symm hoq)).trans h.a0, (ho.cell (p := ⟨o, 1, none⟩) (Ne.symm hoq)).trans h.a1, (World.frozen?_of_block (w := wr) (a := ⟨o, 1, none⟩) (ho.block o (Ne.symm hoq))).trans h.f1,
   h.room.at (ho.block r (Ne.symm hr)) (Nat.le_of_eq ho.size.symm), by
    refine ⟨h.own.1, ?_⟩
    rcases h.own.2 with ⟨hn, hx⟩ | ⟨g, cap, cur, hv, hb, hg, rest⟩
    · exact .inl ⟨hn, hx⟩
    · exact .inr ⟨g, cap, cur, hv, hb, (ho.block g (by omega)).trans hg, rest⟩, by rw [ho.size]; exact h.z⟩
theorem Src.at8 {W W' : World} {B q n cap k : Nat} {A : Option Addr} (h : Src W B q A n cap k) (hg : W'.heap[q]? = W.heap[q]?) (hs : W.heap.size ≤ W'.heap.size) (hb : Below B W W') : Src W' B q A n cap k := by
  obtain ⟨s, hs2⟩ := h.c2
  exact ⟨(World.cell?_of_block (w := W) (a := ⟨q, 0, none⟩) hg).trans h.c0, (World.cell?_of_block (w := W) (a := ⟨q, 1, none⟩) hg).trans h.c1, ⟨s, (World.cell?_of_block (w := W) (a := ⟨q, 2, none⟩) hg).trans hs2⟩,
    (World.frozen?_of_block (w := W) (a := ⟨q, 1, none⟩) hg).trans h.f1, (World.frozen?_of_block (w := W) (a := ⟨q, 2, none⟩) hg).trans h.f2, Nat.lt_of_lt_of_le h.lt hs, h.Bq, h.bys.below hb⟩
theorem or_below {a b n : Nat} (ha : a < 2 ^ n) (hb : b < 2 ^ n) : a ||| b < 2 ^ n := Nat.or_lt_two_pow ha hb

set_option maxRecDepth 100000 in
set_option maxHeartbeats 6400000 in
theorem l02Square_any (B q n cap k : Nat) (A : Option Addr) (hk : k ≤ 1000) (w : World) (h : Src w B q A n cap k) (hB : B ≤ w.heap.size) :
    Calls Tryd.prog 75 #[.pointer (some ⟨q, 0, none⟩)] w fun e w' => ∃ (C : Nat) (L : List Nat) (v : Value), 1 ≤ C ∧ C ≤ 5 ∧ L.length = C ∧ (∀ r ∈ L, r < 2 ^ C) ∧ e = .returned (.agg #[.int .i64 C, v]) ∧ Res w' w.heap.size w'.heap.size v (ints L) ∧ Below B w w' := by
  obtain ⟨i0, hi, hz0, hz1, hz2⟩ := info_parts Tryd.infoI
  have hqz := h.lt
  have hBq := h.Bq
  have hb1 := below_alloc1 w (.cells #[.int .i64 0, .slice none 0 0] 50)
  have hS1 := h.next hb1 hB
  have HR1 := Lib.hid (MRoom.start w (.int .i64 0) (.slice none 0 0) 50)
  have HP := Lib.hid (pick_any B q n cap k A (by omega) 5 (by omega) (by omega) _ hS1)
  have HB1 := Lib.hid hb1
  clear h hS1 hb1
  go_enter Tryd.func75, Tryd.ntmps75
  go_wp2_with fail
  refine HP.out.mono ?_
  rintro e w2 ⟨x, k2, hx, hk2, rfl, hS2, hO2⟩
  obtain ⟨C, hC⟩ : ∃ C, 1 + x = C := ⟨_, rfl⟩
  have hC1 : 1 ≤ C := by omega
  have hC5 : C ≤ 5 := by omega
  have hCi : (1 : Int) + (x : Int) = (C : Int) := by omega
  obtain ⟨N, hN⟩ : ∃ N, 2 ^ C = N := ⟨_, rfl⟩
  have hN32 : N ≤ 32 := by rw [← hN]; exact Nat.pow_le_pow_right (n := 2) (by omega) hC5
  have hN1 : 1 ≤ N := by rw [← hN]; exact Nat.two_pow_pos C
  have hsh : (2 : Int) ^ C = (N : Int) := by rw [← hN]; simp
  have eu : (IntKind.u64.wrap (C : Int)).toNat = C := by rw [IntKind.wrap_u64]; omega
  have em : min C 64 = C := by omega
  have hz2 : w2.heap.size = w.heap.size + 1 := by rw [hO2.size]; simp
  have hR2 : MRoom w2 w.heap.size := HR1.out.at (hO2.block _ (by omega)) (Nat.le_of_eq hO2.size.symm)
  have hOB : OB (w2.alloc (.cells #[.int .i64 C, .slice none 0 0] 50)) w.heap.size w2.heap.size (w2.heap.size + 1) C 0 (.slice none 0 0) (ints []) :=
    ⟨by omega, by omega, by omega, by simp, by simp, by simp, hR2.below (below_alloc1 _ _), World.ownsRow_nil _ _ _ _, by simp⟩
  have HOB := Lib.hid hOB
  have HS3 := Lib.hid (hS2.next (below_alloc1 w2 (.cells #[.int .i64 C, .slice none 0 0] 50)) (by omega))
  have HB3 := Lib.hid ((HB1.out.mono hB).trans ((hO2.below (Below.refl _ _) hBq).trans ((below_alloc1 w2 (.cells #[.int .i64 C, .slice none 0 0] 50)).mono (by omega))))
  have HN := Lib.hid hN
  have hq2 : q < w2.heap.size := by omega
  have hlt2 : w.heap.size < w2.heap.size := by omega
  have HZ2 := Lib.hid hz2
  clear HP HB1 HR1 hS2 hO2 hR2 hOB hN hC hx hz2
  go_wp2_with fail
  go_loopw [5] (fun i wr => ∃ (j k' : Nat) (L : List Nat) (v : Value), j ≤ C ∧ i = .int .i64 j ∧ L.length = j ∧ (∀ r ∈ L, r < N) ∧ k' ≤ k2 + 3 * j ∧ OB wr w.heap.size w2.heap.size (w2.heap.size + 1) C j v (ints L) ∧ Src wr B q A n cap k' ∧ Below B w wr) (fun i _ => C - (intOf i).toNat)
  case atStart => exact ⟨0, k2, [], _, by omega, rfl, rfl, by simp, by omega, HOB.out, HS3.out, HB3.out⟩
  case round =>
    obtain ⟨j, k', L, v, hj, rfl, hLl, hLN, hk', hOr, hSr, hBr⟩ := hrel
    clear HOB HS3 HB3
    have HLN := Lib.hid hLN
    have HLL := Lib.hid hLl
    have HOr := Lib.hid hOr
    have HSr := Lib.hid hSr
    have HBr := Lib.hid hBr
    clear hLN hLl hOr hSr hBr
    by_cases hlt : j < C
    · have euj : (IntKind.u64.wrap (j : Int)).toNat = j := by rw [IntKind.wrap_u64]; omega
      have emj : min j 64 = j := by omega
      have hpj : 2 ^ j < N := by rw [← HN.out]; exact Nat.pow_lt_pow_right (by omega) hlt
      obtain ⟨M, hM⟩ : ∃ M, 2 ^ j = M := ⟨_, rfl⟩
      have hshj : (2 : Int) ^ j = (M : Int) := by rw [← hM]; simp
      rw [hM] at hpj
      clear hM
      have HP := Lib.hid (pick_any B q n cap k' A (by omega) N hN1 (by omega) _ HSr.out)
      go_wp2_with fail
      refine HP.out.mono ?_
      rintro e w4 ⟨x, k4, hx, hk4, rfl, hS4, hO4⟩
      have hor := i64_or_nat M x (by omega) (by omega)
      have hol : M ||| x < N := by rw [← HN.out] at hpj hx ⊢; exact Nat.or_lt_two_pow hpj hx
      obtain ⟨y, hy⟩ : ∃ y, M ||| x = y := ⟨_, rfl⟩
      rw [hy] at hor hol
      have HO4 := Lib.hid (HOr.out.only hO4 (by omega) (by omega) (by omega))
      have HB4 := Lib.hid (HBr.out.trans (hO4.below (Below.refl _ _) hBq))
      have H1 := Lib.hid (one_any B q n cap k4 A (by omega) 12 (by omega) (by omega) _ hS4)
      clear hS4 hO4 HOr HSr HBr HP hy hx
      go_wp2_with fail
      refine H1.out.mono ?_
      rintro e w5 ⟨b, k5, hk5, rfl, hS5, hO5⟩
      have HO5 := Lib.hid (HO4.out.only hO5 (by omega) (by omega) (by omega))
      have HB5 := Lib.hid (HB4.out.trans (hO5.below (Below.refl _ _) hBq))
      cases b with
      | true =>
        have HP6 := Lib.hid (pick_any B q n cap k5 A (by omega) N hN1 (by omega) _ hS5)
        clear hS5 hO5 HO4 HB4 H1
        go_wp2_with fail
        refine HP6.out.mono ?_
        rintro e w6 ⟨z, k6, hz, hk6, rfl, hS6, hO6⟩
        have HO6 := Lib.hid (HO5.out.only hO6 (by omega) (by omega) (by omega))
        have HB6 := Lib.hid (HB5.out.trans (hO6.below (Below.refl _ _) hBq))
        have HS6 := Lib.hid hS6
        clear hS6 hO6 HO5 HB5 HP6
        obtain ⟨ao, m, cp, rfl⟩ := HO6.out.form
        have a1 := HO6.out.a1
        have f1 := HO6.out.f1
        have hoz := HO6.out.z
        have hll := HO6.out.len
        go_wp2_with (at_builtin; refine wpList_append_own _ rfl _ _ 24 rfl (w2.heap.size + 1) 2 i0 (.int .i64 0) 1 8 Tryd.underlying24 hi hz0 hz1 hz2 rfl (by decide) _ _ _ rfl (HO6.out.own.alloc _) ⟨w6.heap.size, 0, none⟩ 1 1 [.int .i64 z] rfl rfl (one_new _ _ _) (one_one _ _) (by unfold maxLen; omega) (by omega) (by simp; omega) ?_; intro v' w8 hown' hgrow _; obtain ⟨⟨g, cp', rfl⟩, hb2⟩ := HO6.out.grown hown' hgrow; obtain ⟨hN, hK⟩ := HO6.out.step hb2 hown'; have t1 := (hb2.cell (p := ⟨w2.heap.size, 1, none⟩) (by simp)).trans a1; have t5 := (hb2.frozen (p := ⟨w2.heap.size, 1, none⟩) (by simp)).trans f1; have HN8 := Lib.hid hN; have HS8 := Lib.hid (HS6.out.at8 (hK.heap q (by omega) (by omega)) hK.size (hK.below B (by omega) (by omega))); have HB8 := Lib.hid (HB6.out.trans (hK.below B (by omega) (by omega))); clear hown' hgrow hb2 hN hK)
        go_roundw
        case rel => exact ⟨j + 1, k6, L ++ [z], _, by omega, by go_num, by simp [HLL.out], fun r hr => by
          rcases List.mem_append.1 hr with hr | hr
          · exact HLN.out r hr
          · simp at hr; subst hr; assumption, by omega, by simpa [ints] using HN8.out, HS8.out, HB8.out⟩
        case measure => simp [intOf]; omega
      | false =>
        have HS5 := Lib.hid hS5
        clear hS5 hO5 HO4 HB4 H1
        obtain ⟨ao, m, cp, rfl⟩ := HO5.out.form
        have a1 := HO5.out.a1
        have f1 := HO5.out.f1
        have hoz := HO5.out.z
        have hll := HO5.out.len
        go_wp2_with (at_builtin; refine wpList_append_own _ rfl _ _ 24 rfl (w2.heap.size + 1) 2 i0 (.int .i64 0) 1 8 Tryd.underlying24 hi hz0 hz1 hz2 rfl (by decide) _ _ _ rfl (HO5.out.own.alloc _) ⟨w5.heap.size, 0, none⟩ 1 1 [.int .i64 y] rfl rfl (one_new _ _ _) (one_one _ _) (by unfold maxLen; omega) (by omega) (by simp; omega) ?_; intro v' w8 hown' hgrow _; obtain ⟨⟨g, cp', rfl⟩, hb2⟩ := HO5.out.grown hown' hgrow; obtain ⟨hN, hK⟩ := HO5.out.step hb2 hown'; have t1 := (hb2.cell (p := ⟨w2.heap.size, 1, none⟩) (by simp)).trans a1; have t5 := (hb2.frozen (p := ⟨w2.heap.size, 1, none⟩) (by simp)).trans f1; have HN8 := Lib.hid hN; have HS8 := Lib.hid (HS5.out.at8 (hK.heap q (by omega) (by omega)) hK.size (hK.below B (by omega) (by omega))); have HB8 := Lib.hid (HB5.out.trans (hK.below B (by omega) (by omega))); clear hown' hgrow hb2 hN hK)
        go_roundw
        case rel => exact ⟨j + 1, k5, L ++ [y], _, by omega, by go_num, by simp [HLL.out], fun r hr => by
          rcases List.mem_append.1 hr with hr | hr
          · exact HLN.out r hr
          · simp at hr; subst hr; assumption, by omega, by simpa [ints] using HN8.out, HS8.out, HB8.out⟩
        case measure => simp [intOf]; omega
    · obtain rfl : j = C := by omega
      obtain ⟨ao, m, cp, rfl⟩ := HOr.out.form
      have a0 := HOr.out.a0; have a1 := HOr.out.a1
      obtain ⟨x, y, h0, h1⟩ := HOr.out.room.ex
      have f0 := HOr.out.room.f0; have f1 := HOr.out.room.f1
      go_wp2_with fail
      refine bodyPost_ret (v := .agg #[.int .i64 j, .slice ao m cp]) (mat_result (p := 2) (fn := Tryd.f75) rfl _ rfl (two_setCell _ _ _ _ h0 h1).1 (two_setCell _ _ _ _ h0 h1).2) rfl ⟨j, L, _, hC1, hC5, HLL.out, by rw [HN.out]; exact HLN.out, rfl, HOr.out.res (by omega) (by omega) _ _, ?_⟩
      exact (only2 _ _ _ _).below HBr.out hB

/-- The matrix of a call that has come back lies in a block of its own. -/
theorem SpR.new {W : World} {A : Option Addr} {n : Nat} {xs : List Int} (h : Rd W W.heap.size A n xs) (c : Int) (cap : Nat) (T : TypeId) : SpR (W.alloc (.cells #[.int .i64 c, .slice A n cap] T)) W.heap.size c A n cap xs :=
  ⟨⟨by simp, by simp, by simp⟩, h.below (below_alloc1 _ _)⟩

set_option maxRecDepth 100000 in
set_option maxHeartbeats 3200000 in
theorem a2Square_any (A : Option Addr) (n cap : Nat) (w : World) (h : Bys w w.heap.size A n) :
    Calls Tryd.prog 31 #[.slice A n cap] w fun e w' => ∃ (C : Nat) (L : List Nat) (v : Value), 1 ≤ C ∧ C ≤ 5 ∧ L.length = C ∧ (∀ r ∈ L, r < 2 ^ C) ∧ e = .returned (.agg #[.int .i64 C, v]) ∧ Res w' w.heap.size w'.heap.size v (ints L) ∧ Below w.heap.size w w' := by
  have hL := MRoom.start w (.int .i64 0) (.slice none 0 0) 50
  have hb1 := below_alloc1 w (.cells #[.int .i64 0, .slice none 0 0] 50)
  have hA := (h.below hb1).wide hb1.size
  have S := from_any A n cap _ hA
  simp only [World.size_alloc] at S
  have FR := Lib.hid S
  have HL := Lib.hid hL
  have HB1 := Lib.hid hb1
  have hz1 : w.heap.size + 1 ≤ (w.alloc (.cells #[.int .i64 0, .slice none 0 0] 50)).heap.size := by simp
  clear hL h S hA
  go_enter Tryd.func31, Tryd.ntmps31
  go_wp2_with fail
  refine FR.out.mono ?_
  rintro e w2 ⟨rfl, hS, hb2⟩
  have hL2 : MRoom w2 w.heap.size := HL.out.at (hb2.block _ (by omega)) (by have := hb2.size; simp; omega)
  have HB2 := Lib.hid (HB1.out.trans (hb2.mono (by omega)))
  have hz2 : w.heap.size + 1 ≤ w2.heap.size := by have := hb2.size; simp at this; omega
  clear HL HB1 hb1 hb2 FR hz1
  go_wp2_with fail
  refine (l02Square_any _ _ n cap 0 A (by omega) _ hS hz2).mono ?_
  rintro e w3 ⟨C, L, v, h1, h5, hl, hLt, rfl, hR, hb3⟩
  have hL3 : MRoom w3 w.heap.size := hL2.at (hb3.block _ (by omega)) hb3.size
  have HB3 := Lib.hid (HB2.out.trans (hb3.mono (by omega)))
  obtain ⟨x, y, m0, m1⟩ := hL3.ex
  have f0 := hL3.f0; have f1 := hL3.f1
  have hvf : ∃ ao m cp, v = .slice ao m cp := hR.form
  obtain ⟨ao, m, cp, rfl⟩ := hvf
  have HR := Lib.hid hR
  have HLt := Lib.hid hLt
  clear hL3 hL2 HB2 hb3 hS hR hLt
  go_wp2_with fail
  refine bodyPost_ret (v := .agg #[.int .i64 C, .slice ao m cp]) (mat_result (p := 2) (fn := Tryd.f31) rfl _ rfl (two_setCell _ _ _ _ m0 m1).1 (two_setCell _ _ _ _ m0 m1).2) rfl ⟨C, L, _, h1, h5, hl, HLt.out, rfl, HR.out.fin (q := w.heap.size) (by omega) (by omega) _ _, ?_⟩
  exact (only2 _ _ _ _).below HB3.out (Nat.le_refl _)
end Go.Proofs.YtilghmfffdmnjaaDoor
