/- Matrices that are drawn: square ones. · Matrices and spaces that are drawn. -/
import Derived.Test.YtilghmfffdmnjaaDoorDraw3
import Derived.Test.YtilghmfffdmnjaaDoorSp1
import Derived.Test.YtilghmfffdmnjaaDoorStep
import Derived.Test.YtilghmfffdmnjaaDoorRankS
import Derived.Test.YtilghmfffdmnjaaDoorEchelonOf
import Derived.Test.YtilghmfffdmnjaaDoorDim2
import Derived.Deep.DeepCutAuto
import Derived.Deep.RegionLaw
namespace Go.Proofs.YtilghmfffdmnjaaDoor
open Go.RowKit Go.Joins Go.ChangeShapes
set_option linter.unusedVariables false

theorem one_any (B q n cap k : Nat) (A : Option Addr) (hk : k ≤ 100000) (m : Nat) (hm1 : 1 ≤ m) (hm : m ≤ 200) (w : World) (h : Src w B q A n cap k) :
    Calls Tryd.prog 114 #[.pointer (some ⟨q, 0, none⟩), .int .i64 m] w fun e w' => ∃ (b : Bool) (k' : Nat), k' ≤ k + 1 ∧ e = .returned (.bool b) ∧ Src w' B q A n cap k' ∧ Only q w w' := by
  have HP := Lib.hid (pick_any B q n cap k A hk m hm1 hm w h)
  clear h
  go_enter Tryd.func114, Tryd.ntmps114
  go_wp2_with fail
  refine HP.out.mono ?_
  rintro e w1 ⟨x, k', hx, hk', rfl, hS, hO⟩
  by_cases h0 : x = 0
  · subst h0
    go_wp2_with fail
    go_ret
    exact ⟨true, k', hk', rfl, hS, hO⟩
  · have h0i : ((x : Int) == 0) = false := by simp; omega
    have h0j : ¬ (x : Int) = 0 := by omega
    go_wp2_with fail
    go_ret
    exact ⟨false, k', hk', ret_bool (by simp), hS, hO⟩
theorem OB.only {wr w' : World} {r o B q : Nat} {c : Int} {k : Nat} {v : Value} {xs : List Int} (h : OB wr r o B c k v xs) (ho : Only q wr w') (hr : q ≠ r) (hoq : q ≠ o) (hq : q < B) : OB w' r o B c k v xs :=
  ⟨h.rB, h.oB, h.ne, (ho.cell (p := ⟨o, 0, none⟩) (Ne.symm hoq)).trans h.a0, (ho.cell (p := ⟨o, 1, none⟩) (Ne.symm hoq)).trans h.a1, (World.frozen?_of_block (w := wr) (a := ⟨o, 1, none⟩) (ho.block o (Ne.symm hoq))).trans h.f1,
   h.room.at (ho.block r (Ne.symm hr)) (Nat.le_of_eq ho.size.symm), by
    refine ⟨h.own.1, ?_⟩
    rcases h.own.2 with ⟨hn, hx⟩ | ⟨g, cap, cur, hv, hb, hg, rest⟩
    · exact .inl ⟨hn, hx⟩
    · exact .inr ⟨g, cap, cur, hv, hb, (ho.block g (by omega)).trans hg, rest⟩, by rw [ho.size]; exact h.z⟩
theorem Src.at8 {W W' : World} {B q n cap k : Nat} {A : Option Addr} (h : Src W B q A n cap k) (hg : W'.heap[q]? = W.heap[q]?) (hs : W.heap.size ≤ W'.heap.size) (hb : Below B W W') : Src W' B q A n cap k := by
  obtain ⟨s, hs2⟩ := h.c2
  exact ⟨(World.cell?_of_block (w := W) (a := ⟨q, 0, none⟩) hg).trans h.c0, (World.cell?_of_block (w := W) (a := ⟨q, 1, none⟩) hg).trans h.c1, ⟨s, (World.cell?_of_block (w := W) (a := ⟨q, 2, none⟩) hg).trans hs2⟩,
    (World.frozen?_of_block (w := W) (a := ⟨q, 1, none⟩) hg).trans h.f1, (World.frozen?_of_block (w := W) (a := ⟨q, 2, none⟩) hg).trans h.f2, Nat.lt_of_lt_of_le h.lt hs, h.Bq, h.bys.below hb⟩
theorem or_below {a b n : Nat} (ha : a < 2 ^ n) (hb : b < 2 ^ n) : a ||| b < 2 ^ n := Nat.or_lt_two_pow ha hb

set_option maxRecDepth 100000 in
set_option maxHeartbeats 6400000 in
theorem l02Square_any (B q n cap k : Nat) (A : Option Addr) (hk : k ≤ 1000) (w : World) (h : Src w B q A n cap k) (hB : B ≤ w.heap.size) :
    Calls Tryd.prog 75 #[.pointer (some ⟨q, 0, none⟩)] w fun e w' => ∃ (C : Nat) (L : List Nat) (v : Value), 1 ≤ C ∧ C ≤ 5 ∧ L.length = C ∧ (∀ r ∈ L, r < 2 ^ C) ∧ e = .returned (.agg #[.int .i64 C, v]) ∧ Res w' w.heap.size w'.heap.size v (ints L) ∧ Below B w w' := by
  obtain ⟨i0, hi, hz0, hz1, hz2⟩ := info_parts Tryd.infoI
  have hqz := h.lt
  have hBq := h.Bq
  have hb1 := below_alloc1 w (.cells #[.int .i64 0, .slice none 0 0] 50)
  have hS1 := h.next hb1 hB
  have HR1 := Lib.hid (MRoom.start w (.int .i64 0) (.slice none 0 0) 50)
  have HP := Lib.hid (pick_any B q n cap k A (by omega) 5 (by omega) (by omega) _ hS1)
  have HB1 := Lib.hid hb1
  clear h hS1 hb1
  go_enter Tryd.func75, Tryd.ntmps75
  go_wp2_with fail
  refine HP.out.mono ?_
  rintro e w2 ⟨x, k2, hx, hk2, rfl, hS2, hO2⟩
  obtain ⟨C, hC⟩ : ∃ C, 1 + x = C := ⟨_, rfl⟩
  have hC1 : 1 ≤ C := by omega
  have hC5 : C ≤ 5 := by omega
  have hCi : (1 : Int) + (x : Int) = (C : Int) := by omega
  obtain ⟨N, hN⟩ : ∃ N, 2 ^ C = N := ⟨_, rfl⟩
  have hN32 : N ≤ 32 := by rw [← hN]; exact Nat.pow_le_pow_right (n := 2) (by omega) hC5
  have hN1 : 1 ≤ N := by rw [← hN]; exact Nat.two_pow_pos C
  have hsh : (2 : Int) ^ C = (N : Int) := by rw [← hN]; simp
  have eu : (IntKind.u64.wrap (C : Int)).toNat = C := by rw [IntKind.wrap_u64]; omega
  have em : min C 64 = C := by omega
  have hz2 : w2.heap.size = w.heap.size + 1 := by rw [hO2.size]; simp
  have hR2 : MRoom w2 w.heap.size := HR1.out.at (hO2.block _ (by omega)) (Nat.le_of_eq hO2.size.symm)
  have hOB : OB (w2.alloc (.cells #[.int .i64 C, .slice none 0 0] 50)) w.heap.size w2.heap.size (w2.heap.size + 1) C 0 (.slice none 0 0) (ints []) :=
    ⟨by omega, by omega, by omega, by simp, by simp, by simp, hR2.below (below_alloc1 _ _), World.ownsRow_nil _ _ _ _, by simp⟩
  have HOB := Lib.hid hOB
  have HS3 := Lib.hid (hS2.next (below_alloc1 w2 (.cells #[.int .i64 C, .slice none 0 0] 50)) (by omega))
  have HB3 := Lib.hid ((HB1.out.mono hB).trans ((hO2.below (Below.refl _ _) hBq).trans ((below_alloc1 w2 (.cells #[.int .i64 C, .slice none 0 0] 50)).mono (by omega))))
  have HN := Lib.hid hN
  have hq2 : q < w2.heap.size := by omega
  have hlt2 : w.heap.size < w2.heap.size := by omega
  have HZ2 := Lib.hid hz2
  clear HP HB1 HR1 hS2 hO2 hR2 hOB hN hC hx hz2
  go_wp2_with fail
  go_loopw [5] (fun i wr => ∃ (j k' : Nat) (L : List Nat) (v : Value), j ≤ C ∧ i = .int .i64 j ∧ L.length = j ∧ (∀ r ∈ L, r < N) ∧ k' ≤ k2 + 3 * j ∧ OB wr w.heap.size w2.heap.size (w2.heap.size + 1) C j v (ints L) ∧ Src wr B q A n cap k' ∧ Below B w wr) (fun i _ => C - (intOf i).toNat)
  case atStart => exact ⟨0, k2, [], _, by omega, rfl, rfl, by simp, by omega, HOB.out, HS3.out, HB3.out⟩
  case round =>
    obtain ⟨j, k', L, v, hj, rfl, hLl, hLN, hk', hOr, hSr, hBr⟩ := hrel
    clear HOB HS3 HB3
    have HLN := Lib.hid hLN
    have HLL := Lib.hid hLl
    have HOr := Lib.hid hOr
    have HSr := Lib.hid hSr
    have HBr := Lib.hid hBr
    clear hLN hLl hOr hSr hBr
    by_cases hlt : j < C
    · have euj : (IntKind.u64.wrap (j : Int)).toNat = j := by rw [IntKind.wrap_u64]; omega
      have emj : min j 64 = j := by omega
      have hpj : 2 ^ j < N := by rw [← HN.out]; exact Nat.pow_lt_pow_right (by omega) hlt
      obtain ⟨M, hM⟩ : ∃ M, 2 ^ j = M := ⟨_, rfl⟩
      have hshj : (2 : Int) ^ j = (M : Int) := by rw [← hM]; simp
      rw [hM] at hpj
      clear hM
      have HP := Lib.hid (pick_any B q n cap k' A (by omega) N hN1 (by omega) _ HSr.out)
      go_wp2_with fail
      refine HP.out.mono ?_
      rintro e w4 ⟨x, k4, hx, hk4, rfl, hS4, hO4⟩
      have hor := i64_or_nat M x (by omega) (by omega)
      have hol : M ||| x < N := by rw [← HN.out] at hpj hx ⊢; exact Nat.or_lt_two_pow hpj hx
      obtain ⟨y, hy⟩ : ∃ y, M ||| x = y := ⟨_, rfl⟩
      rw [hy] at hor hol
      have HO4 := Lib.hid (HOr.out.only hO4 (by omega) (by omega) (by omega))
      have HB4 := Lib.hid (HBr.out.trans (hO4.below (Below.refl _ _) hBq))
      have H1 := Lib.hid (one_any B q n cap k4 A (by omega) 12 (by omega) (by omega) _ hS4)
      clear hS4 hO4 HOr HSr HBr HP hy hx
      go_wp2_with fail
      refine H1.out.mono ?_
      rintro e w5 ⟨b, k5, hk5, rfl, hS5, hO5⟩
      have HO5 := Lib.hid (HO4.out.only hO5 (by omega) (by omega) (by omega))
      have HB5 := Lib.hid (HB4.out.trans (hO5.below (Below.refl _ _) hBq))
      cases b with
      | true =>
        have HP6 := Lib.hid (pick_any B q n cap k5 A (by omega) N hN1 (by omega) _ hS5)
        clear hS5 hO5 HO4 HB4 H1
        go_wp2_with fail
        refine HP6.out.mono ?_
        rintro e w6 ⟨z, k6, hz, hk6, rfl, hS6, hO6⟩
        have HO6 := Lib.hid (HO5.out.only hO6 (by omega) (by omega) (by omega))
        have HB6 := Lib.hid (HB5.out.trans (hO6.below (Below.refl _ _) hBq))
        have HS6 := Lib.hid hS6
        clear hS6 hO6 HO5 HB5 HP6
        obtain ⟨ao, m, cp, rfl⟩ := HO6.out.form
        have a1 := HO6.out.a1
        have f1 := HO6.out.f1
        have hoz := HO6.out.z
        have hll := HO6.out.len
        go_wp2_with (at_builtin; refine wpList_append_own _ rfl _ _ 24 rfl (w2.heap.size + 1) 2 i0 (.int .i64 0) 1 8 Tryd.underlying24 hi hz0 hz1 hz2 rfl (by decide) _ _ _ rfl (HO6.out.own.alloc _) ⟨w6.heap.size, 0, none⟩ 1 1 [.int .i64 z] rfl rfl (one_new _ _ _) (one_one _ _) (by unfold maxLen; omega) (by omega) (by simp; omega) ?_; intro v' w8 hown' hgrow _; obtain ⟨⟨g, cp', rfl⟩, hb2⟩ := HO6.out.grown hown' hgrow; obtain ⟨hN, hK⟩ := HO6.out.step hb2 hown'; have t1 := (hb2.cell (p := ⟨w2.heap.size, 1, none⟩) (by simp)).trans a1; have t5 := (hb2.frozen (p := ⟨w2.heap.size, 1, none⟩) (by simp)).trans f1; have HN8 := Lib.hid hN; have HS8 := Lib.hid (HS6.out.at8 (hK.heap q (by omega) (by omega)) hK.size (hK.below B (by omega) (by omega))); have HB8 := Lib.hid (HB6.out.trans (hK.below B (by omega) (by omega))); clear hown' hgrow hb2 hN hK)
        go_roundw
        case rel => exact ⟨j + 1, k6, L ++ [z], _, by omega, by go_num, by simp [HLL.out], fun r hr => by
          rcases List.mem_append.1 hr with hr | hr
          · exact HLN.out r hr
          · simp at hr; subst hr; assumption, by omega, by simpa [ints] using HN8.out, HS8.out, HB8.out⟩
        case measure => simp [intOf]; omega
      | false =>
        have HS5 := Lib.hid hS5
        clear hS5 hO5 HO4 HB4 H1
        obtain ⟨ao, m, cp, rfl⟩ := HO5.out.form
        have a1 := HO5.out.a1
        have f1 := HO5.out.f1
        have hoz := HO5.out.z
        have hll := HO5.out.len
        go_wp2_with (at_builtin; refine wpList_append_own _ rfl _ _ 24 rfl (w2.heap.size + 1) 2 i0 (.int .i64 0) 1 8 Tryd.underlying24 hi hz0 hz1 hz2 rfl (by decide) _ _ _ rfl (HO5.out.own.alloc _) ⟨w5.heap.size, 0, none⟩ 1 1 [.int .i64 y] rfl rfl (one_new _ _ _) (one_one _ _) (by unfold maxLen; omega) (by omega) (by simp; omega) ?_; intro v' w8 hown' hgrow _; obtain ⟨⟨g, cp', rfl⟩, hb2⟩ := HO5.out.grown hown' hgrow; obtain ⟨hN, hK⟩ := HO5.out.step hb2 hown'; have t1 := (hb2.cell (p := ⟨w2.heap.size, 1, none⟩) (by simp)).trans a1; have t5 := (hb2.frozen (p := ⟨w2.heap.size, 1, none⟩) (by simp)).trans f1; have HN8 := Lib.hid hN; have HS8 := Lib.hid (HS5.out.at8 (hK.heap q (by omega) (by omega)) hK.size (hK.below B (by omega) (by omega))); have HB8 := Lib.hid (HB5.out.trans (hK.below B (by omega) (by omega))); clear hown' hgrow hb2 hN hK)
        go_roundw
        case rel => exact ⟨j + 1, k5, L ++ [y], _, by omega, by go_num, by simp [HLL.out], fun r hr => by
          rcases List.mem_append.1 hr with hr | hr
          · exact HLN.out r hr
          · simp at hr; subst hr; assumption, by omega, by simpa [ints] using HN8.out, HS8.out, HB8.out⟩
        case measure => simp [intOf]; omega
    · obtain rfl : j = C := by omega
      obtain ⟨ao, m, cp, rfl⟩ := HOr.out.form
      have a0 := HOr.out.a0; have a1 := HOr.out.a1
      obtain ⟨x, y, h0, h1⟩ := HOr.out.room.ex
      have f0 := HOr.out.room.f0; have f1 := HOr.out.room.f1
      go_wp2_with fail
      refine bodyPost_ret (v := .agg #[.int .i64 j, .slice ao m cp]) (mat_result (p := 2) (fn := Tryd.f75) rfl _ rfl (two_setCell _ _ _ _ h0 h1).1 (two_setCell _ _ _ _ h0 h1).2) rfl ⟨j, L, _, hC1, hC5, HLL.out, by rw [HN.out]; exact HLN.out, rfl, HOr.out.res (by omega) (by omega) _ _, ?_⟩
      exact (only2 _ _ _ _).below HBr.out hB

/-- The matrix of a call that has come back lies in a block of its own. -/
theorem SpR.new {W : World} {A : Option Addr} {n : Nat} {xs : List Int} (h : Rd W W.heap.size A n xs) (c : Int) (cap : Nat) (T : TypeId) : SpR (W.alloc (.cells #[.int .i64 c, .slice A n cap] T)) W.heap.size c A n cap xs :=
  ⟨⟨by simp, by simp, by simp⟩, h.below (below_alloc1 _ _)⟩

set_option maxRecDepth 100000 in
set_option maxHeartbeats 3200000 in
theorem a2Square_any (A : Option Addr) (n cap : Nat) (w : World) (h : Bys w w.heap.size A n) :
    Calls Tryd.prog 31 #[.slice A n cap] w fun e w' => ∃ (C : Nat) (L : List Nat) (v : Value), 1 ≤ C ∧ C ≤ 5 ∧ L.length = C ∧ (∀ r ∈ L, r < 2 ^ C) ∧ e = .returned (.agg #[.int .i64 C, v]) ∧ Res w' w.heap.size w'.heap.size v (ints L) ∧ Below w.heap.size w w' := by
  have hL := MRoom.start w (.int .i64 0) (.slice none 0 0) 50
  have hb1 := below_alloc1 w (.cells #[.int .i64 0, .slice none 0 0] 50)
  have hA := (h.below hb1).wide hb1.size
  have S := from_any A n cap _ hA
  simp only [World.size_alloc] at S
  have FR := Lib.hid S
  have HL := Lib.hid hL
  have HB1 := Lib.hid hb1
  have hz1 : w.heap.size + 1 ≤ (w.alloc (.cells #[.int .i64 0, .slice none 0 0] 50)).heap.size := by simp
  clear hL h S hA
  go_enter Tryd.func31, Tryd.ntmps31
  go_wp2_with fail
  refine FR.out.mono ?_
  rintro e w2 ⟨rfl, hS, hb2⟩
  have hL2 : MRoom w2 w.heap.size := HL.out.at (hb2.block _ (by omega)) (by have := hb2.size; simp; omega)
  have HB2 := Lib.hid (HB1.out.trans (hb2.mono (by omega)))
  have hz2 : w.heap.size + 1 ≤ w2.heap.size := by have := hb2.size; simp at this; omega
  clear HL HB1 hb1 hb2 FR hz1
  go_wp2_with fail
  refine (l02Square_any _ _ n cap 0 A (by omega) _ hS hz2).mono ?_
  rintro e w3 ⟨C, L, v, h1, h5, hl, hLt, rfl, hR, hb3⟩
  have hL3 : MRoom w3 w.heap.size := hL2.at (hb3.block _ (by omega)) hb3.size
  have HB3 := Lib.hid (HB2.out.trans (hb3.mono (by omega)))
  obtain ⟨x, y, m0, m1⟩ := hL3.ex
  have f0 := hL3.f0; have f1 := hL3.f1
  have hvf : ∃ ao m cp, v = .slice ao m cp := hR.form
  obtain ⟨ao, m, cp, rfl⟩ := hvf
  have HR := Lib.hid hR
  have HLt := Lib.hid hLt
  clear hL3 hL2 HB2 hb3 hS hR hLt
  go_wp2_with fail
  refine bodyPost_ret (v := .agg #[.int .i64 C, .slice ao m cp]) (mat_result (p := 2) (fn := Tryd.f31) rfl _ rfl (two_setCell _ _ _ _ m0 m1).1 (two_setCell _ _ _ _ m0 m1).2) rfl ⟨C, L, _, h1, h5, hl, HLt.out, rfl, HR.out.fin (q := w.heap.size) (by omega) (by omega) _ _, ?_⟩
  exact (only2 _ _ _ _).below HB3.out (Nat.le_refl _)
end Go.Proofs.YtilghmfffdmnjaaDoor
namespace Go.Proofs.YtilghmfffdmnjaaDoor
open Go.RowKit Go.Joins Go.ChangeShapes
set_option linter.unusedVariables false

/-- A matrix that is being drawn. -/
structure DM (w : World) (B q n cap : Nat) (A : Option Addr) (o C j : Nat) (v : Value) (L : List Nat) (k : Nat) (W : World) : Prop where
  ob : OB W w.heap.size o (o + 1) C j v (ints L)
  src : Src W B q A n cap k
  b : Below B w W
  qo : q < o
  wq : q ≠ w.heap.size
  Bo : B ≤ o
  Bw : B ≤ w.heap.size
theorem DM.pick {w : World} {B q n cap : Nat} {A : Option Addr} {o C j : Nat} {v : Value} {L : List Nat} {k k' : Nat} {W W' : World} (h : DM w B q n cap A o C j v L k W) (hS : Src W' B q A n cap k') (ho : Only q W W') : DM w B q n cap A o C j v L k' W' :=
  ⟨h.ob.only ho h.wq (Nat.ne_of_lt h.qo) (Nat.lt_succ_of_lt h.qo), hS, h.b.trans (ho.below (Below.refl _ _) hS.Bq), h.qo, h.wq, h.Bo, h.Bw⟩
theorem DM.drewN {w : World} {B q n cap : Nat} {A : Option Addr} {o C j : Nat} {v : Value} {L : List Nat} {k : Nat} {W : World} (h : DM w B q n cap A o C j v L k W) (m : Nat) : DM w B q n cap A o C j v L k (W.drewN m) :=
  ⟨h.ob.drewN m, h.src.drewN m, below_drewN h.b m, h.qo, h.wq, h.Bo, h.Bw⟩
theorem DM.len {w : World} {B q n cap : Nat} {A : Option Addr} {o C j : Nat} {v : Value} {L : List Nat} {k : Nat} {W : World} (h : DM w B q n cap A o C j v L k W) : L.length = j := by have := h.ob.len; rwa [ints_length] at this
theorem DM.push {w : World} {B q n cap : Nat} {A : Option Addr} {o C j : Nat} {v v' : Value} {L : List Nat} {k x : Nat} {W w8 : World} {O : Obj} (h : DM w B q n cap A o C j v L k W)
    (hown : w8.ownsRow (o + 1) 2 1 v' (j + 1) ((ints L).map (Value.int .i64) ++ [.int .i64 (x : Nat)])) (hg : (W.alloc O).grownBy w8 v.ownBlock) :
    ∃ g cp, v' = .slice (some ⟨g, 0, none⟩) (j + 1) cp ∧ w8.cell? ⟨o, 1, none⟩ = some v ∧ w8.frozen? ⟨o, 1, none⟩ = false ∧ DM w B q n cap A o C (j + 1) v' (L ++ [x]) k (w8.setCell ⟨o, 1, none⟩ v') := by
  obtain ⟨⟨g, cp', rfl⟩, hb2⟩ := h.ob.grown hown hg
  obtain ⟨hN, hK⟩ := h.ob.step hb2 hown
  refine ⟨g, cp', rfl, (hb2.cell (p := ⟨o, 1, none⟩) (Nat.lt_succ_self o)).trans h.ob.a1, (hb2.frozen (p := ⟨o, 1, none⟩) (Nat.lt_succ_self o)).trans h.ob.f1, ?_, ?_, ?_, h.qo, h.wq, h.Bo, h.Bw⟩
  · rw [ints_append]; exact hN
  · exact h.src.at8 (hK.heap q (Nat.lt_succ_of_lt h.qo) (Nat.ne_of_lt h.qo)) hK.size (hK.below B h.Bo (Nat.le_succ_of_le h.Bo))
  · exact h.b.trans (hK.below B h.Bo (Nat.le_succ_of_le h.Bo))
theorem OB.cell {W : World} {r o B g cp : Nat} {c : Int} {k : Nat} {L : List Nat} (h : OB W r o B c k (.slice (some ⟨g, 0, none⟩) k cp) (ints L)) (j : Nat) (hj : j < L.length) : W.cell? ⟨g, j, none⟩ = some (.int .i64 (nth L j : Nat)) := by
  have := h.own.cells rfl j (.int .i64 (nth L j : Nat)) (by simp [ints, nth, hj])
  rwa [addr_at] at this
theorem xor_below {C N a b : Nat} (hN : 2 ^ C = N) (ha : a < N) (hb : b < N) : a ^^^ b < N := by rw [← hN] at ha hb ⊢; exact Nat.xor_lt_two_pow ha hb
theorem nth_below {L : List Nat} {N j : Nat} (h : ∀ r ∈ L, r < N) (hj : j < L.length) : nth L j < N := h _ (nth_mem hj)

set_option maxRecDepth 100000 in
set_option maxHeartbeats 6400000 in
theorem l02Drawn_any (B q n cap k : Nat) (A : Option Addr) (hk : k ≤ 1000) (C : Nat) (hC1 : 1 ≤ C) (hC6 : C ≤ 6) (most : Nat) (hmost : most ≤ 10) (w : World) (h : Src w B q A n cap k) (hB : B ≤ w.heap.size) :
    Calls Tryd.prog 82 #[.pointer (some ⟨q, 0, none⟩), .int .i64 C, .int .i64 most] w fun e w' => ∃ (L : List Nat) (v : Value), L.length ≤ most ∧ (∀ r ∈ L, r < 2 ^ C) ∧ e = .returned (.agg #[.int .i64 C, v]) ∧ Res w' w.heap.size w'.heap.size v (ints L) ∧ Below B w w' := by
  obtain ⟨i0, hi, hz0, hz1, hz2⟩ := info_parts Tryd.infoI
  have hqz := h.lt
  have hBq := h.Bq
  have hX := Box.two w (.cells #[.int .i64 0, .slice none 0 0] 50) (.int .i64 C) (.slice none 0 0) 50
  have hb0 := below_alloc2 w (.cells #[.int .i64 0, .slice none 0 0] 50) (.cells #[.int .i64 C, .slice none 0 0] 50)
  obtain ⟨o, ho⟩ : ∃ o, w.heap.size + 1 = o := ⟨_, rfl⟩
  have hOB : OB ((w.alloc (.cells #[.int .i64 0, .slice none 0 0] 50)).alloc (.cells #[.int .i64 C, .slice none 0 0] 50)) w.heap.size (w.heap.size + 1) (w.heap.size + 1 + 1) C 0 (.slice none 0 0) (ints []) :=
    ⟨by omega, by omega, by omega, hX.c0, hX.c1, by simp [World.frozen?_alloc_at], (MRoom.start w _ _ _).below (below_alloc1 _ _), World.ownsRow_nil _ _ _ _, by simp⟩
  have hD0 : DM w B q n cap A (w.heap.size + 1) C 0 (.slice none 0 0) [] k ((w.alloc (.cells #[.int .i64 0, .slice none 0 0] 50)).alloc (.cells #[.int .i64 C, .slice none 0 0] 50)) :=
    ⟨hOB, h.next hb0 hB, hb0.mono hB, by omega, by omega, by omega, hB⟩
  have HP := Lib.hid (pick_any B q n cap k A (by omega) (most + 1) (by omega) (by omega) _ hD0.src)
  have HD0 := Lib.hid hD0
  obtain ⟨N, hN⟩ : ∃ N, 2 ^ C = N := ⟨_, rfl⟩
  have hN64 : N ≤ 64 := by rw [← hN]; exact Nat.pow_le_pow_right (n := 2) (by omega) hC6
  have hN1 : 1 ≤ N := by rw [← hN]; exact Nat.two_pow_pos C
  have hsh : (2 : Int) ^ C = (N : Int) := by rw [← hN]; simp
  have eu : (IntKind.u64.wrap (C : Int)).toNat = C := by rw [IntKind.wrap_u64]; omega
  have em : min C 64 = C := by omega
  have HN := Lib.hid hN
  clear hX hb0 hOB hD0 h hN ho o
  go_enter Tryd.func82, Tryd.ntmps82
  go_wp2_with fail
  refine HP.out.mono ?_
  rintro e w2 ⟨x, k2, hx, hk2, rfl, hS2, hO2⟩
  obtain ⟨o, ho⟩ : ∃ o, w.heap.size + 1 = o := ⟨_, rfl⟩
  have hD2 := HD0.out.pick hS2 hO2
  rw [ho] at hD2
  have HD2 := Lib.hid hD2
  clear hS2 hO2 HP HD0 hD2
  rw [ho]
  have HOO := Lib.hid ho
  have hwo : w.heap.size < o := by omega
  clear ho
  go_wp2_with fail
  go_loopw [8] (fun i wr => ∃ (t k' : Nat) (L : List Nat) (v : Value), t ≤ x ∧ i = .int .i64 ((x - t : Nat) : Int) ∧ k' ≤ k2 + 5 * t ∧ (∀ r ∈ L, r < N) ∧ DM w B q n cap A o C t v L k' wr) (fun i _ => (intOf i).toNat)
  case atStart => exact ⟨0, k2, [], _, by omega, rfl, by omega, by simp, HD2.out⟩
  case round =>
    obtain ⟨t, k', L, v, ht, rfl, hk', hLN, hDr⟩ := hrel
    clear HD2
    have HLN := Lib.hid hLN
    have HDr := Lib.hid hDr
    have HLL := Lib.hid hDr.len
    clear hLN hDr
    by_cases hlt : t < x
    · have hpos : (0 : Int) < ((x - t : Nat) : Int) := by omega
      have hsub : ((x - t : Nat) : Int) - 1 = ((x - (t + 1) : Nat) : Int) := by omega
      have HSUB := Lib.hid hsub
      obtain ⟨d, hd⟩ : ∃ d, x - t = d := ⟨_, rfl⟩
      rw [hd] at hpos hsub ⊢
      rw [hd] at HSUB
      have hdb : d ≤ 10 := by omega
      clear hd hsub
      have HP := Lib.hid (pick_any B q n cap k' A (by omega) N hN1 (by omega) _ HDr.out.src)
      go_wp2_with fail
      refine HP.out.mono ?_
      rintro e w4 ⟨y0, k4, hy0, hk4, rfl, hS4, hO4⟩
      have HD4 := Lib.hid (HDr.out.pick hS4 hO4)
      have H1 := Lib.hid (one_any B q n cap k4 A (by omega) 3 (by omega) (by omega) _ hS4)
      clear HDr HP hS4 hO4
      obtain ⟨ao0, m0, cp0, hv0⟩ := HD4.out.ob.form
      have hm0 : m0 = t := by
        rcases ownsRow_forms HD4.out.ob.own with ⟨h1, h2⟩ | ⟨g, cap, h1⟩
        · rw [h1] at hv0; injection hv0; omega
        · rw [h1] at hv0; injection hv0; omega
      subst hm0
      subst hv0
      go_wp2_with fail
      refine H1.out.mono ?_
      rintro e w5 ⟨b, k5, hk5, rfl, hS5, hO5⟩
      have HD5 := Lib.hid (HD4.out.pick hS5 hO5)
      clear hS5 hO5 HD4 H1
      have a1 := HD5.out.ob.a1
      cases b with
      | false =>
        have a1 := HD5.out.ob.a1
        have f1 := HD5.out.ob.f1
        have hoz := HD5.out.ob.z
        go_wp2_with (at_builtin; refine wpList_append_own _ rfl _ _ 24 rfl (o + 1) 2 i0 (.int .i64 0) 1 8 Tryd.underlying24 hi hz0 hz1 hz2 rfl (by decide) _ _ _ rfl (HD5.out.ob.own.alloc _) ⟨w5.heap.size, 0, none⟩ 1 1 [.int .i64 (y0 : Nat)] rfl rfl (one_new _ _ _) (one_one _ _) (by unfold maxLen; omega) (by omega) (by simp; omega) ?_; intro v' w8 hown' hgrow _; obtain ⟨g8, cp8, rfl, t1, t5, hD⟩ := HD5.out.push hown' hgrow; have HD8 := Lib.hid hD; clear hown' hgrow hD)
        go_roundw
        case rel => exact ⟨m0 + 1, k5, L ++ [y0], _, by omega, by rw [HSUB.out], by omega, fun r hr => by
          rcases List.mem_append.1 hr with hr | hr
          · exact HLN.out r hr
          · simp at hr; subst hr; exact hy0, HD8.out⟩
        case measure => simp [intOf]; omega
      | true =>
        by_cases hm : 0 < m0
        · have hmi : (0 : Int) < (m0 : Int) := by omega
          obtain ⟨g, cp, hvv⟩ := (ownsRow_forms HD5.out.ob.own).resolve_left (fun h => by have := h.2; omega)
          injection hvv with hv1 hv2 hv3
          subst hv1
          subst hv3
          obtain ⟨cp, hcp⟩ : ∃ c, c = cp0 := ⟨_, rfl⟩
          subst hcp
          have HP7 := Lib.hid (fun W hS => pick_any B q n cap k5 A (by omega) m0 (by omega) (by omega) W hS)
          have HD7 := Lib.hid (show DM w B q n cap A o C m0 (.slice (some ⟨g, 0, none⟩) m0 cp) L k5 w5.drew from HD5.out.drewN 1)
          go_wp2_with fail
          go_cut [9] (fun x wx => ∃ z kk : Nat, z < N ∧ kk ≤ k5 + 1 ∧ x = .int .i64 z ∧ DM w B q n cap A o C m0 (.slice (some ⟨g, 0, none⟩) m0 cp) L kk wx)
          case first =>
            go_region_law (go_simp; go_wp2_with (go_at_call 64; refine (HP7.out _ HD7.out.src).mono ?_; rintro e w7 ⟨y, k7, hy, hk7, rfl, hS7, hO7⟩; have hD7 := HD7.out.pick hS7 hO7; have b1 := hD7.ob.a1; have b2 := hD7.ob.cell y (by rw [HLL.out]; exact hy); have hyN := nth_below HLN.out (show y < L.length by rw [HLL.out]; exact hy); have hyi : (y : Int) < (m0 : Int) := (by omega); have hxn := i64_xor_nat y0 (nth L y) (by omega) (by omega); have HXN := Lib.hid (xor_below HN.out hy0 hyN); have HDN := Lib.hid hD7; clear hS7 hO7 hD7; generalize nth L y = yv at b2 hyN hxn HXN))
            all_goals
              go_wp2_with fail
              go_meet
              first
                | exact ⟨yv, k7, hyN, hk7, rfl, HDN.out⟩
                | exact ⟨y0 ^^^ yv, k7, HXN.out, hk7, by first | rfl | exact congrArg _ hxn, HDN.out⟩
          case rest =>
            obtain ⟨w6, rfl⟩ : ∃ x, x = wc := ⟨wc, rfl⟩
            obtain ⟨z1, k6, hNz1, hkz1, rfl, hDz1⟩ := hcut
            have Hz1 := Lib.hid hDz1
            clear hDz1 HP7 HD7 a1 HD5
            have H2 := Lib.hid (one_any B q n cap k6 A (by omega) 2 (by omega) (by omega) _ Hz1.out.src)
            go_wp2_with fail
            refine H2.out.mono ?_
            rintro e w7 ⟨b2, k7, hk7, rfl, hS7, hO7⟩
            have HD7 := Lib.hid (Hz1.out.pick hS7 hO7)
            clear hS7 hO7 Hz1 H2
            have a1 := HD7.out.ob.a1
            cases b2 with
            | false =>
              have a1 := HD7.out.ob.a1
              have f1 := HD7.out.ob.f1
              have hoz := HD7.out.ob.z
              go_wp2_with (at_builtin; refine wpList_append_own _ rfl _ _ 24 rfl (o + 1) 2 i0 (.int .i64 0) 1 8 Tryd.underlying24 hi hz0 hz1 hz2 rfl (by decide) _ _ _ rfl (HD7.out.ob.own.alloc _) ⟨w7.heap.size, 0, none⟩ 1 1 [.int .i64 (z1 : Nat)] rfl rfl (one_new _ _ _) (one_one _ _) (by unfold maxLen; omega) (by omega) (by simp; omega) ?_; intro v' w8 hown' hgrow _; obtain ⟨g8, cp8, rfl, t1, t5, hD⟩ := HD7.out.push hown' hgrow; have HD8 := Lib.hid hD; clear hown' hgrow hD)
              go_roundw
              case rel => exact ⟨m0 + 1, k7, L ++ [z1], _, by omega, by rw [HSUB.out], by omega, fun r hr => by
                rcases List.mem_append.1 hr with hr | hr
                · exact HLN.out r hr
                · simp at hr; subst hr; exact hNz1, HD8.out⟩
              case measure => simp [intOf]; omega
            | true =>
              have HP9 := Lib.hid (fun W hS => pick_any B q n cap k7 A (by omega) m0 (by omega) (by omega) W hS)
              have HD9 := Lib.hid (show DM w B q n cap A o C m0 (.slice (some ⟨g, 0, none⟩) m0 cp) L k7 w7.drew from HD7.out.drewN 1)
              go_wp2_with fail
              go_cut [9] (fun x wx => ∃ z kk : Nat, z < N ∧ kk ≤ k7 + 1 ∧ x = .int .i64 z ∧ DM w B q n cap A o C m0 (.slice (some ⟨g, 0, none⟩) m0 cp) L kk wx)
              case first =>
                go_region_law (go_simp; go_wp2_with (go_at_call 64; refine (HP9.out _ HD9.out.src).mono ?_; rintro e w7 ⟨y, k7, hy, hk7, rfl, hS7, hO7⟩; have hD7 := HD9.out.pick hS7 hO7; have b1 := hD7.ob.a1; have b2 := hD7.ob.cell y (by rw [HLL.out]; exact hy); have hyN := nth_below HLN.out (show y < L.length by rw [HLL.out]; exact hy); have hyi : (y : Int) < (m0 : Int) := (by omega); have hxn := i64_xor_nat z1 (nth L y) (by omega) (by omega); have HXN := Lib.hid (xor_below HN.out hNz1 hyN); have HDN := Lib.hid hD7; clear hS7 hO7 hD7; generalize nth L y = yv at b2 hyN hxn HXN))
                all_goals
                  go_wp2_with fail
                  go_meet
                  first
                    | exact ⟨yv, k7, hyN, hk7, rfl, HDN.out⟩
                    | exact ⟨z1 ^^^ yv, k7, HXN.out, hk7, by first | rfl | exact congrArg _ hxn, HDN.out⟩
              case rest =>
                obtain ⟨w8, rfl⟩ : ∃ x, x = wc := ⟨wc, rfl⟩
                obtain ⟨z2, k8, hNz2, hkz2, rfl, hDz2⟩ := hcut
                have Hz2 := Lib.hid hDz2
                clear hDz2 HP9 HD9 HD7 a1
                have a1 := Hz2.out.ob.a1
                have f1 := Hz2.out.ob.f1
                have hoz := Hz2.out.ob.z
                go_wp2_with (at_builtin; refine wpList_append_own _ rfl _ _ 24 rfl (o + 1) 2 i0 (.int .i64 0) 1 8 Tryd.underlying24 hi hz0 hz1 hz2 rfl (by decide) _ _ _ rfl (Hz2.out.ob.own.alloc _) ⟨w8.heap.size, 0, none⟩ 1 1 [.int .i64 (z2 : Nat)] rfl rfl (one_new _ _ _) (one_one _ _) (by unfold maxLen; omega) (by omega) (by simp; omega) ?_; intro v' w8 hown' hgrow _; obtain ⟨g8, cp8, rfl, t1, t5, hD⟩ := Hz2.out.push hown' hgrow; have HD8 := Lib.hid hD; clear hown' hgrow hD)
                go_roundw
                case rel => exact ⟨m0 + 1, k8, L ++ [z2], _, by omega, by rw [HSUB.out], by omega, fun r hr => by
                  rcases List.mem_append.1 hr with hr | hr
                  · exact HLN.out r hr
                  · simp at hr; subst hr; exact hNz2, HD8.out⟩
                case measure => simp [intOf]; omega
        · have hmi : ¬ (0 : Int) < (m0 : Int) := by omega
          have a1 := HD5.out.ob.a1
          have f1 := HD5.out.ob.f1
          have hoz := HD5.out.ob.z
          go_wp2_with (at_builtin; refine wpList_append_own _ rfl _ _ 24 rfl (o + 1) 2 i0 (.int .i64 0) 1 8 Tryd.underlying24 hi hz0 hz1 hz2 rfl (by decide) _ _ _ rfl (HD5.out.ob.own.alloc _) ⟨w5.heap.size, 0, none⟩ 1 1 [.int .i64 (y0 : Nat)] rfl rfl (one_new _ _ _) (one_one _ _) (by unfold maxLen; omega) (by omega) (by simp; omega) ?_; intro v' w8 hown' hgrow _; obtain ⟨g8, cp8, rfl, t1, t5, hD⟩ := HD5.out.push hown' hgrow; have HD8 := Lib.hid hD; clear hown' hgrow hD)
          go_roundw
          case rel => exact ⟨m0 + 1, k5, L ++ [y0], _, by omega, by rw [HSUB.out], by omega, fun r hr => by
            rcases List.mem_append.1 hr with hr | hr
            · exact HLN.out r hr
            · simp at hr; subst hr; exact hy0, HD8.out⟩
          case measure => simp [intOf]; omega
    · obtain rfl : x = t := by omega
      obtain ⟨ao, m, cp, rfl⟩ := HDr.out.ob.form
      have a0 := HDr.out.ob.a0; have a1 := HDr.out.ob.a1
      obtain ⟨x1, y1, h0, h1⟩ := HDr.out.ob.room.ex
      have f0 := HDr.out.ob.room.f0; have f1 := HDr.out.ob.room.f1
      have hz : ¬ (0 : Int) < ((x - x : Nat) : Int) := by omega
      have hz' : ((x - x : Nat) : Int) = 0 := by omega
      rw [hz']
      clear hz hz'
      go_wp2_with fail
      refine bodyPost_ret (v := .agg #[.int .i64 C, .slice ao m cp]) (mat_result (p := 6) (fn := Tryd.f82) rfl _ rfl (two_setCell _ _ _ _ h0 h1).1 (two_setCell _ _ _ _ h0 h1).2) rfl ⟨L, _, by have := HLL.out; omega, by rw [HN.out]; exact HLN.out, rfl, HDr.out.ob.res (by omega) (by omega) _ _, ?_⟩
      exact (only2 _ _ _ _).below HDr.out.b hB

set_option maxRecDepth 100000 in
set_option maxHeartbeats 3200000 in
theorem a2Matrix_any (A : Option Addr) (n cap : Nat) (C : Nat) (hC1 : 1 ≤ C) (hC6 : C ≤ 6) (most : Nat) (hmost : most ≤ 10) (w : World) (h : Bys w w.heap.size A n) :
    Calls Tryd.prog 36 #[.slice A n cap, .int .i64 C, .int .i64 most] w fun e w' => ∃ (L : List Nat) (v : Value), L.length ≤ most ∧ (∀ r ∈ L, r < 2 ^ C) ∧ e = .returned (.agg #[.int .i64 C, v]) ∧ Res w' w.heap.size w'.heap.size v (ints L) ∧ Below w.heap.size w w' := by
  have hL := MRoom.start w (.int .i64 0) (.slice none 0 0) 50
  have hb1 := below_alloc1 w (.cells #[.int .i64 0, .slice none 0 0] 50)
  have hA := (h.below hb1).wide hb1.size
  have S := from_any A n cap _ hA
  simp only [World.size_alloc] at S
  have FR := Lib.hid S
  have HL := Lib.hid hL
  have HB1 := Lib.hid hb1
  have hz1 : w.heap.size + 1 ≤ (w.alloc (.cells #[.int .i64 0, .slice none 0 0] 50)).heap.size := by simp
  clear hL h S hA
  go_enter Tryd.func36, Tryd.ntmps36
  go_wp2_with fail
  refine FR.out.mono ?_
  rintro e w2 ⟨rfl, hS, hb2⟩
  have hL2 : MRoom w2 w.heap.size := HL.out.at (hb2.block _ (by omega)) (by have := hb2.size; simp; omega)
  have HB2 := Lib.hid (HB1.out.trans (hb2.mono (by omega)))
  have hz2 : w.heap.size + 1 ≤ w2.heap.size := by have := hb2.size; simp at this; omega
  clear HL HB1 hb1 hb2 FR hz1
  go_wp2_with fail
  refine (l02Drawn_any _ _ n cap 0 A (by omega) C hC1 hC6 most hmost _ hS hz2).mono ?_
  rintro e w3 ⟨L, v, hl, hLt, rfl, hR, hb3⟩
  have hL3 : MRoom w3 w.heap.size := hL2.at (hb3.block _ (by omega)) hb3.size
  have HB3 := Lib.hid (HB2.out.trans (hb3.mono (by omega)))
  obtain ⟨x, y, m0, m1⟩ := hL3.ex
  have f0 := hL3.f0; have f1 := hL3.f1
  obtain ⟨ao, m, cp, rfl⟩ := hR.form
  have HR := Lib.hid hR
  have HLt := Lib.hid hLt
  clear hL3 hL2 HB2 hb3 hS hR hLt
  go_wp2_with fail
  refine bodyPost_ret (v := .agg #[.int .i64 C, .slice ao m cp]) (mat_result (p := 6) (fn := Tryd.f36) rfl _ rfl (two_setCell _ _ _ _ m0 m1).1 (two_setCell _ _ _ _ m0 m1).2) rfl ⟨L, _, hl, HLt.out, rfl, HR.out.fin (q := w.heap.size) (by omega) (by omega) _ _, ?_⟩
  exact (only2 _ _ _ _).below HB3.out (Nat.le_refl _)

set_option maxRecDepth 100000 in
set_option maxHeartbeats 3200000 in
theorem a2Space_any (A : Option Addr) (n cap : Nat) (C : Nat) (hC1 : 1 ≤ C) (hC6 : C ≤ 6) (w : World) (h : Bys w w.heap.size A n) :
    Calls Tryd.prog 46 #[.slice A n cap, .int .i64 C] w fun e w' => ∃ (L : List Nat) (v : Value), joined [] L = L ∧ (∀ r ∈ L, r < 2 ^ C) ∧ e = .returned (.agg #[.int .i64 C, v]) ∧ Res w' w.heap.size w'.heap.size v (ints L) ∧ Below w.heap.size w w' := by
  have hL := MRoom.start w (.int .i64 0) (.slice none 0 0) 50
  have hb1 := below_alloc1 w (.cells #[.int .i64 0, .slice none 0 0] 50)
  have hA := (h.below hb1).wide hb1.size
  have S := from_any A n cap _ hA
  simp only [World.size_alloc] at S
  have FR := Lib.hid S
  have HL := Lib.hid hL
  have HB1 := Lib.hid hb1
  have hz1 : w.heap.size + 1 ≤ (w.alloc (.cells #[.int .i64 0, .slice none 0 0] 50)).heap.size := by simp
  clear hL h S hA
  go_enter Tryd.func46, Tryd.ntmps46
  go_wp2_with fail
  refine FR.out.mono ?_
  rintro e w2 ⟨rfl, hS, hb2⟩
  have hL2 : MRoom w2 w.heap.size := HL.out.at (hb2.block _ (by omega)) (by have := hb2.size; simp; omega)
  have HB2 := Lib.hid (HB1.out.trans (hb2.mono (by omega)))
  have hz2 : w.heap.size + 1 ≤ w2.heap.size := by have := hb2.size; simp at this; omega
  clear HL HB1 hb1 hb2 FR hz1
  go_wp2_with fail
  refine (l02Drawn_any _ _ n cap 0 A (by omega) C hC1 hC6 4 (by omega) _ hS hz2).mono ?_
  rintro e w3 ⟨L, v, hl, hLt, rfl, hR, hb3⟩
  obtain ⟨ao, m, cp, rfl, hRd⟩ := hR.rd
  have hL3 : MRoom w3 w.heap.size := hL2.at (hb3.block _ (by omega)) hb3.size
  have hba := below_alloc1 w3 (.cells #[.int .i64 C, .slice ao m cp] 50)
  have hL4 := hL3.below hba
  have HB3 := Lib.hid ((HB2.out.trans (hb3.mono (by omega))).trans (hba.mono (by have := hb3.size; omega)))
  have hz3 := hb3.size
  have c1 := (SpR.new hRd (C : Int) cp 50).m.c1
  have hml := hRd.len
  rw [ints_length] at hml
  have E := l02Echelon_anyR C ao m cp L (by omega) hLt (by omega) _ (hRd.below hba)
  rw [cols_eq hLt] at E
  have HE := Lib.hid E
  have HLt := Lib.hid hLt
  have HML := Lib.hid hml
  clear hL3 hL2 HB2 hb3 hS hR hLt hRd hba E hml
  go_wp2_with fail
  refine HE.out.mono ?_
  rintro e w5 ⟨g, cp5, rfl, hb5, hO5⟩
  have hL5 := hL4.below hb5
  have HB5 := Lib.hid (HB3.out.trans (hb5.mono (by simp; omega)))
  obtain ⟨x, y, m0, m1⟩ := hL5.ex
  have f0 := hL5.f0; have f1 := hL5.f1
  have hj := joined_len (show C ≤ 10 by omega) HLt.out
  have HR5 := Lib.hid (OR.res hO5 (by omega) (Nat.le_refl _))
  have hzg : w.heap.size < (w3.alloc (.cells #[.int .i64 C, .slice ao m cp] 50)).heap.size := by simp; omega
  clear hL4 hL5 hb5 hO5 HB3 HE c1
  obtain ⟨J, hJ⟩ : ∃ J, joined [] L = J := ⟨_, rfl⟩
  have HJ := Lib.hid (show joined [] J = J ∧ ∀ r ∈ J, r < 2 ^ C by
    rw [← hJ]
    exact ⟨Ech.unique (joined_nil _).1 (joined_nil L).1 (joined_nil _).2, joined_lt' HLt.out⟩)
  rw [hJ] at HR5 hj ⊢
  clear hJ
  obtain ⟨jl, hjl⟩ : ∃ jl, J.length = jl := ⟨_, rfl⟩
  rw [hjl] at HR5 hj ⊢
  clear hjl
  go_wp2_with fail
  refine bodyPost_ret (v := .agg #[.int .i64 C, .slice (some ⟨g, 0, none⟩) jl cp5]) (mat_result (p := 4) (fn := Tryd.f46) rfl _ rfl (two_setCell _ _ _ _ m0 m1).1 (two_setCell _ _ _ _ m0 m1).2) rfl ⟨J, _, HJ.out.1, HJ.out.2, rfl, HR5.out.fin (q := w.heap.size) hzg (by simp; omega) _ _, ?_⟩
  exact (only2 _ _ _ _).below HB5.out (Nat.le_refl _)

theorem Bys.list {W : World} {B n : Nat} {A : Option Addr} (h : Bys W B A n) : ∃ L : List Nat, L.length = n ∧ (∀ x ∈ L, x < 256) ∧ (0 < n → ∃ a : Addr, A = some a ∧ a.block < B ∧ ∀ j u, (L.map fun (b : Nat) => Value.int .u8 (b : Int))[j]? = some u → W.cell? (a.add j) = some u) := by
  by_cases h0 : 0 < n
  · obtain ⟨a, rfl, hlt, hc⟩ := h.cell h0
    have build : ∀ m, m ≤ n → ∃ L : List Nat, L.length = m ∧ (∀ x ∈ L, x < 256) ∧ ∀ j, j < m → W.cell? (a.add j) = some (.int .u8 (L.getD j 0 : Nat)) := by
      intro m
      induction m with
      | zero => intro _; exact ⟨[], rfl, by simp, fun j hj => by omega⟩
      | succ m ih =>
        intro hm
        obtain ⟨L, hl, hx, hL⟩ := ih (by omega)
        obtain ⟨b, hb, hcb⟩ := hc m (by omega)
        refine ⟨L ++ [b], by simp [hl], fun x hx' => by
          rcases List.mem_append.1 hx' with h | h
          · exact hx x h
          · simp at h; omega, fun j hj => ?_⟩
        by_cases e : j = m
        · subst e; rw [hcb]; simp [List.getD_eq_getElem?_getD, ← hl]
        · rw [hL j (by omega)]; simp [List.getD_eq_getElem?_getD, List.getElem?_append, hl, show j < m by omega]
    obtain ⟨L, hl, hx, hL⟩ := build n (Nat.le_refl _)
    refine ⟨L, hl, hx, fun _ => ⟨a, rfl, hlt, fun j u hu => ?_⟩⟩
    have hj : j < n := by have := (List.getElem?_eq_some_iff.1 hu).1; simpa [hl] using this
    rw [hL j hj, ← hu]
    simp [List.getD_eq_getElem?_getD, show j < L.length by omega]
  · exact ⟨[], by simp; omega, by simp, fun h => absurd h h0⟩
theorem Tryd.infoB : (Tryd.prog.info? 5).map (fun i => (i.zero, i.size, i.bytes)) = some (some (.int .u8 0), 1, 1) := by kernel_rfl
theorem Bys.of_own {W : World} {B g cap n : Nat} {L : List Nat} (hn : n ≤ 9223372036854775807) (h : W.ownsRow B 5 1 (.slice (some ⟨g, 0, none⟩) n cap) n (L.map fun (b : Nat) => Value.int .u8 (b : Int))) (hL : ∀ x ∈ L, x < 256) : Bys W W.heap.size (some ⟨g, 0, none⟩) n := by
  refine ⟨hn, fun h0 => ⟨⟨g, 0, none⟩, rfl, (h.lt g rfl).2, fun j hj => ?_⟩⟩
  have hl : L.length = n := by have := h.1; simpa using this
  refine ⟨nth L j, hL _ (nth_mem (by omega)), ?_⟩
  exact h.cells rfl j _ (by simp [nth, show j < L.length by omega])
theorem Bys.of_app {W : World} {B n : Nat} {v : Value} {L : List Nat} (hn : n ≤ 3000) (hL : ∀ x ∈ L, x < 256) (h : W.ownsRow B 5 1 v (1 + n) ([.int .u8 3] ++ L.map fun (b : Nat) => Value.int .u8 (b : Int))) :
    ∃ g c, v = .slice (some ⟨g, 0, none⟩) (1 + n) c ∧ Bys W W.heap.size (some ⟨g, 0, none⟩) (1 + n) := by
  obtain ⟨g, c, rfl⟩ := (ownsRow_forms h).resolve_left (fun h => by have := h.2; omega)
  exact ⟨g, c, rfl, Bys.of_own (L := 3 :: L) (by omega) h (by
    intro x hx
    rcases List.mem_cons.1 hx with rfl | hx
    · omega
    · exact hL x hx)⟩

/-- A matrix of the law's own whose rows are appended one by one: at the block o, its rows from B on. -/
structure AB (W : World) (o B : Nat) (c : Int) (k : Nat) (v : Value) (L : List Nat) : Prop where
  oB : o < B
  a0 : W.cell? ⟨o, 0, none⟩ = some (.int .i64 c)
  a1 : W.cell? ⟨o, 1, none⟩ = some v
  f1 : W.frozen? ⟨o, 1, none⟩ = false
  own : W.ownsRow B 2 1 v k ((ints L).map (Value.int .i64))
  z : B ≤ W.heap.size
theorem AB.start (W : World) (c : Int) (T : TypeId) : AB (W.alloc (.cells #[.int .i64 c, .slice none 0 0] T)) W.heap.size (W.heap.size + 1) c 0 (.slice none 0 0) [] :=
  ⟨Nat.lt_succ_self _, by simp, by simp, by simp, World.ownsRow_nil _ _ _ _, by simp⟩
theorem AB.drewN {W : World} {o B : Nat} {c : Int} {k : Nat} {v : Value} {L : List Nat} (h : AB W o B c k v L) (m : Nat) : AB (W.drewN m) o B c k v L := ⟨h.oB, h.a0, h.a1, h.f1, h.own, h.z⟩
theorem AB.len {W : World} {o B : Nat} {c : Int} {k : Nat} {v : Value} {L : List Nat} (h : AB W o B c k v L) : L.length = k := by have := h.own.1; simpa [ints] using this
theorem AB.form {W : World} {o B : Nat} {c : Int} {k : Nat} {v : Value} {L : List Nat} (h : AB W o B c k v L) : ∃ ao m cap, v = .slice ao m cap := by
  rcases ownsRow_forms h.own with ⟨rfl, _⟩ | ⟨g, cap, rfl⟩
  · exact ⟨_, _, _, rfl⟩
  · exact ⟨_, _, _, rfl⟩
theorem AB.push {W w8 : World} {o B : Nat} {c : Int} {k x : Nat} {v v' : Value} {L : List Nat} {O : Obj} (h : AB W o B c k v L)
    (hown : w8.ownsRow B 2 1 v' (k + 1) ((ints L).map (Value.int .i64) ++ [.int .i64 (x : Nat)])) (hg : (W.alloc O).grownBy w8 v.ownBlock) :
    ∃ g cp, v' = .slice (some ⟨g, 0, none⟩) (k + 1) cp ∧ w8.cell? ⟨o, 1, none⟩ = some v ∧ w8.frozen? ⟨o, 1, none⟩ = false ∧ AB (w8.setCell ⟨o, 1, none⟩ v') o B c (k + 1) v' (L ++ [x]) ∧ Below o W (w8.setCell ⟨o, 1, none⟩ v') := by
  obtain ⟨g, cp, rfl⟩ := (ownsRow_forms hown).resolve_left (fun h => by have := h.2; omega)
  have hb : Below B W w8 := ((Below.refl _ W).alloc h.z _).grown hg (by have := h.z; simp; omega) (fun g hg => (h.own.lt g hg).1)
  refine ⟨g, cp, rfl, (hb.cell (p := ⟨o, 1, none⟩) h.oB).trans h.a1, (hb.frozen (p := ⟨o, 1, none⟩) h.oB).trans h.f1, ⟨h.oB, ?_, ?_, ?_, ?_, ?_⟩, (hb.mono (Nat.le_of_lt h.oB)).setCell (p := ⟨o, 1, none⟩) (Nat.le_refl _) _⟩
  · rw [World.cell?_setCell_other _ ⟨o, 1, none⟩ ⟨o, 0, none⟩ _ (by simp), hb.cell (p := ⟨o, 0, none⟩) h.oB]; exact h.a0
  · exact World.cell?_setCell_same' _ _ _ (by rw [hb.cell (p := ⟨o, 1, none⟩) h.oB, h.a1]; rfl)
  · rw [World.frozen?_setCell, hb.frozen (p := ⟨o, 1, none⟩) h.oB]; exact h.f1
  · rw [ints_append, List.map_append]; exact ownsRow_setCell_below hown h.oB _
  · exact Nat.le_trans h.z (Nat.le_trans hb.size (Nat.le_of_eq (Array.size_modify ..).symm))
theorem AB.sp {W : World} {o B : Nat} {c : Int} {k : Nat} {v : Value} {L : List Nat} (h : AB W o B c k v L) (hk : k ≤ 1048576) : ∃ A n cap, v = .slice A n cap ∧ SpR W o c A n cap (ints L) := by
  obtain ⟨A, n, cap, rfl, hR⟩ := (own_res h.own hk (Nat.le_refl B)).rd
  exact ⟨A, n, cap, rfl, ⟨h.a0, h.a1, Nat.lt_of_lt_of_le h.oB h.z⟩, hR⟩
/-- A matrix that lies below D. -/
structure HB (W : World) (D q : Nat) (c : Int) (A : Option Addr) (n cap : Nat) (xs : List Int) : Prop where
  m : MR W q c A n cap
  r : Rd W D A n xs
  q : q < D
  z : D ≤ W.heap.size
theorem HB.keep {W W' : World} {D q : Nat} {c : Int} {A : Option Addr} {n cap : Nat} {xs : List Int} (h : HB W D q c A n cap xs) (hb : Below D W W') : HB W' D q c A n cap xs :=
  ⟨⟨(hb.cell (p := ⟨q, 0, none⟩) h.q).trans h.m.c0, (hb.cell (p := ⟨q, 1, none⟩) h.q).trans h.m.c1, Nat.lt_of_lt_of_le h.m.lt hb.size⟩, h.r.keep (Nat.le_refl _) hb, h.q, Nat.le_trans h.z hb.size⟩
theorem HB.sp {W : World} {D q : Nat} {c : Int} {A : Option Addr} {n cap : Nat} {xs : List Int} (h : HB W D q c A n cap xs) : SpR W q c A n cap xs := ⟨h.m, h.r.wide h.z⟩
theorem SpR.hb {W : World} {q : Nat} {c : Int} {A : Option Addr} {n cap : Nat} {xs : List Int} (h : SpR W q c A n cap xs) : HB W W.heap.size q c A n cap xs := ⟨h.m, h.r, h.m.lt, Nat.le_refl _⟩
end Go.Proofs.YtilghmfffdmnjaaDoor
