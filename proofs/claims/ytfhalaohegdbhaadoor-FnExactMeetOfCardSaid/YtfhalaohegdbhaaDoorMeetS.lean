/- The meet of two spaces: the model's. -/
import Derived.Test.YtfhalaohegdbhaaDoorDistance
import Derived.Test.YtfhalaohegdbhaaDoorKernelOf
import Derived.Test.YtfhalaohegdbhaaDoorCut
namespace Go.Proofs.YtfhalaohegdbhaaDoor
open Go.RowKit Go.Joins
set_option linter.unusedVariables false

/-- The rows whose products with all that either of them has it with are 0. -/
def meet (c : Nat) (L M : List Nat) : List Nat := kernel c (joined (kernel c L) (kernel c M))
theorem kernel_own (c : Nat) (L : List Nat) : joined [] (kernel c L) = kernel c L := by
  have h := joined_spec (kernel c L) Ech.nil
  exact Ech.unique h.1 (kernel_ech c L) (fun x => by rw [h.2]; exact Iff.rfl)
theorem meet_spec (c : Nat) (L M : List Nat) : kernel c (joined [] (kernel c L ++ kernel c M)) = meet c L M := by
  rw [joined_append, kernel_own]; rfl

set_option maxRecDepth 100000 in
set_option maxHeartbeats 6400000 in
theorem l02Kernel_or (C b n cap : Nat) (L : List Nat) (hC : C ≤ 10) (hL : ∀ r ∈ L, r < 2 ^ C) (hn : n ≤ 1024) (w : World) (hM : Mt w b n (ints L)) :
    Calls Tryd.prog 59 #[.int .i64 C, .slice (some ⟨b, 0, none⟩) n cap] w fun e w' => ∃ g cp, e = .returned (.agg #[.int .i64 C, .slice (some ⟨g, 0, none⟩) (kernel C L).length cp]) ∧ Below w.heap.size w w' ∧ OR w' w.heap.size 2 g cp (kernel C L) := by
  obtain ⟨i0, hi, hz0, hz1, hz2⟩ := info_parts Tryd.infoI
  have hll := hM.len
  rw [ints_length] at hll
  have hbl := hM.lt
  have HLL := Lib.hid hll
  clear hll
  have hP10 : (2 : Nat) ^ C ≤ 1024 := pow_le10 hC
  have hgL : ∀ j, nth L j < 1024 := fun j => Nat.lt_of_lt_of_le (nth_bound hL j) hP10
  rw [← kernel_eq hL]
  have E := fun g n cap w hn hM => l02Echelon_any C g n cap (anni C L) hC (fun r hr => (anni_mem.1 hr).1) hn w hM
  have hJ : ((cols (anni C L) C).2).length ≤ 10 := by
    rw [cols_eq (fun r hr => (anni_mem.1 hr).1)]; exact joined_len hC (fun r hr => (anni_mem.1 hr).1)
  obtain ⟨J, hJ0⟩ : ∃ J, (cols (anni C L) C).2 = J := ⟨_, rfl⟩
  rw [hJ0] at E hJ ⊢
  rw [anni_def] at E
  obtain ⟨P, hP⟩ : ∃ P : Nat, 2 ^ C = P := ⟨_, rfl⟩
  rw [hP] at E hP10
  have hPi : (2 : Int) ^ C = P := by rw [← int_pow, hP]
  clear hP
  have EE := Lib.hid E
  clear E hJ0 hL
  have hR0 := (MRoom.start w (.int .i64 0) (.slice none 0 0) 28).below (below_alloc1 _ (.cells #[] 2))
  have hO0 : OR ((w.alloc (.cells #[.int .i64 0, .slice none 0 0] 28)).alloc (.cells #[] 2)) (w.heap.size + 1) 2 (w.heap.size + 1) 0 [] := by
    have := OR.start (W := w.alloc (.cells #[.int .i64 0, .slice none 0 0] 28))
    simpa using this
  have hb0 := below_alloc2 w (.cells #[.int .i64 0, .slice none 0 0] 28) (.cells #[] 2)
  have HR0 := Lib.hid hR0
  have HO0 := Lib.hid hO0
  have HB0 := Lib.hid hb0
  clear hR0 hO0 hb0
  go_enter Tryd.func59, Tryd.ntmps59
  go_wp2_with fail
  go_loopw [5, 6] (fun a i wr => ∃ x g cp : Nat, x ≤ P ∧ i = .int .i64 x ∧ a = .slice (some ⟨g, 0, none⟩) (anniTo L x).length cp ∧ OR wr (w.heap.size + 1) 2 g cp (anniTo L x) ∧ MRoom wr w.heap.size ∧ Below w.heap.size w wr) (fun _ i _ => P - (intOf i).toNat)
  case atStart => exact ⟨0, _, _, Nat.zero_le _, rfl, rfl, HO0.out, HR0.out, HB0.out⟩
  case round =>
    obtain ⟨x, g, cp, hx, rfl, rfl, hO, hR, hb⟩ := hrel
    clear HR0 HO0 HB0
    have hal := anniTo_len L x
    by_cases hxP : x < P
    · have hMr := hM.below hb
      have HO := Lib.hid hO
      have HR := Lib.hid hR
      have HB := Lib.hid hb
      have HMR := Lib.hid hMr
      have hrz := hR.lt
      clear hO hR hb hMr
      obtain ⟨m, hm⟩ : ∃ m, (anniTo L x).length = m := ⟨_, rfl⟩
      rw [hm] at hal ⊢
      have HMM := Lib.hid hm
      clear hm
      go_wp2_with fail
      go_loop [7, 8] (fun r i => ∃ j : Nat, j ≤ n ∧ i = .int .i64 j ∧ r = .bool ((L.take j).all (fun r => !prd r x))) (fun _ i => n - (intOf i).toNat)
      case atStart => exact ⟨0, Nat.zero_le _, rfl, rfl⟩
      case round =>
        obtain ⟨j, hj, rfl, rfl⟩ := hrel
        have hfal := allTo_false (L := L) (x := x) (j := j)
        have hsuc : j < n → (L.take (j + 1)).all (fun r => !prd r x) = ((L.take j).all (fun r => !prd r x) && !prd (nth L j) x) := fun h => allTo_succ (by have := HLL.out; omega)
        have hall : j = n → L.all (fun r => !prd r x) = (L.take j).all (fun r => !prd r x) := fun h => by rw [h, ← HLL.out, List.take_length]
        obtain ⟨t, ht⟩ : ∃ t, (L.take j).all (fun r => !prd r x) = t := ⟨_, rfl⟩
        rw [ht] at hfal hsuc hall ⊢
        clear ht
        cases t with
        | false =>
          have HNO := Lib.hid (hfal rfl)
          clear hfal hsuc hall
          have hcase : j < n ∨ ¬ j < n := by omega
          rcases hcase with hlj | hlj
          all_goals
            go_wp2_with fail
            go_roundw
            case rel => exact ⟨x + 1, g, cp, by omega, by go_num, by rw [anniTo_no HNO.out, HMM.out], by rw [anniTo_no HNO.out]; exact HO.out, HR.out, HB.out⟩
            case measure => simp [intOf]; omega
        | true =>
          by_cases hlj : j < n
          · have hrow := HMR.out.cell j hlj
            rw [ints_get] at hrow
            have hgj := hgL j
            have hs := hsuc hlj
            obtain ⟨s, hss⟩ : ∃ s, nth L j = s := ⟨_, rfl⟩
            rw [hss] at hrow hgj hs
            clear hfal hsuc hall hss
            obtain ⟨q, hq⟩ : ∃ q, prd s x = q := ⟨_, rfl⟩
            rw [hq] at hs
            have HQ := Lib.hid hq
            have HS := Lib.hid hs
            clear hq hs
            cases q with
            | false =>
              go_wp2_with (go_at_call 84; refine (l02Product_any s x (by omega) (by omega) _).mono ?_; rw [HQ.out, b01]; rintro e w3 ⟨rfl, rfl⟩)
              go_round
              case rel => exact ⟨j + 1, by omega, by go_num, by rw [HS.out]; rfl⟩
              case measure => simp [intOf]; omega
            | true =>
              go_wp2_with (go_at_call 84; refine (l02Product_any s x (by omega) (by omega) _).mono ?_; rw [HQ.out, b01]; rintro e w3 ⟨rfl, rfl⟩)
              go_round
              case rel => exact ⟨j + 1, by omega, by go_num, by rw [HS.out]; rfl⟩
              case measure => simp [intOf]; omega
          · obtain rfl : j = n := by omega
            have HYES := Lib.hid (anniTo_yes (hall rfl))
            clear hfal hsuc hall
            go_wp2_with (at_builtin; refine wpList_append_own _ rfl _ _ 22 rfl (w.heap.size + 1) 2 i0 (.int .i64 0) 1 8 Tryd.underlying22 hi hz0 hz1 hz2 rfl (by decide) _ _ _ rfl ((HO.out.own' HMM.out).alloc _) ⟨wr.heap.size, 0, none⟩ 1 1 [.int .i64 x] rfl rfl (one_new _ _ _) (one_one _ _) (by unfold maxLen; omega) (by omega) (by simp; omega) ?_; intro v' w3 hown' hgrow _; have hb3 : Below (w.heap.size + 1) wr w3 := (((Below.refl _ wr).alloc (by omega) _).grown hgrow (by simp; omega) (fun g hg => ((HO.out.own' HMM.out).lt g hg).1)); have hown2 := hown'; rw [← HMM.out] at hown2; obtain ⟨g', cp', hv, hN⟩ := OR.snoc hown2; rw [HMM.out] at hv; subst hv; have HN := Lib.hid hN; have HB3 := Lib.hid hb3; clear hown' hown2 hgrow hN hb3)
            go_roundw
            case rel => exact ⟨x + 1, g', cp', by omega, by go_num, by rw [HYES.out]; simp [HMM.out], by rw [HYES.out]; exact HN.out, ⟨by obtain ⟨u, v, h0, h1⟩ := HR.out.ex; exact ⟨u, v, (HB3.out.cell (p := ⟨w.heap.size, 0, none⟩) (by simp)).trans h0, (HB3.out.cell (p := ⟨w.heap.size, 1, none⟩) (by simp)).trans h1⟩, (HB3.out.frozen (p := ⟨w.heap.size, 0, none⟩) (by simp)).trans HR.out.f0, (HB3.out.frozen (p := ⟨w.heap.size, 1, none⟩) (by simp)).trans HR.out.f1, Nat.lt_of_lt_of_le hrz HB3.out.size⟩, HB.out.trans (HB3.out.mono (by omega))⟩
            case measure => simp [intOf]; omega
    · obtain rfl : x = P := by omega
      have hE := EE.out g _ cp wr (by omega) (hO.mt (by omega))
      have HE := Lib.hid hE
      have HR := Lib.hid hR
      have HB := Lib.hid hb
      have hrz := hR.lt
      clear hE hO hR hb
      go_wp2_with fail
      refine HE.out.mono ?_
      rintro e w4 ⟨g4, cp4, rfl, hb4, hO4⟩
      have hR4 := HR.out.below hb4
      have hbb := HB.out.trans (hb4.mono HB.out.size)
      obtain ⟨u, v, h0, h1⟩ := hR4.ex
      have f0 := hR4.f0
      have f1 := hR4.f1
      have HO4 := Lib.hid hO4
      have HBB := Lib.hid hbb
      have hsz := HB.out.size
      clear hR4 hb4 hbb hO4 HE HR HB
      go_wp2_with fail
      refine bodyPost_ret (v := .agg #[.int .i64 C, .slice (some ⟨g4, 0, none⟩) J.length cp4]) (mat_result (p := 4) (fn := Tryd.f59) rfl _ rfl (two_setCell _ _ _ _ h0 h1).1 (two_setCell _ _ _ _ h0 h1).2) rfl ⟨g4, cp4, rfl, ?_, (HO4.out.only (only2 _ _ _ _) (by have := HO4.out.lt; omega)).wide (by omega)⟩
      exact (only2 _ _ _ _).below HBB.out (Nat.le_refl _)

set_option maxRecDepth 100000 in
set_option maxHeartbeats 6400000 in
theorem l02Sum_or (q C b cap : Nat) (L : List Nat) (hC : C ≤ 10) (hL : ∀ r ∈ L, r < 2 ^ C) (hl : L.length ≤ 10) (q' : Nat) (d : Int) (b' cap' : Nat) (M : List Nat) (hM : ∀ r ∈ M, r < 2 ^ C) (hm : M.length ≤ 10) (w : World) (hS : Sp1 w q C b L.length cap (ints L)) (hT : Sp1 w q' d b' M.length cap' (ints M)) :
    Calls Tryd.prog 64 #[.pointer (some ⟨q, 0, none⟩), .pointer (some ⟨q', 0, none⟩)] w fun e w' => ∃ g cp, e = .returned (.agg #[.int .i64 C, .slice (some ⟨g, 0, none⟩) (joined [] (L ++ M)).length cp]) ∧ Below w.heap.size w w' ∧ OR w' w.heap.size 2 g cp (joined [] (L ++ M)) := by
  obtain ⟨i0, hi, hz0, hz1, hz2⟩ := info_parts Tryd.infoI
  have hLM : ∀ r ∈ L ++ M, r < 2 ^ C := fun r hr => (List.mem_append.1 hr).elim (hL r) (hM r)
  have E := fun g n cap w hn hM => l02Echelon_any C g n cap (L ++ M) hC hLM hn w hM
  rw [cols_eq hLM] at E
  have hJ := joined_len hC hLM
  generalize joined [] (L ++ M) = J at E hJ ⊢
  have hlm : (L ++ M).length ≤ 20 := by simp; omega
  have EE := Lib.hid E
  have hR0 := MRoom.start w (.int .i64 0) (.slice none 0 0) 28
  have hb0 := (below_alloc1 w (.cells #[.int .i64 0, .slice none 0 0] 28)).drew
  have hS0 := hS.below hb0
  have hT0 := hT.below hb0
  have HR0 := Lib.hid (show MRoom (World.drew (w.alloc (.cells #[.int .i64 0, .slice none 0 0] 28))) w.heap.size from hR0.below (Below.refl _ _).drew)
  have HB0 := Lib.hid hb0
  have HS0 := Lib.hid hS0
  have HT0 := Lib.hid hT0
  have a0 := hS0.m.c0; have a1 := hS0.m.c1; have d0 := hT0.m.c0; have d1 := hT0.m.c1
  have zq := hS.m.lt; have zb := hS.r.lt; have zq' := hT.m.lt; have zb' := hT.r.lt
  have nq : ¬ q = w.heap.size := by omega
  have nq' : ¬ q' = w.heap.size := by omega
  have y1 : q < w.heap.size + 1 := by omega
  have y2 : b < w.heap.size + 1 := by omega
  have y3 : q' < w.heap.size + 1 := by omega
  have y4 : b' < w.heap.size + 1 := by omega
  have y5 : w.heap.size < w.heap.size + 1 := by omega
  have v1 : L.length + M.length ≤ maxLen := by unfold maxLen; omega
  have v2 : (L.length + M.length) * 8 ≤ 140737488355328 := by omega
  have v3 : ((ints M).map (Value.int .i64)).length = M.length * 1 := by simp [ints]
  have v4 : (L ++ M).length ≤ 1024 := by omega
  have v6 : L.length + M.length ≤ 1024 := by omega
  have v5 : (L ++ M).length ≤ 1048576 := by omega
  have ZB := Lib.hid (show w.heap.size + 1 ≤ (World.drew (w.alloc (.cells #[.int .i64 0, .slice none 0 0] 28))).heap.size by show _ ≤ (w.alloc _).heap.size; simp)
  clear E hS hT hS0 hT0 hb0 hR0 hL hM hLM
  go_enter Tryd.func64, Tryd.ntmps64
  go_wp2_with fail
  go_region_held_law (fun w' => w'.cell? ⟨q, 0, none⟩ = some (.int .i64 C) ∧ w'.cell? ⟨q, 1, none⟩ = some (.slice (some ⟨b, 0, none⟩) L.length cap) ∧ w'.cell? ⟨q', 1, none⟩ = some (.slice (some ⟨b', 0, none⟩) M.length cap')) (first | with_reducible exact ⟨a0, a1, d1⟩ | with_reducible exact ⟨by assumption, by assumption, by assumption⟩ | exact ⟨by rw [World.cell?_setCell_other _ ⟨w.heap.size, 1, none⟩ ⟨q, 0, none⟩ _ (far nq), World.cell?_setCell_other _ ⟨w.heap.size, 0, none⟩ ⟨q, 0, none⟩ _ (far nq)]; assumption, by rw [World.cell?_setCell_other _ ⟨w.heap.size, 1, none⟩ ⟨q, 1, none⟩ _ (far nq), World.cell?_setCell_other _ ⟨w.heap.size, 0, none⟩ ⟨q, 1, none⟩ _ (far nq)]; assumption, by rw [World.cell?_setCell_other _ ⟨w.heap.size, 1, none⟩ ⟨q', 1, none⟩ _ (far nq'), World.cell?_setCell_other _ ⟨w.heap.size, 0, none⟩ ⟨q', 1, none⟩ _ (far nq')]; assumption⟩)
    (first
      | (go_at_call 81; refine (l00Own_or b L.length cap L _ HS0.out.r).mono ?_; rintro e w3 ⟨g3, cp3, rfl, hO3, hb3⟩; have S3 := Lib.hid (HS0.out.below hb3); have T3 := Lib.hid (HT0.out.below hb3); have R3 := Lib.hid (HR0.out.below hb3); have t0 := S3.out.m.c0; have t1 := S3.out.m.c1; have t2 := T3.out.m.c1; have B3 := Lib.hid (HB0.out.trans (hb3.mono HB0.out.size)); have O3 := Lib.hid (hO3.wide ZB.out); have Z3 := Lib.hid (Nat.le_trans ZB.out hb3.size); clear hb3 hO3)
      | (refine step_append_own3 rfl (.tmp 17) (.tmp 21) 22 rfl (w.heap.size + 1) 2 i0 (.int .i64 0) 1 8 Tryd.underlying22 hi hz0 hz1 hz2 rfl (by decide) (.slice (some ⟨g3, 0, none⟩) L.length cp3) L.length _ (by simp [Act.eval]) O3.out.own ⟨b', 0, none⟩ M.length cap' ((ints M).map (Value.int .i64)) (by simp [Act.eval]) v3 (ints_news _ b' _ M T3.out.r) (ints_one M) v1 v2 Z3.out ?_; intro va w4 hown4 hg4 hn4; obtain ⟨⟨g4, cp4, rfl, hO4⟩, hb4⟩ := O3.out.grown rfl Z3.out hown4 hg4 hn4; have S4 : RowKit.Hid (Sp1 w4 q C b L.length cap (ints L)) := Lib.hid ⟨S3.out.m.at (hb4.block q y1) hb4.size, S3.out.r.at (hb4.block b y2) hb4.size⟩; have T4 : RowKit.Hid (Sp1 w4 q' d b' M.length cap' (ints M)) := Lib.hid ⟨T3.out.m.at (hb4.block q' y3) hb4.size, T3.out.r.at (hb4.block b' y4) hb4.size⟩; have R4 := Lib.hid (R3.out.at (hb4.block w.heap.size y5) hb4.size); have s0 := S4.out.m.c0; have s1 := S4.out.m.c1; have s2 := T4.out.m.c1; have B4 := Lib.hid (B3.out.trans (hb4.mono (Nat.le_succ _))); have Z4 := Lib.hid hb4.size; have M4 : RowKit.Hid (Mt w4 g4 (L.length + M.length) (ints (L ++ M))) := Lib.hid (by have h := hO4.mt v5; rw [List.length_append] at h; exact h); clear hb4 hO4 hown4 hg4 hn4)
      | (go_at_call 56; refine (EE.out g4 (L.length + M.length) cp4 _ v6 M4.out).mono ?_; rintro e w5 ⟨g5, cp5, rfl, hb5, hO5⟩; have S5 := S4.out.below hb5; have T5 := T4.out.below hb5; have R5 := Lib.hid (R4.out.below hb5); have r0 := S5.m.c0; have r1 := S5.m.c1; have r2 := T5.m.c1; obtain ⟨x5, y5, k0, k1⟩ := R5.out.ex; have f0 := R5.out.f0; have f1 := R5.out.f1; have B5 := Lib.hid (B4.out.trans (hb5.mono B4.out.size)); have O5 := Lib.hid hO5; clear hb5 hO5 S5 T5))
  go_wp2_with fail
  refine bodyPost_ret (v := .agg #[.int .i64 C, .slice (some ⟨g5, 0, none⟩) J.length cp5]) (mat_result (p := 4) (fn := Tryd.f64) rfl _ rfl (two_setCell _ _ _ _ k0 k1).1 (two_setCell _ _ _ _ k0 k1).2) rfl ⟨g5, cp5, rfl, ?_, (O5.out.only (only2 _ _ _ _) (by have := O5.out.lt; have := Z3.out; have := Z4.out; omega)).wide B4.out.size⟩
  exact (only2 _ _ _ _).below B5.out (Nat.le_refl _)

theorem mk_b {a W : World} {B g cp : Nat} {K : List Nat} (ha : Below a.heap.size a W) (hO : OR W B 2 g cp K) (hB : a.heap.size ≤ B) (u : Value) (T : TypeId) :
    Box (W.alloc (.cells #[u, .slice (some ⟨g, 0, none⟩) K.length cp] T)) W.heap.size u (.slice (some ⟨g, 0, none⟩) K.length cp) ∧ OR (W.alloc (.cells #[u, .slice (some ⟨g, 0, none⟩) K.length cp] T)) a.heap.size 2 g cp K ∧ Below a.heap.size a (W.alloc (.cells #[u, .slice (some ⟨g, 0, none⟩) K.length cp] T)) :=
  ⟨Box.one W u _ T, (hO.below (below_alloc1 W _) hO.lt.2).wide hB, below_al ha _⟩
theorem mk_a {a W : World} {q B g cp : Nat} {K : List Nat} (hM : MRoom W q) (hq : a.heap.size ≤ q) (ha : Below a.heap.size a W) (hO : OR W B 2 g cp K) (hqB : q < B) (u : Value) :
    Box ((W.setCell ⟨q, 0, none⟩ u).setCell ⟨q, 1, none⟩ (.slice (some ⟨g, 0, none⟩) K.length cp)) q u (.slice (some ⟨g, 0, none⟩) K.length cp) ∧ OR ((W.setCell ⟨q, 0, none⟩ u).setCell ⟨q, 1, none⟩ (.slice (some ⟨g, 0, none⟩) K.length cp)) a.heap.size 2 g cp K ∧ Below a.heap.size a ((W.setCell ⟨q, 0, none⟩ u).setCell ⟨q, 1, none⟩ (.slice (some ⟨g, 0, none⟩) K.length cp)) := by
  obtain ⟨x, y, h0, h1⟩ := hM.ex
  have h2 := two_setCell W q u (.slice (some ⟨g, 0, none⟩) K.length cp) h0 h1
  have hs := (only2 W q u (.slice (some ⟨g, 0, none⟩) K.length cp)).size
  exact ⟨⟨h2.1, h2.2, by rw [hs]; exact hM.lt⟩, (hO.only (only2 _ _ _ _) (by have := hO.lt; omega)).wide (by omega), below_two ha hq _ _⟩

set_option maxRecDepth 100000 in
set_option maxHeartbeats 6400000 in
theorem l02Meet_any (q C b cap : Nat) (L : List Nat) (hO : OkM C L) (q' b' cap' : Nat) (M : List Nat) (hP : OkM C M) (w : World) (hS : Sp1 w q C b L.length cap (ints L)) (hT : Sp1 w q' C b' M.length cap' (ints M)) :
    Calls Tryd.prog 67 #[.pointer (some ⟨q, 0, none⟩), .pointer (some ⟨q', 0, none⟩)] w fun e w' => ∃ v, e = .returned (.agg #[.int .i64 C, v]) ∧ Below w.heap.size w w' ∧ Res w' w.heap.size w'.heap.size v (ints (meet C L M)) := by
  have hc10 := hO.c10
  have hl := hO.n10
  have hm := hP.n10
  have KL := fun w hM => l02Kernel_or C b L.length cap L hc10 hO.lt (by omega) w hM
  have KM := fun w hM => l02Kernel_or C b' M.length cap' M hc10 hP.lt (by omega) w hM
  have hkl := kernel_lt (c := C) hO.lt
  have hkm := kernel_lt (c := C) hP.lt
  have nkl := kernel_len hc10 hO.lt
  have nkm := kernel_len hc10 hP.lt
  have hspec := meet_spec C L M
  obtain ⟨A, hA⟩ : ∃ A, kernel C L = A := ⟨_, rfl⟩
  obtain ⟨D, hD0⟩ : ∃ D, kernel C M = D := ⟨_, rfl⟩
  rw [hA] at KL hkl nkl hspec
  rw [hD0] at KM hkm nkm hspec
  have hAD : ∀ r ∈ A ++ D, r < 2 ^ C := fun r hr => (List.mem_append.1 hr).elim (hkl r) (hkm r)
  have SU := fun (qa ba ca qd bd cd : Nat) w hS hT => l02Sum_or qa C ba ca A hc10 hkl nkl qd C bd cd D hkm nkm w hS hT
  have hjn := joined_len hc10 hAD
  have hjl := joined_lt (L := []) .nil (by simp) hAD
  obtain ⟨J, hJ⟩ : ∃ J, joined [] (A ++ D) = J := ⟨_, rfl⟩
  rw [hJ] at SU hjn hjl hspec
  have KJ := fun (bj cj : Nat) w hM => l02Kernel_any C bj J.length cj J hc10 hjl (by omega) w hM
  rw [hspec] at KJ
  have KLH := Lib.hid KL; have KMH := Lib.hid KM; have SUH := Lib.hid SU; have KJH := Lib.hid KJ
  generalize meet C L M = E at KJH ⊢
  have hR0 := MRoom.start w (.int .i64 0) (.slice none 0 0) 28
  have hb0 := below_alloc1 w (.cells #[.int .i64 0, .slice none 0 0] 28)
  have HS := Lib.hid (hS.below hb0)
  have HT := Lib.hid (hT.below hb0)
  have HR := Lib.hid hR0
  have HB := Lib.hid hb0
  have HZ := Lib.hid (show w.heap.size < (w.alloc (.cells #[.int .i64 0, .slice none 0 0] 28)).heap.size by simp)
  clear hA hD0 hAD hJ hspec KL KM SU KJ hkl hkm hjl hb0 hR0 hS hT hO hP
  go_enter Tryd.func67, Tryd.ntmps67
  go_wp2_with fail
  go_upto_region 1 with fail
  generalize w.alloc (.cells #[.int .i64 0, .slice none 0 0] 28) = wk at HS HT HR HB HZ ⊢
  go_cut [5] from 8 to 16 (fun p wx => ∃ (qa g cp : Nat), p = .pointer (some ⟨qa, 0, none⟩) ∧ Box wx qa (.int .i64 C) (.slice (some ⟨g, 0, none⟩) A.length cp) ∧ OR wx wk.heap.size 2 g cp A ∧ Below wk.heap.size wk wx)
  case first =>
    have CB : ∀ w' : World, Below wk.heap.size wk w' → w'.cell? ⟨q, 0, none⟩ = some (.int .i64 C) ∧ w'.cell? ⟨q, 1, none⟩ = some (.slice (some ⟨b, 0, none⟩) L.length cap) ∧ Below wk.heap.size wk w' := fun w' hB => ⟨(HS.out.below hB).m.c0, (HS.out.below hB).m.c1, hB⟩
    have hD : Below wk.heap.size wk wk.drew := (Below.refl _ _).drew
    replace CB := Lib.hid CB
    go_region_held3 (fun w' => w'.cell? ⟨q, 0, none⟩ = some (.int .i64 C) ∧ w'.cell? ⟨q, 1, none⟩ = some (.slice (some ⟨b, 0, none⟩) L.length cap) ∧ Below wk.heap.size wk w') (first | with_reducible exact CB.out _ hD | with_reducible exact CB.out _ (by assumption) | exact CB.out _ (below_al (by assumption) _) | exact CB.out _ (below_al (Below.refl _ _) _).drew | exact CB.out _ (below_two (by assumption) hMRq _ _)) (first | (go_at_call 59; with_reducible refine Calls.mono (KLH.out _ (HS.out.r.below ?_)) ?_; (first | assumption | exact below_al (by assumption) _ | exact (below_al (Below.refl _ _) _).drew); rintro e wz ⟨g, cp, rfl, hbz, hOz⟩; have hwz := below_on (a := wk) hbz (by first | assumption | exact below_al (by assumption) _ | exact (below_al (Below.refl _ _) _).drew); (try (with_reducible have hRm := start_room_d hbz; obtain ⟨MR, hMRq⟩ := hRm; obtain ⟨ex, ey, k0, k1⟩ := MR.ex; have f0 := MR.f0; have f1 := MR.f1)); replace hOz := Lib.hid hOz; replace hbz := Lib.hid hbz))
    all_goals
      go_wp2_with fail
      go_meet
      first | exact ⟨_, _, _, rfl, mk_b hwz hOz.out (Nat.le_refl _) _ _⟩ | exact ⟨_, _, _, rfl, mk_a MR hMRq hwz hOz.out (by show _ < (World.alloc _ _).heap.size; simp) _⟩
  case rest =>
    obtain ⟨w1, rfl⟩ : ∃ x, x = wc := ⟨wc, rfl⟩
    obtain ⟨qa, ga, ca, rfl, Ba, Oa, hb⟩ := hcut
    replace HT := Lib.hid (HT.out.below hb)
    replace HR := Lib.hid (HR.out.below hb)
    replace HZ := Lib.hid (Nat.lt_of_lt_of_le HZ.out hb.size)
    have HB1 := Lib.hid (HB.out.trans (hb.mono HB.out.size))
    have HBa := Lib.hid Ba
    have HOa := Lib.hid Oa
    clear HS HB Ba Oa hb KLH
    go_upto_region 2 with fail
    go_cut [6] from 17 to 25 (fun p wx => ∃ (qa g cp : Nat), p = .pointer (some ⟨qa, 0, none⟩) ∧ Box wx qa (.int .i64 C) (.slice (some ⟨g, 0, none⟩) D.length cp) ∧ OR wx w1.heap.size 2 g cp D ∧ Below w1.heap.size w1 wx)
    case first =>
      have CB : ∀ w' : World, Below w1.heap.size w1 w' → w'.cell? ⟨q', 0, none⟩ = some (.int .i64 C) ∧ w'.cell? ⟨q', 1, none⟩ = some (.slice (some ⟨b', 0, none⟩) M.length cap') ∧ Below w1.heap.size w1 w' := fun w' hB => ⟨(HT.out.below hB).m.c0, (HT.out.below hB).m.c1, hB⟩
      have hD : Below w1.heap.size w1 w1.drew := (Below.refl _ _).drew
      replace CB := Lib.hid CB
      go_region_held3 (fun w' => w'.cell? ⟨q', 0, none⟩ = some (.int .i64 C) ∧ w'.cell? ⟨q', 1, none⟩ = some (.slice (some ⟨b', 0, none⟩) M.length cap') ∧ Below w1.heap.size w1 w') (first | with_reducible exact CB.out _ hD | with_reducible exact CB.out _ (by assumption) | exact CB.out _ (below_al (by assumption) _) | exact CB.out _ (below_al (Below.refl _ _) _).drew | exact CB.out _ (below_two (by assumption) hMRq _ _)) (first | (go_at_call 59; with_reducible refine Calls.mono (KMH.out _ (HT.out.r.below ?_)) ?_; (first | assumption | exact below_al (by assumption) _ | exact (below_al (Below.refl _ _) _).drew); rintro e wz ⟨g, cp, rfl, hbz, hOz⟩; have hwz := below_on (a := w1) hbz (by first | assumption | exact below_al (by assumption) _ | exact (below_al (Below.refl _ _) _).drew); (try (with_reducible have hRm := start_room_d hbz; obtain ⟨MR, hMRq⟩ := hRm; obtain ⟨ex, ey, k0, k1⟩ := MR.ex; have f0 := MR.f0; have f1 := MR.f1)); replace hOz := Lib.hid hOz; replace hbz := Lib.hid hbz))
      all_goals
        go_wp2_with fail
        go_meet
        first | exact ⟨_, _, _, rfl, mk_b hwz hOz.out (Nat.le_refl _) _ _⟩ | exact ⟨_, _, _, rfl, mk_a MR hMRq hwz hOz.out (by show _ < (World.alloc _ _).heap.size; simp) _⟩
    case rest =>
      obtain ⟨w2, rfl⟩ : ∃ x, x = wc := ⟨wc, rfl⟩
      obtain ⟨qd, gd, cd, rfl, Bd, Od, hb⟩ := hcut
      have HR2 := HR.out.below hb
      have HB2 := HB1.out.trans (hb.mono HB1.out.size)
      have Ba2 := HBa.out.next hb
      have Oa2 := HOa.out.below hb HOa.out.lt.2
      have hS2 : Sp1 w2 qa C ga A.length ca (ints A) := ⟨⟨Ba2.c0, Ba2.c1, Ba2.lt⟩, Oa2.mt (by omega)⟩
      have hT2 : Sp1 w2 qd C gd D.length cd (ints D) := ⟨⟨Bd.c0, Bd.c1, Bd.lt⟩, Od.mt (by omega)⟩
      have HSU := Lib.hid (SUH.out qa ga ca qd gd cd w2 hS2 hT2)
      replace HR2 := Lib.hid HR2
      replace HB2 := Lib.hid HB2
      have HZ2 := Lib.hid (Nat.lt_of_lt_of_le HZ.out hb.size)
      clear hb Ba2 Oa2 Bd Od hS2 hT2 HBa HOa HR HB1 KMH SUH HT HZ
      go_wp2_with fail
      refine HSU.out.mono ?_
      rintro e w3 ⟨gj, cj, rfl, hb3, hO3⟩
      have hb4 := below_alloc1 w3 (.cells #[.int .i64 C, .slice (some ⟨gj, 0, none⟩) J.length cj] 28)
      have hX := Box.one w3 (.int .i64 C) (.slice (some ⟨gj, 0, none⟩) J.length cj) 28
      have x0 := hX.c0; have x1 := hX.c1
      have hR4 := (HR2.out.below hb3).below hb4
      have hO4 := (hO3.below hb4 hO3.lt.2).mt (by omega)
      have HK := Lib.hid (KJH.out gj cj _ hO4)
      have HB4 := Lib.hid ((HB2.out.trans (hb3.mono HB2.out.size)).trans (hb4.mono (HB2.out.trans (hb3.mono HB2.out.size)).size))
      have HR4 := Lib.hid hR4
      have HZ4 := Lib.hid (Nat.lt_of_lt_of_le (Nat.lt_of_lt_of_le HZ2.out hb3.size) hb4.size)
      clear hb3 hb4 hX hR4 hO4 hO3 HSU KJH HR2 HB2 HZ2
      go_wp2_with fail
      refine HK.out.mono ?_
      rintro e w5 ⟨v, rfl, hb5, hV⟩
      have hR5 := HR4.out.below hb5
      have hbb := HB4.out.trans (hb5.mono HB4.out.size)
      have hsz := HB4.out.size
      obtain ⟨x, y, h0, h1⟩ := hR5.ex
      have f0 := hR5.f0
      have f1 := hR5.f1
      obtain ⟨ao, m, cq, rfl⟩ := hV.form
      have HV := Lib.hid hV
      have HBB := Lib.hid hbb
      clear hV hbb hb5 hR5 x0 x1
      go_wp2_with fail
      refine bodyPost_ret (v := .agg #[.int .i64 C, _]) (mat_result (p := 4) (fn := Tryd.f67) rfl _ rfl (two_setCell _ _ _ _ h0 h1).1 (two_setCell _ _ _ _ h0 h1).2) rfl ⟨_, rfl, ?_, HV.out.fin (q := w.heap.size) HZ4.out hsz _ _⟩
      exact (only2 _ _ _ _).below HBB.out (Nat.le_refl _)
end Go.Proofs.YtfhalaohegdbhaaDoor
