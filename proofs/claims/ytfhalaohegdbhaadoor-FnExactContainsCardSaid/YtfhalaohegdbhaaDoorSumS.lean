/- The sum of two spaces: the model's. -/
import Derived.Test.YtfhalaohegdbhaaDoorEchelonOf
import Derived.Test.YtfhalaohegdbhaaDoorKernelS
import Derived.Test.YtfhalaohegdbhaaDoorOwn2
import Derived.Deep.RegionHeldLaw
namespace Go.Proofs.YtfhalaohegdbhaaDoor
open Go.RowKit Go.Joins
set_option linter.unusedVariables false

theorem far {q p i j : Nat} (h : ¬ q = p) : ¬ (⟨p, i, none⟩ : Addr) = ⟨q, j, none⟩ := fun e => h (by injection e with e; exact e.symm)

set_option maxRecDepth 100000 in
set_option maxHeartbeats 6400000 in
theorem l02Sum_any (q C b cap : Nat) (L : List Nat) (hC : C ≤ 10) (hL : ∀ r ∈ L, r < 2 ^ C) (hl : L.length ≤ 10) (q' : Nat) (d : Int) (b' cap' : Nat) (M : List Nat) (hM : ∀ r ∈ M, r < 2 ^ C) (hm : M.length ≤ 10) (w : World) (hS : Sp1 w q C b L.length cap (ints L)) (hT : Sp1 w q' d b' M.length cap' (ints M)) :
    Calls Tryd.prog 64 #[.pointer (some ⟨q, 0, none⟩), .pointer (some ⟨q', 0, none⟩)] w fun e w' => ∃ v, e = .returned (.agg #[.int .i64 C, v]) ∧ Below w.heap.size w w' ∧ Res w' w.heap.size w'.heap.size v (ints (joined [] (L ++ M))) := by
  obtain ⟨i0, hi, hz0, hz1, hz2⟩ := info_parts Tryd.infoI
  have hLM : ∀ r ∈ L ++ M, r < 2 ^ C := fun r hr => (List.mem_append.1 hr).elim (hL r) (hM r)
  have E := fun g n cap w hn hM => l02Echelon_any C g n cap (L ++ M) hC hLM hn w hM
  rw [cols_eq hLM] at E
  have hJ := joined_len hC hLM
  generalize joined [] (L ++ M) = J at E hJ ⊢
  have hlm : (L ++ M).length ≤ 20 := by simp; omega
  have EE := Lib.hid E
  have hR0 := MRoom.start w (.int .i64 0) (.slice none 0 0) 28
  have hb0 := (below_alloc1 w (.cells #[.int .i64 0, .slice none 0 0] 28)).drew
  have hS0 := hS.below hb0
  have hT0 := hT.below hb0
  have HR0 := Lib.hid (show MRoom (World.drew (w.alloc (.cells #[.int .i64 0, .slice none 0 0] 28))) w.heap.size from hR0.below (Below.refl _ _).drew)
  have HB0 := Lib.hid hb0
  have HS0 := Lib.hid hS0
  have HT0 := Lib.hid hT0
  have a0 := hS0.m.c0; have a1 := hS0.m.c1; have d0 := hT0.m.c0; have d1 := hT0.m.c1
  have zq := hS.m.lt; have zb := hS.r.lt; have zq' := hT.m.lt; have zb' := hT.r.lt
  have nq : ¬ q = w.heap.size := by omega
  have nq' : ¬ q' = w.heap.size := by omega
  have y1 : q < w.heap.size + 1 := by omega
  have y2 : b < w.heap.size + 1 := by omega
  have y3 : q' < w.heap.size + 1 := by omega
  have y4 : b' < w.heap.size + 1 := by omega
  have y5 : w.heap.size < w.heap.size + 1 := by omega
  have v1 : L.length + M.length ≤ maxLen := by unfold maxLen; omega
  have v2 : (L.length + M.length) * 8 ≤ 140737488355328 := by omega
  have v3 : ((ints M).map (Value.int .i64)).length = M.length * 1 := by simp [ints]
  have v4 : (L ++ M).length ≤ 1024 := by omega
  have v6 : L.length + M.length ≤ 1024 := by omega
  have v5 : (L ++ M).length ≤ 1048576 := by omega
  have ZB := Lib.hid (show w.heap.size + 1 ≤ (World.drew (w.alloc (.cells #[.int .i64 0, .slice none 0 0] 28))).heap.size by show _ ≤ (w.alloc _).heap.size; simp)
  clear E hS hT hS0 hT0 hb0 hR0 hL hM hLM
  go_enter Tryd.func64, Tryd.ntmps64
  go_wp2_with fail
  go_region_held_law (fun w' => w'.cell? ⟨q, 0, none⟩ = some (.int .i64 C) ∧ w'.cell? ⟨q, 1, none⟩ = some (.slice (some ⟨b, 0, none⟩) L.length cap) ∧ w'.cell? ⟨q', 1, none⟩ = some (.slice (some ⟨b', 0, none⟩) M.length cap')) (first | with_reducible exact ⟨a0, a1, d1⟩ | with_reducible exact ⟨by assumption, by assumption, by assumption⟩ | exact ⟨by rw [World.cell?_setCell_other _ ⟨w.heap.size, 1, none⟩ ⟨q, 0, none⟩ _ (far nq), World.cell?_setCell_other _ ⟨w.heap.size, 0, none⟩ ⟨q, 0, none⟩ _ (far nq)]; assumption, by rw [World.cell?_setCell_other _ ⟨w.heap.size, 1, none⟩ ⟨q, 1, none⟩ _ (far nq), World.cell?_setCell_other _ ⟨w.heap.size, 0, none⟩ ⟨q, 1, none⟩ _ (far nq)]; assumption, by rw [World.cell?_setCell_other _ ⟨w.heap.size, 1, none⟩ ⟨q', 1, none⟩ _ (far nq'), World.cell?_setCell_other _ ⟨w.heap.size, 0, none⟩ ⟨q', 1, none⟩ _ (far nq')]; assumption⟩)
    (first
      | (go_at_call 81; refine (l00Own_or b L.length cap L _ HS0.out.r).mono ?_; rintro e w3 ⟨g3, cp3, rfl, hO3, hb3⟩; have S3 := Lib.hid (HS0.out.below hb3); have T3 := Lib.hid (HT0.out.below hb3); have R3 := Lib.hid (HR0.out.below hb3); have t0 := S3.out.m.c0; have t1 := S3.out.m.c1; have t2 := T3.out.m.c1; have B3 := Lib.hid (HB0.out.trans (hb3.mono HB0.out.size)); have O3 := Lib.hid (hO3.wide ZB.out); have Z3 := Lib.hid (Nat.le_trans ZB.out hb3.size); clear hb3 hO3)
      | (refine step_append_own3 rfl (.tmp 17) (.tmp 21) 22 rfl (w.heap.size + 1) 2 i0 (.int .i64 0) 1 8 Tryd.underlying22 hi hz0 hz1 hz2 rfl (by decide) (.slice (some ⟨g3, 0, none⟩) L.length cp3) L.length _ (by simp [Act.eval]) O3.out.own ⟨b', 0, none⟩ M.length cap' ((ints M).map (Value.int .i64)) (by simp [Act.eval]) v3 (ints_news _ b' _ M T3.out.r) (ints_one M) v1 v2 Z3.out ?_; intro va w4 hown4 hg4 hn4; obtain ⟨⟨g4, cp4, rfl, hO4⟩, hb4⟩ := O3.out.grown rfl Z3.out hown4 hg4 hn4; have S4 : RowKit.Hid (Sp1 w4 q C b L.length cap (ints L)) := Lib.hid ⟨S3.out.m.at (hb4.block q y1) hb4.size, S3.out.r.at (hb4.block b y2) hb4.size⟩; have T4 : RowKit.Hid (Sp1 w4 q' d b' M.length cap' (ints M)) := Lib.hid ⟨T3.out.m.at (hb4.block q' y3) hb4.size, T3.out.r.at (hb4.block b' y4) hb4.size⟩; have R4 := Lib.hid (R3.out.at (hb4.block w.heap.size y5) hb4.size); have s0 := S4.out.m.c0; have s1 := S4.out.m.c1; have s2 := T4.out.m.c1; have B4 := Lib.hid (B3.out.trans (hb4.mono (Nat.le_succ _))); have Z4 := Lib.hid hb4.size; have M4 : RowKit.Hid (Mt w4 g4 (L.length + M.length) (ints (L ++ M))) := Lib.hid (by have h := hO4.mt v5; rw [List.length_append] at h; exact h); clear hb4 hO4 hown4 hg4 hn4)
      | (go_at_call 56; refine (EE.out g4 (L.length + M.length) cp4 _ v6 M4.out).mono ?_; rintro e w5 ⟨g5, cp5, rfl, hb5, hO5⟩; have S5 := S4.out.below hb5; have T5 := T4.out.below hb5; have R5 := Lib.hid (R4.out.below hb5); have r0 := S5.m.c0; have r1 := S5.m.c1; have r2 := T5.m.c1; obtain ⟨x5, y5, k0, k1⟩ := R5.out.ex; have f0 := R5.out.f0; have f1 := R5.out.f1; have B5 := Lib.hid (B4.out.trans (hb5.mono B4.out.size)); have O5 := Lib.hid hO5; clear hb5 hO5 S5 T5))
  go_wp2_with fail
  refine bodyPost_ret (v := .agg #[.int .i64 C, .slice (some ⟨g5, 0, none⟩) J.length cp5]) (mat_result (p := 4) (fn := Tryd.f64) rfl _ rfl (two_setCell _ _ _ _ k0 k1).1 (two_setCell _ _ _ _ k0 k1).2) rfl ⟨_, rfl, ?_, (O5.out.res (by omega) (Nat.le_refl _)).fin (q := w.heap.size) (Nat.lt_of_lt_of_le (Nat.lt_succ_self _) (Nat.le_trans Z3.out Z4.out)) B4.out.size _ _⟩
  exact (only2 _ _ _ _).below B5.out (Nat.le_refl _)
end Go.Proofs.YtfhalaohegdbhaaDoor
