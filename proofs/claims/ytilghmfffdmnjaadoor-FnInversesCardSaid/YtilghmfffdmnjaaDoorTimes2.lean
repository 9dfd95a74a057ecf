/- A product of matrices: the program's grid. -/
import Derived.Test.YtilghmfffdmnjaaDoorSum
namespace Go.Proofs.YtilghmfffdmnjaaDoor
open Go.RowKit Go.Joins
set_option linter.unusedVariables false

/-- The first k rows of a product. -/
def mulL (L M : List Nat) (k : Nat) : List Nat := (List.range k).map fun i => tms (nth L i) M M.length
theorem mulL_succ (L M : List Nat) (k : Nat) : mulL L M (k + 1) = mulL L M k ++ [tms (nth L k) M M.length] := range_succ_map _ _
theorem mulL_len (L M : List Nat) (k : Nat) : (mulL L M k).length = k := by simp [mulL]
theorem mulL_lt {L M : List Nat} (hM : ∀ j, nth M j < 1024) (k : Nat) : ∀ r ∈ mulL L M k, r < 1024 := by
  intro r hr
  obtain ⟨c, _, rfl⟩ := List.mem_map.1 hr
  exact nth_le hM _ _

set_option maxHeartbeats 1600000 in
theorem times_any (C : Nat) (L : List Nat) (hO : OkM C L) (D : Nat) (M : List Nat) (hP : OkM D M) (w : World) :
    Calls Tryd.prog 81 #[.agg (gridC L C), .agg (gridC M D)] w fun e w' => e = .returned (.agg (gridC (mulL L M L.length) D)) ∧ Below w.heap.size w w' := by
  have hl := hO.n10
  have hm := hP.n10
  have hr32 : ∀ j, nth L j < 4294967296 := fun j => Nat.lt_trans (hO.get' j) (by omega)
  have hs32 : ∀ j, nth M j < 4294967296 := fun j => Nat.lt_trans (hP.get' j) (by omega)
  have hM := hP.get'
  have g11 : (gridC M D)[11]? = some (.int .i64 D) := rfl
  have hG1 := (GAt.start w L C 105 hl hr32).below (below_alloc3 _ (.cells (gridC M D) 105) (.cells (gridC [] 0) 105) (.cells (gridC [] D) 105))
  have hH1 : GAt ((((w.alloc (.cells (gridC L C) 105)).alloc (.cells (gridC M D) 105)).alloc (.cells (gridC [] 0) 105)).alloc (.cells (gridC [] D) 105)) (w.heap.size + 1) M D := by
    have := (GAt.start (w.alloc (.cells (gridC L C) 105)) M D 105 hm hs32).below (below_alloc2 _ (.cells (gridC [] 0) 105) (.cells (gridC [] D) 105))
    simpa using this
  have hR1 : Room ((((w.alloc (.cells (gridC L C) 105)).alloc (.cells (gridC M D) 105)).alloc (.cells (gridC [] 0) 105)).alloc (.cells (gridC [] D) 105)) (w.heap.size + 1 + 1) := by
    have := (GAt.start ((w.alloc (.cells (gridC L C) 105)).alloc (.cells (gridC M D) 105)) [] 0 105 (by simp) (by intro j; simp [nth])).room.below (below_alloc1 _ (.cells (gridC [] D) 105))
    simpa using this
  have hT1 : GAt ((((w.alloc (.cells (gridC L C) 105)).alloc (.cells (gridC M D) 105)).alloc (.cells (gridC [] 0) 105)).alloc (.cells (gridC [] D) 105)) (w.heap.size + 1 + 1 + 1) [] D := by
    have := GAt.start (((w.alloc (.cells (gridC L C) 105)).alloc (.cells (gridC M D) 105)).alloc (.cells (gridC [] 0) 105)) [] D 105 (by simp) (by intro j; simp [nth])
    simpa using this
  have hb1 : Below w.heap.size w ((((w.alloc (.cells (gridC L C) 105)).alloc (.cells (gridC M D) 105)).alloc (.cells (gridC [] 0) 105)).alloc (.cells (gridC [] D) 105)) := (below_alloc1 w _).trans ((below_alloc3 _ _ _ _).mono (by simp))
  have HR1 := Lib.hid hR1
  have HT1 := Lib.hid hT1
  have HG1 := Lib.hid hG1
  have HH1 := Lib.hid hH1
  have HB1 := Lib.hid hb1
  clear hR1 hT1 hb1 hH1
  go_enter Tryd.func81, Tryd.ntmps81
  go_wp2_with (go_at_call 90; refine (all_any w.heap.size L C _ hG1).mono ?_; rintro e w1 ⟨rfl, q0, rfl⟩)
  clear hG1
  go_loopw [14] (fun i wr => ∃ k : Nat, k ≤ L.length ∧ i = .int .i64 k ∧ GAt wr w.heap.size L C ∧ GAt wr (w.heap.size + 1) M D ∧ GAt wr (w.heap.size + 1 + 1 + 1) (mulL L M k) D ∧ Room wr (w.heap.size + 1 + 1) ∧ Below w.heap.size w wr) (fun i _ => L.length - (intOf i).toNat)
  case atStart => exact ⟨0, Nat.zero_le _, rfl, HG1.out.drewN _, HH1.out.drewN _, HT1.out.drewN _, HR1.out.drewN _, HB1.out.trans (below_draws _ _ _)⟩
  case round =>
    obtain ⟨k, hk, rfl, hG, hH, hT, hR, hb⟩ := hrel
    clear HG1 HT1 HR1 HB1 HH1
    by_cases hlt : k < L.length
    · have hrow := hG.row k (by omega)
      have hx := hO.get' k
      have hts := mulL_succ L M k
      have hcl := nth_le hM (nth L k) M.length
      generalize hxx : nth L k = x at hrow hx hts hcl
      obtain ⟨s, hs⟩ : ∃ s, tms x M M.length = s := ⟨_, rfl⟩
      rw [hs] at hts hcl
      have HTS := Lib.hid hts
      have HS := Lib.hid hs
      have HT := Lib.hid hT
      have HR := Lib.hid hR
      have HB := Lib.hid hb
      clear hts hs hT hR hb hxx
      go_wp2_with (first | (go_at_call 87; refine (sum_any (w.heap.size + 1) M D hM x (by omega) _ hH).mono ?_; rw [HS.out]; rintro e w2 ⟨rfl, q2, rfl⟩) | (go_at_call 116; refine (push_any (w.heap.size + 1 + 1 + 1) (mulL L M k) D s (by omega) _ (HT.out.drewN _) (by rw [mulL_len]; omega)).mono ?_; rintro e w3 ⟨rfl, hT2, hO2⟩))
      go_roundw
      case rel => exact ⟨k + 1, by omega, by go_num, (hG.drewN _).only hO2 (by omega), (hH.drewN _).only hO2 (by omega), by rw [HTS.out]; exact hT2, (HR.out.drewN _).only hO2 (by omega), hO2.below (HB.out.trans (below_draws _ _ _)) (by omega)⟩
      case measure => simp [intOf]; omega
    · obtain rfl : k = L.length := by omega
      obtain ⟨g0, g1, g2, g3, g4, g5, g6, g7, g8, g9, g10, g11⟩ := hT.facts
      obtain ⟨⟨u0, u1, u2, u3, u4, u5, u6, u7, u8, u9, u10, u11, d0, d1, d2, d3, d4, d5, d6, d7, d8, d9, d10, d11⟩, f0, f1, f2, f3, f4, f5, f6, f7, f8, f9, f10, f11⟩ := hR.facts
      have hfin := GAt.store12 hR (mulL L M L.length) D hT.len hT.r32
      have HFIN := Lib.hid hfin
      have HB := Lib.hid hb
      clear hfin hR hT hG hH hb
      go_wp2_with fail
      refine bodyPost_ret (v := .agg (gridC (mulL L M L.length) D)) (grid_result (p := 4) (fn := Tryd.f81) rfl _ rfl HFIN.out) rfl ⟨rfl, ?_⟩
      exact (only12 wr _ _ _ _ _ _ _ _ _ _ _ _ _).below HB.out (by omega)
end Go.Proofs.YtilghmfffdmnjaaDoor
