/- The space of all sums of rows of a space and of a grid; the echelon form: the program's. -/
import Derived.Test.YtfppacahjdpamabDoorSpan2
import Derived.Test.YtfppacahjdpamabDoorSp1
namespace Go.Proofs.YtfppacahjdpamabDoor
open Go.RowKit Go.Joins
set_option linter.unusedVariables false

/-- A grid that is stored where there is room for one. -/
theorem grid_store {W : World} {q : Nat} (hR : Room W q) (L : List Nat) (c : Int) (hl : L.length ≤ 10) (hr : ∀ j, nth L j < 4294967296) :
    ∃ W2, Sem.run Tryd.prog (storeCells ⟨q, 0, none⟩ (gridC L c).toList) W = .ok () W2 ∧ GAt W2 q L c ∧ Only q W W2 := by
  refine ⟨_, run_storeCells_cells (P := Tryd.prog) q 0 (gridC L c).toList 0 _ (fun j hj => ?_) (fun j hj => ?_) (fun v hv => ?_), GAt.store hR L c hl hr, Only.setCells _ _ _ (Only.refl _ _)⟩
  · exact (hR.there j (by simpa [gridC] using hj)).1
  · exact (hR.there j (by simpa [gridC] using hj)).2
  · simp [gridC] at hv
    rcases hv with rfl | rfl | rfl | rfl | rfl | rfl | rfl | rfl | rfl | rfl | rfl | rfl <;> rfl

set_option maxRecDepth 100000 in
set_option maxHeartbeats 3200000 in
theorem joined_any (C : Nat) (c : Int) (L M : List Nat) (hC : C ≤ 10) (hE : Ech L) (hL : ∀ r ∈ L, r < 2 ^ C) (hM : ∀ r ∈ M, r < 2 ^ C) (hm : M.length ≤ 10) (w : World) (hT : Tab w) :
    Calls Tryd.prog 64 #[.agg (gridC L C), .agg (gridC M c)] w fun e w' => e = .returned (.agg (gridC (joined L M) C)) ∧ Below w.heap.size w w' := by
  have hl : L.length ≤ 10 := Nat.le_trans (hE.len hL) hC
  have hG := (GAt.start w L C 68 hl (lt32 (by omega) hL)).below (below_alloc2 _ (.cells (gridC M c) 68) (.cells (gridC [] 0) 68))
  have hH : GAt (((w.alloc (.cells (gridC L C) 68)).alloc (.cells (gridC M c) 68)).alloc (.cells (gridC [] 0) 68)) (w.heap.size + 1) M c := by
    have := (GAt.start (w.alloc (.cells (gridC L C) 68)) M c 68 hm (lt32 (by omega) hM)).below (below_alloc1 _ (.cells (gridC [] 0) 68))
    simpa using this
  have hR : Room (((w.alloc (.cells (gridC L C) 68)).alloc (.cells (gridC M c) 68)).alloc (.cells (gridC [] 0) 68)) (w.heap.size + 1 + 1) := by
    have := (GAt.start ((w.alloc (.cells (gridC L C) 68)).alloc (.cells (gridC M c) 68)) [] 0 68 (by simp) (by intro j; simp [nth])).room
    simpa using this
  have hb := below_alloc3 w (.cells (gridC L C) 68) (.cells (gridC M c) 68) (.cells (gridC [] 0) 68)
  have HG := Lib.hid hG
  have HH := Lib.hid hH
  have HR := Lib.hid hR
  have HB := Lib.hid hb
  clear hG hR hb
  go_enter Tryd.func64, Tryd.ntmps64
  go_wp2_with (go_at_call 65; refine (all_any (w.heap.size + 1) M c _ hH).mono ?_; rintro e w1 ⟨rfl, q0, rfl⟩)
  clear hH
  go_loopw [10] (fun i wr => ∃ k : Nat, k ≤ M.length ∧ i = .int .i64 k ∧ GAt wr w.heap.size (joined L (M.take k)) C ∧ GAt wr (w.heap.size + 1) M c ∧ Room wr (w.heap.size + 1 + 1) ∧ Below w.heap.size w wr) (fun i _ => M.length - (intOf i).toNat)
  case atStart => exact ⟨0, Nat.zero_le _, rfl, HG.out.drewN q0, HH.out.drewN q0, HR.out.drewN q0, HB.out.trans (below_draws _ _ _)⟩
  case round =>
    obtain ⟨k, hk, rfl, hG, hH, hR, hb⟩ := hrel
    clear HG HH HR HB
    by_cases hlt : k < M.length
    · have hrow := hH.row k (by omega)
      have hJ := joined_spec (M.take k) hE
      have hJl := joined_lt hE hL (take_lt hM k)
      have hx : nth M k < 2 ^ C := nth_bound hM k
      have hx20 := lt20 (by omega) hM k
      have hjt := joined_take (L := L) hlt
      have hTr := hT.below hb
      have S := span_any w.heap.size (joined L (M.take k)) C hJ.1 (lt20 (by omega) hJl) (nth M k) hx20 wr hG hTr hT.2 (fun h => Nat.lt_of_lt_of_le (span_len hJ.1 hJl hx h) hC)
      rw [← hjt] at S
      generalize nth M k = x at hrow S hx20
      have HS := Lib.hid S
      have HH := Lib.hid hH
      have HR := Lib.hid hR
      have HB := Lib.hid hb
      clear S hH hR hb hJ hJl hjt hTr hx hG
      go_wp2_with (go_at_call 88; refine HS.out.mono ?_; rintro e w2 ⟨rfl, hG2, hO2⟩)
      go_roundw
      case rel => exact ⟨k + 1, by omega, by go_num, hG2, HH.out.only hO2 (by omega), HR.out.only hO2 (by omega), hO2.below HB.out (Nat.le_refl _)⟩
      case measure => simp [intOf]; omega
    · obtain rfl : k = M.length := by omega
      rw [List.take_length] at hG
      obtain ⟨g0, g1, g2, g3, g4, g5, g6, g7, g8, g9, g10, g11⟩ := hG.facts
      obtain ⟨⟨u0, u1, u2, u3, u4, u5, u6, u7, u8, u9, u10, u11, d0, d1, d2, d3, d4, d5, d6, d7, d8, d9, d10, d11⟩, f0, f1, f2, f3, f4, f5, f6, f7, f8, f9, f10, f11⟩ := hR.facts
      have hfin := GAt.store12 hR (joined L M) C hG.len hG.r32
      have HFIN := Lib.hid hfin
      have HB := Lib.hid hb
      clear hfin hR hH hG hb
      go_wp2_with fail
      refine bodyPost_ret (v := .agg (gridC (joined L M) C)) (grid_result (p := 4) (fn := Tryd.f64) rfl _ rfl HFIN.out) rfl ⟨rfl, ?_⟩
      exact (only12 wr _ _ _ _ _ _ _ _ _ _ _ _ _).below HB.out (by omega)

set_option maxRecDepth 100000 in
set_option maxHeartbeats 1600000 in
theorem echelon_any (C : Nat) (L : List Nat) (hC : C ≤ 10) (hL : ∀ r ∈ L, r < 2 ^ C) (hl : L.length ≤ 10) (w : World) (hT : Tab w) :
    Calls Tryd.prog 38 #[.agg (gridC L C)] w fun e w' => e = .returned (.agg (gridC (joined [] L) C)) ∧ Below w.heap.size w w' := by
  have hG := (GAt.start w L C 68 hl (lt32 (by omega) hL)).below (below_alloc1 _ (.cells (gridC [] 0) 68))
  have hR : Room ((w.alloc (.cells (gridC L C) 68)).alloc (.cells (gridC [] 0) 68)) (w.heap.size + 1) := by
    have := (GAt.start (w.alloc (.cells (gridC L C) 68)) [] 0 68 (by simp) (by intro j; simp [nth])).room
    simpa using this
  have hb := below_alloc2 w (.cells (gridC L C) 68) (.cells (gridC [] 0) 68)
  have S := joined_any C C [] L hC .nil (by simp) hL hl _ (hT.below hb)
  have g0 : (gridC L C)[0]? = some (.int .i64 (L.length : Nat)) := rfl
  have g1 : (gridC L C)[1]? = some (.int .u32 (nth L 0 : Nat)) := rfl
  have g2 : (gridC L C)[2]? = some (.int .u32 (nth L 1 : Nat)) := rfl
  have g3 : (gridC L C)[3]? = some (.int .u32 (nth L 2 : Nat)) := rfl
  have g4 : (gridC L C)[4]? = some (.int .u32 (nth L 3 : Nat)) := rfl
  have g5 : (gridC L C)[5]? = some (.int .u32 (nth L 4 : Nat)) := rfl
  have g6 : (gridC L C)[6]? = some (.int .u32 (nth L 5 : Nat)) := rfl
  have g7 : (gridC L C)[7]? = some (.int .u32 (nth L 6 : Nat)) := rfl
  have g8 : (gridC L C)[8]? = some (.int .u32 (nth L 7 : Nat)) := rfl
  have g9 : (gridC L C)[9]? = some (.int .u32 (nth L 8 : Nat)) := rfl
  have g10 : (gridC L C)[10]? = some (.int .u32 (nth L 9 : Nat)) := rfl
  have g11 : (gridC L C)[11]? = some (.int .i64 C) := rfl
  have HS := Lib.hid S
  have HR := Lib.hid hR
  have HB := Lib.hid hb
  have HJ := Lib.hid (joined_lt .nil (by simp) hL)
  have HE := Lib.hid (joined_spec L Ech.nil).1
  clear S hR hb hG
  go_enter Tryd.func38, Tryd.ntmps38
  go_wp2_with fail
  refine HS.out.mono ?_
  rintro e w2 ⟨rfl, hb2⟩
  have hR2 := HR.out.below hb2
  have hb := HB.out.trans (hb2.mono HB.out.size)
  obtain ⟨W3, hst, hG3, hO3⟩ := grid_store hR2 (joined [] L) C (Nat.le_trans (HE.out.len HJ.out) hC) (lt32 (by omega) HJ.out)
  have HFIN := Lib.hid hG3
  have HB2 := Lib.hid (hO3.below hb (by omega))
  clear hR2 hb hb2 g0 g1 g2 g3 g4 g5 g6 g7 g8 g9 g10 g11 hG3 hO3
  go_wp2_with fail
  refine bodyPost_ret (v := .agg (gridC (joined [] L) C)) (grid_result (p := 2) (fn := Tryd.f38) rfl _ rfl HFIN.out) rfl ⟨rfl, ?_⟩
  exact HB2.out
end Go.Proofs.YtfppacahjdpamabDoor
