/- The space of all sums of rows of a space and of a grid; the echelon form: the program's. -/
import Derived.Test.YtfhalaohegdbhaaDoorSpanned
import Derived.Test.YtfhalaohegdbhaaDoorSp1
import Derived.Test.YtfhalaohegdbhaaDoorHeld2
namespace Go.Proofs.YtfhalaohegdbhaaDoor
open Go.RowKit Go.Joins Go.ChangeShapes Go.WideShapes Go.Deep
set_option linter.unusedVariables false
set_option linter.unusedSimpArgs false

/-- A grid that is stored where there is room for one. -/
theorem grid_store {W : World} {q : Nat} (hR : Room W q) (L : List Nat) (c : Int) (hl : L.length ≤ 10) (hr : ∀ j, nth L j < 4294967296) :
    ∃ W2, Sem.run Tryd.prog (storeCells ⟨q, 0, none⟩ (gridC L c).toList) W = .ok () W2 ∧ GAt W2 q L c ∧ Only q W W2 := by
  refine ⟨_, run_storeCells_cells (P := Tryd.prog) q 0 (gridC L c).toList 0 _ (fun j hj => ?_) (fun j hj => ?_) (fun v hv => ?_), GAt.store hR L c hl hr, Only.setCells _ _ _ (Only.refl _ _)⟩
  · exact (hR.there j (by simpa [gridC] using hj)).1
  · exact (hR.there j (by simpa [gridC] using hj)).2
  · simp [gridC] at hv
    rcases hv with rfl | rfl | rfl | rfl | rfl | rfl | rfl | rfl | rfl | rfl | rfl | rfl <;> rfl

set_option maxRecDepth 100000 in
set_option maxHeartbeats 3200000 in
theorem joined_any (C : Nat) (c : Int) (L M : List Nat) (hC : C ≤ 10) (hE : Ech L) (hL : ∀ r ∈ L, r < 2 ^ C) (hM : ∀ r ∈ M, r < 2 ^ C) (hm : M.length ≤ 10) (w : World) (hT : Tab w) :
    Calls Tryd.prog 66 #[.agg (gridC L C), .agg (gridC M c)] w fun e w' => e = .returned (.agg (gridC (joined L M) C)) ∧ Below w.heap.size w w' := by
  have hl : L.length ≤ 10 := Nat.le_trans (hE.len hL) hC
  have hG := (GAt.start w L C 59 hl (lt32 (by omega) hL)).below (below_alloc2 _ (.cells (gridC M c) 59) (.cells (gridC [] 0) 59))
  have hH : GAt (((w.alloc (.cells (gridC L C) 59)).alloc (.cells (gridC M c) 59)).alloc (.cells (gridC [] 0) 59)) (w.heap.size + 1) M c := by
    have := (GAt.start (w.alloc (.cells (gridC L C) 59)) M c 59 hm (lt32 (by omega) hM)).below (below_alloc1 _ (.cells (gridC [] 0) 59))
    simpa using this
  have hR : Room (((w.alloc (.cells (gridC L C) 59)).alloc (.cells (gridC M c) 59)).alloc (.cells (gridC [] 0) 59)) (w.heap.size + 1 + 1) := by
    have := (GAt.start ((w.alloc (.cells (gridC L C) 59)).alloc (.cells (gridC M c) 59)) [] 0 59 (by simp) (by intro j; simp [nth])).room
    simpa using this
  have hb := below_alloc3 w (.cells (gridC L C) 59) (.cells (gridC M c) 59) (.cells (gridC [] 0) 59)
  have HG := Lib.hid hG
  have HH := Lib.hid hH
  have HR := Lib.hid hR
  have HB := Lib.hid hb
  clear hG hR hb
  go_enter Tryd.func66, Tryd.ntmps66
  go_wp2_with (go_at_call 86; refine (all_any (w.heap.size + 1) M c _ hH).mono ?_; rintro e w1 ⟨rfl, q0, rfl⟩)
  clear hH
  go_loopw [10] (fun i wr => ∃ k : Nat, k ≤ M.length ∧ i = .int .i64 k ∧ GAt wr w.heap.size (joined L (M.take k)) C ∧ GAt wr (w.heap.size + 1) M c ∧ Room wr (w.heap.size + 1 + 1) ∧ Below w.heap.size w wr) (fun i _ => M.length - (intOf i).toNat)
  case atStart => exact ⟨0, Nat.zero_le _, rfl, HG.out.drewN q0, HH.out.drewN q0, HR.out.drewN q0, HB.out.trans (below_draws _ _ _)⟩
  case round =>
    obtain ⟨k, hk, rfl, hG, hH, hR, hb⟩ := hrel
    clear HG HH HR HB
    by_cases hlt : k < M.length
    · have hrow := hH.row k (by omega)
      have hJ := joined_spec (M.take k) hE
      have hJl := joined_lt hE hL (take_lt hM k)
      have hx : nth M k < 2 ^ C := nth_bound hM k
      have hx20 := lt20 (by omega) hM k
      have hjt := joined_take (L := L) hlt
      have hTr := hT.below hb
      have S := span_any w.heap.size (joined L (M.take k)) C hJ.1 (lt20 (by omega) hJl) (nth M k) hx20 wr hG hTr hT.2 (fun h => Nat.lt_of_lt_of_le (span_len hJ.1 hJl hx h) hC)
      rw [← hjt] at S
      generalize nth M k = x at hrow S hx20
      have HS := Lib.hid S
      have HH := Lib.hid hH
      have HR := Lib.hid hR
      have HB := Lib.hid hb
      clear S hH hR hb hJ hJl hjt hTr hx hG
      go_wp2_with (go_at_call 90; refine HS.out.mono ?_; rintro e w2 ⟨rfl, hG2, hO2⟩)
      go_roundw
      case rel => exact ⟨k + 1, by omega, by go_num, hG2, HH.out.only hO2 (by omega), HR.out.only hO2 (by omega), hO2.below HB.out (Nat.le_refl _)⟩
      case measure => simp [intOf]; omega
    · obtain rfl : k = M.length := by omega
      rw [List.take_length] at hG
      obtain ⟨g0, g1, g2, g3, g4, g5, g6, g7, g8, g9, g10, g11⟩ := hG.facts
      obtain ⟨⟨u0, u1, u2, u3, u4, u5, u6, u7, u8, u9, u10, u11, d0, d1, d2, d3, d4, d5, d6, d7, d8, d9, d10, d11⟩, f0, f1, f2, f3, f4, f5, f6, f7, f8, f9, f10, f11⟩ := hR.facts
      have hfin := GAt.store12 hR (joined L M) C hG.len hG.r32
      have HFIN := Lib.hid hfin
      have HB := Lib.hid hb
      clear hfin hR hH hG hb
      go_wp2_with fail
      refine bodyPost_ret (v := .agg (gridC (joined L M) C)) (grid_result (p := 4) (fn := Tryd.f66) rfl _ rfl HFIN.out) rfl ⟨rfl, ?_⟩
      exact (only12 wr _ _ _ _ _ _ _ _ _ _ _ _ _).below HB.out (by omega)

set_option maxRecDepth 100000 in
set_option maxHeartbeats 3200000 in
theorem echelon_any (C : Nat) (L : List Nat) (hC : C ≤ 10) (hL : ∀ r ∈ L, r < 2 ^ C) (hl : L.length ≤ 10) (w : World) (hT : Tab w) :
    Calls Tryd.prog 55 #[.agg (gridC L C)] w fun e w' => e = .returned (.agg (gridC (joined [] L) C)) ∧ Below w.heap.size w w' := by
  have hG := (GAt.start w L C 59 hl (lt32 (by omega) hL)).below (below_alloc1 _ (.cells (gridC [] 0) 59))
  have hR : Room ((w.alloc (.cells (gridC L C) 59)).alloc (.cells (gridC [] 0) 59)) (w.heap.size + 1) := by
    have := (GAt.start (w.alloc (.cells (gridC L C) 59)) [] 0 59 (by simp) (by intro j; simp [nth])).room
    simpa using this
  have hb := below_alloc2 w (.cells (gridC L C) 59) (.cells (gridC [] 0) 59)
  have HJ := Lib.hid (joined_lt .nil (by simp) hL)
  have HE := Lib.hid (joined_spec L Ech.nil).1
  obtain ⟨Φ, hΦ⟩ : ∃ Φ : World → Prop, Φ = fun W => GAt W w.heap.size L C ∧ Room W (w.heap.size + 1) ∧ Below w.heap.size w W := ⟨_, rfl⟩
  have F0 : Φ (World.drew ((w.alloc (.cells (gridC L C) 59)).alloc (.cells (gridC [] 0) 59))) := by rw [hΦ]; exact ⟨hG.drewN 1, hR.drewN 1, hb.drew⟩
  have SP : Hid (∀ W W', Φ W → Below W.heap.size W W' → Φ W') := Lib.hid fun W W' h hb => by
    rw [hΦ] at h ⊢
    exact ⟨h.1.below hb, h.2.1.below hb, h.2.2.trans (hb.mono h.2.2.size)⟩
  have C11 : Hid (∀ W, Φ W → W.cell? ⟨w.heap.size, 11, none⟩ = some (.int .i64 C)) := Lib.hid fun W h => by rw [hΦ] at h; exact h.1.c11
  have CR : Hid (∀ W, Φ W → Room W (w.heap.size + 1)) := Lib.hid fun W h => by rw [hΦ] at h; exact h.2.1
  have CB : Hid (∀ W, Φ W → Below w.heap.size w W) := Lib.hid fun W h => by rw [hΦ] at h; exact h.2.2
  have CS : Hid (∀ W, Φ W → Calls Tryd.prog 80 #[.pointer (some ⟨w.heap.size, 0, none⟩)] W fun e w' => e = .returned (.agg (rowsC (joined [] L))) ∧ Below W.heap.size W w') := Lib.hid fun W h => by
    have hB := CB.out W h
    rw [hΦ] at h
    exact spanned_r C L hC hL w.heap.size W h.1.toR (hT.below hB)
  clear hG hR hb hΦ
  simp only [rowsC] at CS
  go_enter Tryd.func55, Tryd.ntmps55
  go_wp2_with fail
  refine wp_region_S (n := 5) (S := Φ) (by kernel_rfl) (by kernel_rfl) F0 (fun G inv hS => ?_)
  clear F0
  refine wpAnyS_take (i := 0) (v := ?_) G inv hS (by decide) rfl (by kernel_rfl) (by kernel_rfl) (fun _ _ _ h => h) (Or.inl ⟨by kernel_rfl, fun W hW => ?_⟩) (fun inv => ?_)
  rotate_left
  · have z0 := C11.out _ hW
    go_simp
    try with_reducible rfl
  try simp only [Act.put, List.setIfInBounds_toArray, List.set_cons_zero, List.set_cons_succ]
  refine wpAnyS_take (i := 2) (v := ?_) G inv hS (by decide) rfl (by kernel_rfl) (by kernel_rfl) (fun _ _ _ h => h) (Or.inl ⟨by kernel_rfl, fun W hW => ?_⟩) (fun inv => ?_)
  rotate_left
  · have z0 := C11.out _ hW
    go_simp
    try with_reducible rfl
  try simp only [Act.put, List.setIfInBounds_toArray, List.set_cons_zero, List.set_cons_succ]
  refine wpAnyS_take (i := 3) (v := ?_) G inv hS (by decide) rfl (by kernel_rfl) (by kernel_rfl) (fun _ _ _ h => h) (Or.inl ⟨by kernel_rfl, fun W hW => ?_⟩) (fun inv => ?_)
  rotate_left
  · have z0 := C11.out _ hW
    go_simp
    try with_reducible rfl
  try simp only [Act.put, List.setIfInBounds_toArray, List.set_cons_zero, List.set_cons_succ]
  refine wpAnyS_step (i := 1) (by kernel_rfl) rfl ?_
  go_wp2_with (go_at_call 80; refine (CS.out _ hS).mono ?_; rintro e w3 ⟨rfl, hb3⟩)
  have F2 : Φ w3 := SP.out _ _ hS hb3
  clear hb3
  change (1 ≠ 5 → Φ w3) ∧ _
  refine ⟨fun _ => F2, ?_⟩
  have inv := HeadInv.setD (i := 1) inv (by kernel_rfl) (by decide)
  refine wpAnyS_take (i := 4) (v := ?_) G inv F2 (by decide) rfl (by kernel_rfl) (by kernel_rfl) (fun _ _ _ h => h) (Or.inl ⟨by kernel_rfl, fun W hW => ?_⟩) (fun inv => ?_)
  rotate_left
  · have z0 := C11.out _ hW
    go_simp
    try with_reducible rfl
  try simp only [Act.put, List.setIfInBounds_toArray, List.set_cons_zero, List.set_cons_succ]
  obtain ⟨⟨u0, u1, u2, u3, u4, u5, u6, u7, u8, u9, u10, u11, d0, d1, d2, d3, d4, d5, d6, d7, d8, d9, d10, d11⟩, f0, f1, f2, f3, f4, f5, f6, f7, f8, f9, f10, f11⟩ := (CR.out _ F2).facts
  have HFIN := Lib.hid (GAt.store12 (CR.out _ F2) (joined [] L) C (Nat.le_trans (HE.out.len HJ.out) hC) (lt32 (by omega) HJ.out))
  refine wpAnyS_step (i := 5) (by kernel_rfl) rfl ?_
  go_wp2
  refine ⟨fun h => absurd rfl h, ?_⟩
  refine wpAnyS_done (by kernel_rfl) ?_ _
  have HB := Lib.hid (CB.out _ F2)
  clear hS inv G
  go_wp2_with fail
  refine bodyPost_ret (v := .agg (gridC (joined [] L) C)) (grid_result (p := 2) (fn := Tryd.f55) rfl _ rfl HFIN.out) rfl ⟨rfl, ?_⟩
  exact (only12 w3 _ _ _ _ _ _ _ _ _ _ _ _ _).below HB.out (by omega)
end Go.Proofs.YtfhalaohegdbhaaDoor
