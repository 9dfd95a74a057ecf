/- The grid of a valid matrix. -/
import Derived.Test.YtilghmfffdmnjaaValid
import Derived.Test.YtilghmfffdmnjaaGrid
namespace Go.Proofs.Ytilghmfffdmnjaa
open Go.RowKit Go.Joins
set_option linter.unusedVariables false

set_option maxHeartbeats 1600000 in
theorem gridFor_noR (c : Int) (A : Option Addr) (n cap : Nat) (xs : List Int) (w : World) (hM : Rd w w.heap.size A n xs) (hk : okM c xs = false) :
    Calls Try.prog 79 #[.agg #[.int .i64 c, .slice A n cap]] w fun e w' => e = .returned (.tuple #[.agg (gridC [] 0), .int .i64 1]) ∧ Below w.heap.size w w' := by
  have S := implValidMatrix_anyR c A n cap xs
  rw [hk] at S
  have HK := Lib.hid S
  clear S hk
  have hR : Room ((w.alloc (.cells #[.int .i64 c, .slice A n cap] 60)).alloc (.cells (gridC [] 0) 115)) (w.heap.size + 1) := by
    have := (GAt.start (w.alloc (.cells #[.int .i64 c, .slice A n cap] 60)) [] 0 115 (by simp) (by intro j; simp [nth])).room
    simpa using this
  have hb0 := below_alloc2 w (.cells #[.int .i64 c, .slice A n cap] 60) (.cells (gridC [] 0) 115)
  go_enter Try.func79, Try.ntmps79
  go_wp2_with fail
  refine (HK.out _ (hM.below (below_alloc2 _ _ _))).mono ?_
  rintro e w1 ⟨rfl, hb⟩
  have hR1 := hR.below hb
  have hb1 := hb0.trans (hb.mono hb0.size)
  clear hb hR hb0
  obtain ⟨⟨u0, u1, u2, u3, u4, u5, u6, u7, u8, u9, u10, u11, d0, d1, d2, d3, d4, d5, d6, d7, d8, d9, d10, d11⟩, f0, f1, f2, f3, f4, f5, f6, f7, f8, f9, f10, f11⟩ := hR1.facts
  go_wp2_with fail
  have hfin : GAt ((((((((((((w1.setCell ⟨w.heap.size + 1, 0, none⟩ (.int .i64 0)).setCell ⟨w.heap.size + 1, 1, none⟩ (.int .u32 0)).setCell ⟨w.heap.size + 1, 2, none⟩ (.int .u32 0)).setCell ⟨w.heap.size + 1, 3, none⟩ (.int .u32 0)).setCell ⟨w.heap.size + 1, 4, none⟩ (.int .u32 0)).setCell ⟨w.heap.size + 1, 5, none⟩ (.int .u32 0)).setCell ⟨w.heap.size + 1, 6, none⟩ (.int .u32 0)).setCell ⟨w.heap.size + 1, 7, none⟩ (.int .u32 0)).setCell ⟨w.heap.size + 1, 8, none⟩ (.int .u32 0)).setCell ⟨w.heap.size + 1, 9, none⟩ (.int .u32 0)).setCell ⟨w.heap.size + 1, 10, none⟩ (.int .u32 0)).setCell ⟨w.heap.size + 1, 11, none⟩ (.int .i64 0)) (w.heap.size + 1) [] 0 := GAt.store12 hR1 [] 0 (by simp) (by intro j; simp [nth])
  refine bodyPost_ret (v := .tuple #[.agg (gridC [] 0), .int .i64 1]) (grid_results (p := 2) (u := 3) (fn := Try.f79) rfl _ rfl hfin) rfl ⟨rfl, ?_⟩
  exact (only12 w1 _ _ _ _ _ _ _ _ _ _ _ _ _).below hb1 (by simp)
theorem gridFor_no (c : Int) (b n cap : Nat) (xs : List Int) (w : World) (hM : Mt w b n xs) (hk : okM c xs = false) :
    Calls Try.prog 79 #[.agg #[.int .i64 c, .slice (some ⟨b, 0, none⟩) n cap]] w fun e w' => e = .returned (.tuple #[.agg (gridC [] 0), .int .i64 1]) ∧ Below w.heap.size w w' :=
  gridFor_noR c (some ⟨b, 0, none⟩) n cap xs w hM.rd hk

set_option maxHeartbeats 1600000 in
theorem gridFor_yesR (C : Nat) (L : List Nat) (hO : OkM C L) (A : Option Addr) (n cap : Nat) (w : World) (hM : Rd w w.heap.size A n (ints L)) :
    Calls Try.prog 79 #[.agg #[.int .i64 C, .slice A n cap]] w fun e w' => e = .returned (.tuple #[.agg (gridC L C), .int .i64 0]) ∧ Below w.heap.size w w' := by
  have S := implValidMatrix_anyR C A n cap (ints L)
  rw [okM_ints hO] at S
  have HK := Lib.hid S
  clear S
  have hR : Room ((w.alloc (.cells #[.int .i64 C, .slice A n cap] 60)).alloc (.cells (gridC [] 0) 115)) (w.heap.size + 1) := by
    have := (GAt.start (w.alloc (.cells #[.int .i64 C, .slice A n cap] 60)) [] 0 115 (by simp) (by intro j; simp [nth])).room
    simpa using this
  have hX := (Box.one w (.int .i64 C) (.slice A n cap) 60).next (below_alloc1 _ (.cells (gridC [] 0) 115))
  have hb0 := below_alloc2 w (.cells #[.int .i64 C, .slice A n cap] 60) (.cells (gridC [] 0) 115)
  go_enter Try.func79, Try.ntmps79
  go_wp2_with fail
  refine (HK.out _ (hM.below (below_alloc2 _ _ _))).mono ?_
  rintro e w1 ⟨rfl, hb⟩
  have hR1 := hR.below hb
  have hX1 := hX.next hb
  have hM1 := (hM.below (below_alloc2 _ _ _)).below hb
  have hb1 := hb0.trans (hb.mono hb0.size)
  have hc0 := hX1.c0
  have hc1 := hX1.c1
  have hlt1 := hX1.lt
  clear hb hR hb0 hX
  go_wp2_with fail
  have hG0 : GAt (w1.alloc (.cells #[.int .i64 0, .int .u32 0, .int .u32 0, .int .u32 0, .int .u32 0, .int .u32 0, .int .u32 0, .int .u32 0, .int .u32 0, .int .u32 0, .int .u32 0, .int .i64 C] 115)) w1.heap.size [] C := GAt.start w1 [] C 115 (by simp) (by intro j; simp [nth])
  have hb2 := hb1.trans ((below_alloc1 w1 (.cells #[.int .i64 0, .int .u32 0, .int .u32 0, .int .u32 0, .int .u32 0, .int .u32 0, .int .u32 0, .int .u32 0, .int .u32 0, .int .u32 0, .int .u32 0, .int .i64 C] 115)).mono hb1.size)
  have hR2 := hR1.below (below_alloc1 w1 (.cells #[.int .i64 0, .int .u32 0, .int .u32 0, .int .u32 0, .int .u32 0, .int .u32 0, .int .u32 0, .int .u32 0, .int .u32 0, .int .u32 0, .int .u32 0, .int .i64 C] 115))
  have hM2 := hM1.keep (Nat.le_refl _) (below_alloc1 w1 (.cells #[.int .i64 0, .int .u32 0, .int .u32 0, .int .u32 0, .int .u32 0, .int .u32 0, .int .u32 0, .int .u32 0, .int .u32 0, .int .u32 0, .int .u32 0, .int .i64 C] 115))
  have hll := hM.len
  rw [ints_length] at hll
  have hl10 := hO.n10
  have hq1 : w.heap.size + 1 < w1.heap.size := hR1.lt
  have hwq : w.heap.size ≤ w1.heap.size := hb1.size
  clear hM1 hR1 hX1 hb1
  go_loopw [17] (fun i wr => ∃ k : Nat, k ≤ n ∧ i = .int .i64 k ∧ GAt wr w1.heap.size (L.take k) C ∧ Rd wr w1.heap.size A n (ints L) ∧ Room wr (w.heap.size + 1) ∧ Below w.heap.size w wr) (fun i _ => n - (intOf i).toNat)
  case atStart => exact ⟨0, Nat.zero_le _, rfl, hG0, hM2, hR2, hb2⟩
  case round =>
    obtain ⟨k, hk, rfl, hG, hMr, hRr, hbr⟩ := hrel
    clear hG0 hM2 hR2 hb2
    by_cases hlt : k < n
    · obtain ⟨b, rfl, hbq, hck⟩ := hMr.cell k hlt
      rw [ints_get] at hck
      have hx := hO.get' k
      have hts := take_succ' (L := L) (k := k) (by omega)
      have hlk : (L.take k).length = k := by rw [List.length_take]; omega
      generalize nth L k = x at hck hx hts
      have HTS := Lib.hid hts
      have HLK := Lib.hid hlk
      clear hts hlk
      have e1 : IntKind.u32.wrap (x : Int) = x := by rw [IntKind.wrap_u32g]; omega
      go_wp2_with (go_at_call 115; refine (push_any w1.heap.size (L.take k) C x (by omega) _ hG (by rw [HLK.out]; omega)).mono ?_; rintro e w2 ⟨rfl, hG2, hO2⟩)
      go_roundw
      case rel => exact ⟨k + 1, by omega, by go_num, by rw [HTS.out]; exact hG2, hMr.only hO2 (Nat.le_refl _), hRr.only hO2 (by omega), hO2.below hbr (by omega)⟩
      case measure => simp [intOf]; omega
    · obtain rfl : k = n := by omega
      have hGL : GAt wr w1.heap.size L C := by rwa [List.take_of_length_le (by omega)] at hG
      have HLL := Lib.hid hll
      clear hll hG hMr
      obtain ⟨g0, g1, g2, g3, g4, g5, g6, g7, g8, g9, g10, g11⟩ := hGL.facts
      obtain ⟨⟨u0, u1, u2, u3, u4, u5, u6, u7, u8, u9, u10, u11, d0, d1, d2, d3, d4, d5, d6, d7, d8, d9, d10, d11⟩, f0, f1, f2, f3, f4, f5, f6, f7, f8, f9, f10, f11⟩ := hRr.facts
      have hfin := GAt.store12 hRr L C hl10 hGL.r32
      have HFIN := Lib.hid hfin
      have HRr := Lib.hid hRr
      have HGL := Lib.hid hGL
      clear hfin hRr hGL
      go_wp2_with fail
      refine bodyPost_ret (v := .tuple #[.agg (gridC L C), .int .i64 0]) (grid_results (p := 2) (u := 3) (fn := Try.f79) rfl _ rfl HFIN.out) rfl ⟨rfl, ?_⟩
      exact (only12 wr _ _ _ _ _ _ _ _ _ _ _ _ _).below hbr (by simp)
theorem gridFor_yes (C : Nat) (L : List Nat) (hO : OkM C L) (b n cap : Nat) (w : World) (hM : Mt w b n (ints L)) :
    Calls Try.prog 79 #[.agg #[.int .i64 C, .slice (some ⟨b, 0, none⟩) n cap]] w fun e w' => e = .returned (.tuple #[.agg (gridC L C), .int .i64 0]) ∧ Below w.heap.size w w' :=
  gridFor_yesR C L hO (some ⟨b, 0, none⟩) n cap w hM.rd
end Go.Proofs.Ytilghmfffdmnjaa
