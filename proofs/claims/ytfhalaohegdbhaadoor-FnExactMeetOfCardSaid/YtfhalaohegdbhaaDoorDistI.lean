/- The distance of two spaces: the program's. -/
import Derived.Test.YtfhalaohegdbhaaDoorRankOf
import Derived.Test.YtfhalaohegdbhaaDoorGridEq
import Derived.Test.YtfhalaohegdbhaaDoorDistance
namespace Go.Proofs.YtfhalaohegdbhaaDoor
open Go.RowKit Go.Joins
set_option linter.unusedVariables false

set_option maxRecDepth 100000 in
set_option maxHeartbeats 3200000 in
theorem distance_any (C : Nat) (L M : List Nat) (hO : OkM C L) (hP : OkM C M) (hE : Ech L) (w : World) (hT : Tab w) :
    Calls Tryd.prog 69 #[.agg (gridC L C), .agg (gridC M C)] w fun e w' => e = .returned (.int .i64 (dist L M)) ∧ Below w.heap.size w w' := by
  have hc10 := hO.c10
  have hl := hO.n10
  have hm := hP.n10
  have E := fun w hT => joined_any C C L M hc10 hE hO.lt hP.lt hm w hT
  have hjl : (joined L M).length ≤ 10 := Nat.le_trans ((joined_spec M hE).1.len (joined_lt hE hO.lt hP.lt)) hc10
  unfold dist
  generalize joined L M = J at E hjl ⊢
  have hf1 : ∀ w, (Instr.field 59 (.agg (gridC J C)) 0).run Tryd.prog w = .ok (.agg (listC J)) w := fun w => field_rows _ _ _ _ _ _ _ _ _ _ _ _ w
  have hf2 : ∀ w, (Instr.field 57 (.agg (listC J)) 0).run Tryd.prog w = .ok (.int .i64 (J.length : Nat)) w := fun w => field_count _ _ _ _ _ _ _ _ _ _ _ w
  have hb0 := (below_alloc2 w (.cells (gridC L C) 59) (.cells (gridC M C) 59)).drew
  have hG : GAt (World.drew ((w.alloc (.cells (gridC L C) 59)).alloc (.cells (gridC M C) 59))) w.heap.size L C :=
    ((GAt.start w L C 59 hl (lt32 (by omega) hO.lt)).below (below_alloc1 _ _)).drewN 1
  have hH : GAt (World.drew ((w.alloc (.cells (gridC L C) 59)).alloc (.cells (gridC M C) 59))) (w.heap.size + 1) M C := by
    have h := GAt.start (w.alloc (.cells (gridC L C) 59)) M C 59 hm (lt32 (by omega) hP.lt)
    have h2 : GAt ((w.alloc (.cells (gridC L C) 59)).alloc (.cells (gridC M C) 59)) (w.heap.size + 1) M C := by simpa using h
    exact h2.drewN 1
  have HT := Lib.hid (hT.below hb0)
  obtain ⟨g0, g1, g2, g3, g4, g5, g6, g7, g8, g9, g10, g11⟩ := hG.facts
  obtain ⟨m0, m1, m2, m3, m4, m5, m6, m7, m8, m9, m10, m11⟩ := hH.facts
  have HG := Lib.hid hG
  have HH := Lib.hid hH
  have HB := Lib.hid hb0
  have EE := Lib.hid E
  clear hG hH hb0 E hT hE
  go_enter Tryd.func69, Tryd.ntmps69
  go_wp2_with fail
  go_region_held3 (fun w' => w'.cell? ⟨w.heap.size, 0, none⟩ = some (.int .i64 (L.length : Nat)) ∧ w'.cell? ⟨w.heap.size, 1, none⟩ = some (.int .u32 (nth L 0 : Nat)) ∧ w'.cell? ⟨w.heap.size, 2, none⟩ = some (.int .u32 (nth L 1 : Nat)) ∧ w'.cell? ⟨w.heap.size, 3, none⟩ = some (.int .u32 (nth L 2 : Nat)) ∧ w'.cell? ⟨w.heap.size, 4, none⟩ = some (.int .u32 (nth L 3 : Nat)) ∧ w'.cell? ⟨w.heap.size, 5, none⟩ = some (.int .u32 (nth L 4 : Nat)) ∧ w'.cell? ⟨w.heap.size, 6, none⟩ = some (.int .u32 (nth L 5 : Nat)) ∧ w'.cell? ⟨w.heap.size, 7, none⟩ = some (.int .u32 (nth L 6 : Nat)) ∧ w'.cell? ⟨w.heap.size, 8, none⟩ = some (.int .u32 (nth L 7 : Nat)) ∧ w'.cell? ⟨w.heap.size, 9, none⟩ = some (.int .u32 (nth L 8 : Nat)) ∧ w'.cell? ⟨w.heap.size, 10, none⟩ = some (.int .u32 (nth L 9 : Nat)) ∧ w'.cell? ⟨w.heap.size, 11, none⟩ = some (.int .i64 C) ∧ w'.cell? ⟨w.heap.size + 1, 0, none⟩ = some (.int .i64 (M.length : Nat)) ∧ w'.cell? ⟨w.heap.size + 1, 1, none⟩ = some (.int .u32 (nth M 0 : Nat)) ∧ w'.cell? ⟨w.heap.size + 1, 2, none⟩ = some (.int .u32 (nth M 1 : Nat)) ∧ w'.cell? ⟨w.heap.size + 1, 3, none⟩ = some (.int .u32 (nth M 2 : Nat)) ∧ w'.cell? ⟨w.heap.size + 1, 4, none⟩ = some (.int .u32 (nth M 3 : Nat)) ∧ w'.cell? ⟨w.heap.size + 1, 5, none⟩ = some (.int .u32 (nth M 4 : Nat)) ∧ w'.cell? ⟨w.heap.size + 1, 6, none⟩ = some (.int .u32 (nth M 5 : Nat)) ∧ w'.cell? ⟨w.heap.size + 1, 7, none⟩ = some (.int .u32 (nth M 6 : Nat)) ∧ w'.cell? ⟨w.heap.size + 1, 8, none⟩ = some (.int .u32 (nth M 7 : Nat)) ∧ w'.cell? ⟨w.heap.size + 1, 9, none⟩ = some (.int .u32 (nth M 8 : Nat)) ∧ w'.cell? ⟨w.heap.size + 1, 10, none⟩ = some (.int .u32 (nth M 9 : Nat)) ∧ w'.cell? ⟨w.heap.size + 1, 11, none⟩ = some (.int .i64 C)) (first | with_reducible exact ⟨g0, g1, g2, g3, g4, g5, g6, g7, g8, g9, g10, g11, m0, m1, m2, m3, m4, m5, m6, m7, m8, m9, m10, m11⟩ | with_reducible exact ⟨by assumption, by assumption, by assumption, by assumption, by assumption, by assumption, by assumption, by assumption, by assumption, by assumption, by assumption, by assumption, by assumption, by assumption, by assumption, by assumption, by assumption, by assumption, by assumption, by assumption, by assumption, by assumption, by assumption, by assumption⟩) (first | (go_at_call 66; refine (EE.out _ HT.out).mono ?_; rintro e w3 ⟨rfl, hb3⟩; have hG3 := HG.out.below hb3; have hH3 := HH.out.below hb3; have HB3 := Lib.hid (HB.out.trans (hb3.mono HB.out.size)); obtain ⟨t0, t1, t2, t3, t4, t5, t6, t7, t8, t9, t10, t11⟩ := hG3.facts; obtain ⟨r0, r1, r2, r3, r4, r5, r6, r7, r8, r9, r10, r11⟩ := hH3.facts; clear hb3 hG3 hH3))
  all_goals
    clear g0 g1 g2 g3 g4 g5 g6 g7 g8 g9 g10 g11 m0 m1 m2 m3 m4 m5 m6 m7 m8 m9 m10 m11
    go_wp2_with fail
    go_ret
    exact ⟨ret_int (by rw [IntKind.wrap_i64, IntKind.wrap_i64, IntKind.wrap_i64]; omega), HB3.out⟩
end Go.Proofs.YtfhalaohegdbhaaDoor
