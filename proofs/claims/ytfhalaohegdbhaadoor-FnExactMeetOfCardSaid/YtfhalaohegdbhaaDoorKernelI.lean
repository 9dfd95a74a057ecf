/- The kernel: the program's. -/
import Derived.Test.YtfhalaohegdbhaaDoorValid
import Derived.Test.YtfhalaohegdbhaaDoorEchelonOf
import Derived.Test.YtfhalaohegdbhaaDoorKern
namespace Go.Proofs.YtfhalaohegdbhaaDoor
open Go.RowKit Go.Joins
set_option linter.unusedVariables false

/-- What the first j rows make of a column's row. -/
def krTo (e : List Nat) (col j : Nat) : Nat := kr (e.take j) col
theorem krTo_all (e : List Nat) (col : Nat) : krTo e col e.length = kr e col := by rw [krTo, List.take_length]
theorem krTo_zero (e : List Nat) (col : Nat) : krTo e col 0 = 2 ^ col := rfl
theorem krTo_succ {e : List Nat} {j : Nat} (col : Nat) (hj : j < e.length) : krTo e col (j + 1) = if (nth e j).testBit col then krTo e col j ^^^ 2 ^ ld (nth e j) else krTo e col j := by
  rw [krTo, take_succ' hj, kr, List.foldl_append]; rfl
theorem krTo_lt {c : Nat} {e : List Nat} (he : ∀ s ∈ e, s < 2 ^ c) (col : Nat) (hc : col < c) (j : Nat) : krTo e col j < 2 ^ c := kr_lt (fun s hs => he s (List.mem_of_mem_take hs)) col hc
/-- The kernel so far. -/
def kernTo (e : List Nat) (k : Nat) : List Nat := joined [] ((List.range k).map (kr e))
theorem kernTo_succ (e : List Nat) (k : Nat) : kernTo e (k + 1) = add (kernTo e k) (kr e k) := by
  rw [kernTo, range_succ_map, joined_snoc]; rfl
theorem kernTo_ech (e : List Nat) (k : Nat) : Ech (kernTo e k) := (joined_nil _).1
theorem kernTo_lt {c : Nat} {e : List Nat} (he : ∀ s ∈ e, s < 2 ^ c) (k : Nat) (hk : k ≤ c) : ∀ r ∈ kernTo e k, r < 2 ^ c := joined_lt .nil (by simp) (fun r hr => by
  obtain ⟨x, hx, rfl⟩ := List.mem_map.1 hr
  exact kr_lt he x (by have := List.mem_range.1 hx; omega))
theorem kernel_def (c : Nat) (L : List Nat) : kernel c L = kernTo (joined [] L) c := rfl

set_option maxRecDepth 100000 in
set_option maxHeartbeats 6400000 in
theorem kernel_any (C : Nat) (L : List Nat) (hC : C ≤ 10) (hL : ∀ r ∈ L, r < 2 ^ C) (hl : L.length ≤ 10) (w : World) (hT : Tab w) :
    Calls Tryd.prog 60 #[.agg (gridC L C)] w fun e w' => e = .returned (.agg (gridC (kernel C L) C)) ∧ Below w.heap.size w w' := by
  rw [kernel_def]
  have hR : Room ((w.alloc (.cells (gridC L C) 59)).alloc (.cells (gridC [] 0) 59)) (w.heap.size + 1) := by
    have := (GAt.start (w.alloc (.cells (gridC L C) 59)) [] 0 59 (by simp) (by intro j; simp [nth])).room
    simpa using this
  have hG := (GAt.start w L C 59 hl (lt32 (by omega) hL)).below (below_alloc1 _ (.cells (gridC [] 0) 59))
  have hb := below_alloc2 w (.cells (gridC L C) 59) (.cells (gridC [] 0) 59)
  have hEl := joined_len hC hL
  have hEj := (joined_spec L Ech.nil).1
  have hElt := joined_lt .nil (by simp) hL
  have S := echelon_any C L hC hL hl _ (hT.below hb)
  obtain ⟨E, hE⟩ : ∃ E, joined [] L = E := ⟨_, rfl⟩
  rw [hE] at S hEl hEj hElt ⊢
  have g0 : (gridC L C)[0]? = some (.int .i64 (L.length : Nat)) := rfl
  have g1 : (gridC L C)[1]? = some (.int .u32 (nth L 0 : Nat)) := rfl
  have g2 : (gridC L C)[2]? = some (.int .u32 (nth L 1 : Nat)) := rfl
  have g3 : (gridC L C)[3]? = some (.int .u32 (nth L 2 : Nat)) := rfl
  have g4 : (gridC L C)[4]? = some (.int .u32 (nth L 3 : Nat)) := rfl
  have g5 : (gridC L C)[5]? = some (.int .u32 (nth L 4 : Nat)) := rfl
  have g6 : (gridC L C)[6]? = some (.int .u32 (nth L 5 : Nat)) := rfl
  have g7 : (gridC L C)[7]? = some (.int .u32 (nth L 6 : Nat)) := rfl
  have g8 : (gridC L C)[8]? = some (.int .u32 (nth L 7 : Nat)) := rfl
  have g9 : (gridC L C)[9]? = some (.int .u32 (nth L 8 : Nat)) := rfl
  have g10 : (gridC L C)[10]? = some (.int .u32 (nth L 9 : Nat)) := rfl
  have g11 : (gridC L C)[11]? = some (.int .i64 C) := rfl
  have HS := Lib.hid S
  have HR := Lib.hid hR
  have HB := Lib.hid hb
  have HG := Lib.hid hG
  clear S hR hb hE hL hG
  go_enter Tryd.func60, Tryd.ntmps60
  go_wp2_with fail
  refine HS.out.mono ?_
  rintro e w1 ⟨rfl, hb1⟩
  have hR1 := HR.out.below hb1
  have hG1 := HG.out.below hb1
  have hbb := HB.out.trans (hb1.mono HB.out.size)
  have hs1 := hb1.size
  clear g0 g1 g2 g3 g4 g5 g6 g7 g8 g9 g10 g11 HR HB HG HS
  obtain ⟨w2, hst, hE2, hb2⟩ := grid_put w1 E C hEl (lt32 (by omega) hElt)
  have hR2 := hR1.below hb2
  have hG2 := hG1.below hb2
  have hbb2 := hbb.trans (hb2.mono hbb.size)
  have hs2 : w1.heap.size < w2.heap.size := hE2.lt
  have hb3 := below_alloc1 w2 (.cells #[.int .i64 0, .int .u32 0, .int .u32 0, .int .u32 0, .int .u32 0, .int .u32 0, .int .u32 0, .int .u32 0, .int .u32 0, .int .u32 0, .int .u32 0, .int .i64 C] 59)
  have hK3 : GAt (w2.alloc (.cells #[.int .i64 0, .int .u32 0, .int .u32 0, .int .u32 0, .int .u32 0, .int .u32 0, .int .u32 0, .int .u32 0, .int .u32 0, .int .u32 0, .int .u32 0, .int .i64 C] 59)) w2.heap.size [] C := GAt.start w2 [] C 59 (by simp) (by intro j; simp [nth])
  have hR3 := hR2.below hb3
  have hE3 := hE2.below hb3
  have c2 := hG2.c11
  have c3 := (hG2.below hb3).c11
  have HBB3 := Lib.hid (hbb2.trans (hb3.mono hbb2.size))
  have HR3 := Lib.hid hR3
  have HE3 := Lib.hid hE3
  have HK3 := Lib.hid hK3
  have hs3 : w.heap.size + 2 ≤ w1.heap.size := by simpa using hs1
  clear hR3 hE3 hK3 hbb2 hb3 hb2 hbb hb1 hR1 hR2 hG1 hG2 hE2 hs1
  go_wp2_with fail
  go_loopw [16] (fun i wr => ∃ k : Nat, k ≤ C ∧ i = .int .i64 k ∧ GAt wr w1.heap.size E C ∧ GAt wr w2.heap.size (kernTo E k) C ∧ Room wr (w.heap.size + 1) ∧ Below w.heap.size w wr) (fun i _ => C - (intOf i).toNat)
  case atStart => exact ⟨0, Nat.zero_le _, rfl, HE3.out, HK3.out, HR3.out, HBB3.out⟩
  case round =>
    obtain ⟨k, hk, rfl, hE, hK, hR, hb⟩ := hrel
    clear HE3 HK3 HR3 HBB3
    by_cases hkC : k < C
    · have hTr := hT.below hb
      have hKl := kernTo_lt hElt k hk
      have hKe := kernTo_ech E k
      have hx := kr_lt hElt k hkC
      have hx20 : kr E k < 2 ^ 20 := Nat.lt_of_lt_of_le hx (Nat.pow_le_pow_right (n := 2) (by omega) (by omega))
      have S := fun q0 => span_any w2.heap.size (kernTo E k) C hKe (lt20 (by omega) hKl) (kr E k) hx20 (wr.drewN q0) (hK.drewN q0) (hTr.drewN q0) (by have := hT.2; omega) (fun h => Nat.lt_of_lt_of_le (span_len hKe hKl hx h) hC)
      rw [← kernTo_succ, ← krTo_all] at S
      obtain ⟨P, hP⟩ : ∃ P : Nat, 2 ^ k = P := ⟨_, rfl⟩
      have hp : P ≤ 1024 := by rw [← hP]; exact pow_le10 (by omega)
      have hz0 := krTo_zero E k
      rw [hP] at hz0
      have HZ0 := Lib.hid hz0
      have HP := Lib.hid hP
      have HS := Lib.hid S
      have HK := Lib.hid hK
      have HR := Lib.hid hR
      have HB := Lib.hid hb
      have HTR := Lib.hid hTr
      clear S hK hR hb hKl hKe hx hx20 hTr hP hz0
      go_wp2_with (first | (go_at_call 85; refine (unit_any k (by omega) _).mono ?_; rw [HP.out]; rintro e w4 ⟨rfl, rfl⟩) | (go_at_call 86; refine (all_any w1.heap.size E C _ hE).mono ?_; rintro e w4 ⟨rfl, q0, rfl⟩))
      go_loop [6, 24] (fun r i => ∃ j : Nat, j ≤ E.length ∧ i = .int .i64 j ∧ r = .int .u32 (krTo E k j : Nat)) (fun _ i => E.length - (intOf i).toNat)
      case atStart => exact ⟨0, Nat.zero_le _, rfl, by rw [HZ0.out]⟩
      case round =>
        obtain ⟨j, hj, rfl, rfl⟩ := hrel
        by_cases hlj : j < E.length
        · have hrow := (hE.drewN q0).row j (by omega)
          have hs0 : nth E j < 2 ^ C := nth_bound hElt j
          have hne := nth_ne hEj hlj
          have hs20 := lt20 (show C ≤ 20 by omega) hElt j
          have hcs := krTo_succ k hlj
          have hr := krTo_lt hElt k hkC j
          have hr20 : krTo E k j < 2 ^ 20 := Nat.lt_of_lt_of_le hr (Nat.pow_le_pow_right (n := 2) (by omega) (by omega))
          have hld := ld_lt hs0 hne
          obtain ⟨s, hs⟩ : ∃ s, nth E j = s := ⟨_, rfl⟩
          rw [hs] at hrow hs0 hne hs20 hcs hld
          obtain ⟨r, hrr⟩ : ∃ r, krTo E k j = r := ⟨_, rfl⟩
          rw [hrr] at hcs hr20 ⊢
          have LX := Lib.hid (lead_any s hne (by omega) (wr.drewN q0) (HTR.out.drewN q0))
          obtain ⟨l, hl0⟩ : ∃ l, ld s = l := ⟨_, rfl⟩
          rw [hl0] at LX hcs hld
          obtain ⟨Q, hQ⟩ : ∃ Q : Nat, 2 ^ l = Q := ⟨_, rfl⟩
          have hq : Q ≤ 1024 := by rw [← hQ]; exact pow_le10 (by omega)
          rw [hQ] at hcs
          have HQ := Lib.hid hQ
          clear hQ hl0 hrr hs hr hs0 hne
          by_cases hbt : s.testBit k = true
          · rw [if_pos hbt] at hcs
            have HBT := Lib.hid hbt
            have HCS := Lib.hid hcs
            clear hbt hcs
            go_wp2_with (first | (go_at_call 87; refine (has_any s k (by omega) (by omega) _).mono ?_; rw [HBT.out]; rintro e w5 ⟨rfl, rfl⟩) | (go_at_call 89; refine LX.out.mono ?_; rintro e w5 ⟨rfl, rfl⟩) | (go_at_call 85; refine (unit_any l (by omega) _).mono ?_; rw [HQ.out]; rintro e w5 ⟨rfl, rfl⟩) | (go_at_call 88; refine (plus_any r Q (by omega) (by omega) _).mono ?_; rw [← HCS.out]; rintro e w5 ⟨rfl, rfl⟩))
            go_round
            case rel => exact ⟨j + 1, by omega, by go_num, rfl⟩
            case measure => simp [intOf]; omega
          · rw [if_neg hbt] at hcs
            have HBT := Lib.hid (show s.testBit k = false by simpa using hbt)
            have HCS := Lib.hid hcs
            clear hbt hcs
            go_wp2_with (go_at_call 87; refine (has_any s k (by omega) (by omega) _).mono ?_; rw [HBT.out]; rintro e w5 ⟨rfl, rfl⟩)
            go_round
            case rel => exact ⟨j + 1, by omega, by go_num, by rw [HCS.out]⟩
            case measure => simp [intOf]; omega
        · obtain rfl : j = E.length := by omega
          go_wp2_with (go_at_call 90; refine (HS.out q0).mono ?_; rintro e w5 ⟨rfl, hK2, hO2⟩)
          go_roundw
          case rel => exact ⟨k + 1, by omega, by go_num, (hE.drewN q0).only hO2 (by omega), hK2, (HR.out.drewN q0).only hO2 (by omega), hO2.below (HB.out.trans (below_draws _ _ _)) (by omega)⟩
          case measure => simp [intOf]; omega
    · obtain rfl : k = C := by omega
      obtain ⟨g0, g1, g2, g3, g4, g5, g6, g7, g8, g9, g10, g11⟩ := hK.facts
      obtain ⟨⟨u0, u1, u2, u3, u4, u5, u6, u7, u8, u9, u10, u11, d0, d1, d2, d3, d4, d5, d6, d7, d8, d9, d10, d11⟩, f0, f1, f2, f3, f4, f5, f6, f7, f8, f9, f10, f11⟩ := hR.facts
      have hfin := GAt.store12 hR (kernTo E k) k hK.len hK.r32
      have HFIN := Lib.hid hfin
      have HB := Lib.hid hb
      clear hfin hR hE hK hb
      go_wp2_with fail
      refine bodyPost_ret (v := .agg (gridC (kernTo E k) k)) (grid_result (p := 2) (fn := Tryd.f60) rfl _ rfl HFIN.out) rfl ⟨rfl, ?_⟩
      exact (only12 wr _ _ _ _ _ _ _ _ _ _ _ _ _).below HB.out (by omega)
end Go.Proofs.YtfhalaohegdbhaaDoor
