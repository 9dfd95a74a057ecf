/- The product of two rows: the model. · The kernel: the model's. · The kernel: the program's. · KernelOf: the program and the model. -/
import Derived.Test.YtilghmfffdmnjaaDoorSp1
import Derived.Test.YtilghmfffdmnjaaDoorDim2
import Derived.Test.YtilghmfffdmnjaaDoorEchelonOf
import Derived.Test.YtilghmfffdmnjaaDoorValid
import Derived.Test.YtilghmfffdmnjaaDoorGridFor
namespace Go.Proofs.YtilghmfffdmnjaaDoor
open Go.RowKit Go.Joins
set_option linter.unusedVariables false

/-- A truth as a number. -/
def b01 (b : Bool) : Nat := if b then 1 else 0
theorem b01_le (b : Bool) : b01 b ≤ 1 := by cases b <;> simp [b01]
theorem b01_xor (s : Bool) (y : Nat) : b01 s ^^^ (y % 2) = b01 (s ^^ (y % 2 == 1)) := by
  have : y % 2 = 0 ∨ y % 2 = 1 := by omega
  rcases this with h | h <;> rw [h] <;> cases s <;> rfl

end Go.Proofs.YtilghmfffdmnjaaDoor
namespace Go.Proofs.YtilghmfffdmnjaaDoor
open Go.RowKit Go.Joins
set_option linter.unusedVariables false

/-- The rows below x whose products with all rows are 0. -/
def anniTo (L : List Nat) (x : Nat) : List Nat := (List.range x).filter (fun x => L.all (fun r => !prd r x))
theorem anniTo_yes {L : List Nat} {x : Nat} (h : L.all (fun r => !prd r x) = true) : anniTo L (x + 1) = anniTo L x ++ [x] := by
  rw [anniTo, List.range_succ, List.filter_append, List.filter_cons, h]; rfl
theorem anniTo_no {L : List Nat} {x : Nat} (h : L.all (fun r => !prd r x) = false) : anniTo L (x + 1) = anniTo L x := by
  rw [anniTo, List.range_succ, List.filter_append, List.filter_cons, h]; simp [anniTo]
theorem anniTo_len (L : List Nat) (x : Nat) : (anniTo L x).length ≤ x := by
  have := List.length_filter_le (fun x => L.all (fun r => !prd r x)) (List.range x)
  rw [List.length_range] at this; exact this
theorem anniTo_lt (L : List Nat) (x : Nat) : ∀ r ∈ anniTo L x, r < x := fun r hr => List.mem_range.1 (List.mem_filter.1 hr).1
theorem anni_def (c : Nat) (L : List Nat) : anni c L = anniTo L (2 ^ c) := rfl
theorem OR.mt {W : World} {B g cap : Nat} {A : List Nat} (h : OR W B 2 g cap A) (hk : A.length ≤ 1048576) : Mt W g A.length (ints A) :=
  ⟨by rw [ints_length], hk, h.lt.2, fun j hj => by rw [ints_get]; exact h.cell j hj, fun j => h.free j⟩
theorem allTo_succ {L : List Nat} {x j : Nat} (hj : j < L.length) : (L.take (j + 1)).all (fun r => !prd r x) = ((L.take j).all (fun r => !prd r x) && !prd (nth L j) x) := by
  rw [take_succ' hj, List.all_append]; simp
theorem allTo_false {L : List Nat} {x j : Nat} (h : (L.take j).all (fun r => !prd r x) = false) : L.all (fun r => !prd r x) = false := by
  rw [← List.take_append_drop j L, List.all_append, h]; rfl

end Go.Proofs.YtilghmfffdmnjaaDoor
namespace Go.Proofs.YtilghmfffdmnjaaDoor
open Go.RowKit Go.Joins
set_option linter.unusedVariables false

/-- What the first j rows make of a column's row. -/
def krTo (e : List Nat) (col j : Nat) : Nat := kr (e.take j) col
theorem krTo_all (e : List Nat) (col : Nat) : krTo e col e.length = kr e col := by rw [krTo, List.take_length]
theorem krTo_zero (e : List Nat) (col : Nat) : krTo e col 0 = 2 ^ col := rfl
theorem krTo_succ {e : List Nat} {j : Nat} (col : Nat) (hj : j < e.length) : krTo e col (j + 1) = if (nth e j).testBit col then krTo e col j ^^^ 2 ^ ld (nth e j) else krTo e col j := by
  rw [krTo, take_succ' hj, kr, List.foldl_append]; rfl
theorem krTo_lt {c : Nat} {e : List Nat} (he : ∀ s ∈ e, s < 2 ^ c) (col : Nat) (hc : col < c) (j : Nat) : krTo e col j < 2 ^ c := kr_lt (fun s hs => he s (List.mem_of_mem_take hs)) col hc
/-- The kernel so far. -/
def kernTo (e : List Nat) (k : Nat) : List Nat := joined [] ((List.range k).map (kr e))
theorem kernTo_succ (e : List Nat) (k : Nat) : kernTo e (k + 1) = add (kernTo e k) (kr e k) := by
  rw [kernTo, range_succ_map, joined_snoc]; rfl
theorem kernTo_ech (e : List Nat) (k : Nat) : Ech (kernTo e k) := (joined_nil _).1
theorem kernTo_lt {c : Nat} {e : List Nat} (he : ∀ s ∈ e, s < 2 ^ c) (k : Nat) (hk : k ≤ c) : ∀ r ∈ kernTo e k, r < 2 ^ c := joined_lt .nil (by simp) (fun r hr => by
  obtain ⟨x, hx, rfl⟩ := List.mem_map.1 hr
  exact kr_lt he x (by have := List.mem_range.1 hx; omega))
theorem kernel_def (c : Nat) (L : List Nat) : kernel c L = kernTo (joined [] L) c := rfl

set_option maxRecDepth 100000 in
set_option maxHeartbeats 6400000 in
theorem kernel_any (C : Nat) (L : List Nat) (hC : C ≤ 10) (hL : ∀ r ∈ L, r < 2 ^ C) (hl : L.length ≤ 10) (w : World) (hT : Tab w) :
    Calls Tryd.prog 83 #[.agg (gridC L C)] w fun e w' => e = .returned (.agg (gridC (kernel C L) C)) ∧ Below w.heap.size w w' := by
  rw [kernel_def]
  have hR : Room ((w.alloc (.cells (gridC L C) 105)).alloc (.cells (gridC [] 0) 105)) (w.heap.size + 1) := by
    have := (GAt.start (w.alloc (.cells (gridC L C) 105)) [] 0 105 (by simp) (by intro j; simp [nth])).room
    simpa using this
  have hG := (GAt.start w L C 105 hl (lt32 (by omega) hL)).below (below_alloc1 _ (.cells (gridC [] 0) 105))
  have hb := below_alloc2 w (.cells (gridC L C) 105) (.cells (gridC [] 0) 105)
  have hEl := joined_len hC hL
  have hEj := (joined_spec L Ech.nil).1
  have hElt := joined_lt .nil (by simp) hL
  have S := echelon_any C L hC hL hl _ (hT.below hb)
  obtain ⟨E, hE⟩ : ∃ E, joined [] L = E := ⟨_, rfl⟩
  rw [hE] at S hEl hEj hElt ⊢
  have g0 : (gridC L C)[0]? = some (.int .i64 (L.length : Nat)) := rfl
  have g1 : (gridC L C)[1]? = some (.int .u32 (nth L 0 : Nat)) := rfl
  have g2 : (gridC L C)[2]? = some (.int .u32 (nth L 1 : Nat)) := rfl
  have g3 : (gridC L C)[3]? = some (.int .u32 (nth L 2 : Nat)) := rfl
  have g4 : (gridC L C)[4]? = some (.int .u32 (nth L 3 : Nat)) := rfl
  have g5 : (gridC L C)[5]? = some (.int .u32 (nth L 4 : Nat)) := rfl
  have g6 : (gridC L C)[6]? = some (.int .u32 (nth L 5 : Nat)) := rfl
  have g7 : (gridC L C)[7]? = some (.int .u32 (nth L 6 : Nat)) := rfl
  have g8 : (gridC L C)[8]? = some (.int .u32 (nth L 7 : Nat)) := rfl
  have g9 : (gridC L C)[9]? = some (.int .u32 (nth L 8 : Nat)) := rfl
  have g10 : (gridC L C)[10]? = some (.int .u32 (nth L 9 : Nat)) := rfl
  have g11 : (gridC L C)[11]? = some (.int .i64 C) := rfl
  have HS := Lib.hid S
  have HR := Lib.hid hR
  have HB := Lib.hid hb
  have HG := Lib.hid hG
  clear S hR hb hE hL hG
  go_enter Tryd.func83, Tryd.ntmps83
  go_wp2_with fail
  refine HS.out.mono ?_
  rintro e w1 ⟨rfl, hb1⟩
  have hR1 := HR.out.below hb1
  have hG1 := HG.out.below hb1
  have hbb := HB.out.trans (hb1.mono HB.out.size)
  have hs1 := hb1.size
  clear g0 g1 g2 g3 g4 g5 g6 g7 g8 g9 g10 g11 HR HB HG HS
  obtain ⟨w2, hst, hE2, hb2⟩ := grid_put w1 E C hEl (lt32 (by omega) hElt)
  have hR2 := hR1.below hb2
  have hG2 := hG1.below hb2
  have hbb2 := hbb.trans (hb2.mono hbb.size)
  have hs2 : w1.heap.size < w2.heap.size := hE2.lt
  have hb3 := below_alloc1 w2 (.cells #[.int .i64 0, .int .u32 0, .int .u32 0, .int .u32 0, .int .u32 0, .int .u32 0, .int .u32 0, .int .u32 0, .int .u32 0, .int .u32 0, .int .u32 0, .int .i64 C] 105)
  have hK3 : GAt (w2.alloc (.cells #[.int .i64 0, .int .u32 0, .int .u32 0, .int .u32 0, .int .u32 0, .int .u32 0, .int .u32 0, .int .u32 0, .int .u32 0, .int .u32 0, .int .u32 0, .int .i64 C] 105)) w2.heap.size [] C := GAt.start w2 [] C 105 (by simp) (by intro j; simp [nth])
  have hR3 := hR2.below hb3
  have hE3 := hE2.below hb3
  have c2 := hG2.c11
  have c3 := (hG2.below hb3).c11
  have HBB3 := Lib.hid (hbb2.trans (hb3.mono hbb2.size))
  have HR3 := Lib.hid hR3
  have HE3 := Lib.hid hE3
  have HK3 := Lib.hid hK3
  have hs3 : w.heap.size + 2 ≤ w1.heap.size := by simpa using hs1
  clear hR3 hE3 hK3 hbb2 hb3 hb2 hbb hb1 hR1 hR2 hG1 hG2 hE2 hs1
  go_wp2_with fail
  go_loopw [16] (fun i wr => ∃ k : Nat, k ≤ C ∧ i = .int .i64 k ∧ GAt wr w1.heap.size E C ∧ GAt wr w2.heap.size (kernTo E k) C ∧ Room wr (w.heap.size + 1) ∧ Below w.heap.size w wr) (fun i _ => C - (intOf i).toNat)
  case atStart => exact ⟨0, Nat.zero_le _, rfl, HE3.out, HK3.out, HR3.out, HBB3.out⟩
  case round =>
    obtain ⟨k, hk, rfl, hE, hK, hR, hb⟩ := hrel
    clear HE3 HK3 HR3 HBB3
    by_cases hkC : k < C
    · have hTr := hT.below hb
      have hKl := kernTo_lt hElt k hk
      have hKe := kernTo_ech E k
      have hx := kr_lt hElt k hkC
      have hx20 : kr E k < 2 ^ 20 := Nat.lt_of_lt_of_le hx (Nat.pow_le_pow_right (n := 2) (by omega) (by omega))
      have S := fun q0 => span_any w2.heap.size (kernTo E k) C hKe (lt20 (by omega) hKl) (kr E k) hx20 (wr.drewN q0) (hK.drewN q0) (hTr.drewN q0) (by have := hT.2; omega) (fun h => Nat.lt_of_lt_of_le (span_len hKe hKl hx h) hC)
      rw [← kernTo_succ, ← krTo_all] at S
      obtain ⟨P, hP⟩ : ∃ P : Nat, 2 ^ k = P := ⟨_, rfl⟩
      have hp : P ≤ 1024 := by rw [← hP]; exact pow_le10 (by omega)
      have hz0 := krTo_zero E k
      rw [hP] at hz0
      have HZ0 := Lib.hid hz0
      have HP := Lib.hid hP
      have HS := Lib.hid S
      have HK := Lib.hid hK
      have HR := Lib.hid hR
      have HB := Lib.hid hb
      have HTR := Lib.hid hTr
      clear S hK hR hb hKl hKe hx hx20 hTr hP hz0
      go_wp2_with (first | (go_at_call 86; refine (unit_any k (by omega) _).mono ?_; rw [HP.out]; rintro e w4 ⟨rfl, rfl⟩) | (go_at_call 90; refine (all_any w1.heap.size E C _ hE).mono ?_; rintro e w4 ⟨rfl, q0, rfl⟩))
      go_loop [6, 24] (fun r i => ∃ j : Nat, j ≤ E.length ∧ i = .int .i64 j ∧ r = .int .u32 (krTo E k j : Nat)) (fun _ i => E.length - (intOf i).toNat)
      case atStart => exact ⟨0, Nat.zero_le _, rfl, by rw [HZ0.out]⟩
      case round =>
        obtain ⟨j, hj, rfl, rfl⟩ := hrel
        by_cases hlj : j < E.length
        · have hrow := (hE.drewN q0).row j (by omega)
          have hs0 : nth E j < 2 ^ C := nth_bound hElt j
          have hne := nth_ne hEj hlj
          have hs20 := lt20 (show C ≤ 20 by omega) hElt j
          have hcs := krTo_succ k hlj
          have hr := krTo_lt hElt k hkC j
          have hr20 : krTo E k j < 2 ^ 20 := Nat.lt_of_lt_of_le hr (Nat.pow_le_pow_right (n := 2) (by omega) (by omega))
          have hld := ld_lt hs0 hne
          obtain ⟨s, hs⟩ : ∃ s, nth E j = s := ⟨_, rfl⟩
          rw [hs] at hrow hs0 hne hs20 hcs hld
          obtain ⟨r, hrr⟩ : ∃ r, krTo E k j = r := ⟨_, rfl⟩
          rw [hrr] at hcs hr20 ⊢
          have LX := Lib.hid (lead_any s hne (by omega) (wr.drewN q0) (HTR.out.drewN q0))
          obtain ⟨l, hl0⟩ : ∃ l, ld s = l := ⟨_, rfl⟩
          rw [hl0] at LX hcs hld
          obtain ⟨Q, hQ⟩ : ∃ Q : Nat, 2 ^ l = Q := ⟨_, rfl⟩
          have hq : Q ≤ 1024 := by rw [← hQ]; exact pow_le10 (by omega)
          rw [hQ] at hcs
          have HQ := Lib.hid hQ
          clear hQ hl0 hrr hs hr hs0 hne
          by_cases hbt : s.testBit k = true
          · rw [if_pos hbt] at hcs
            have HBT := Lib.hid hbt
            have HCS := Lib.hid hcs
            clear hbt hcs
            go_wp2_with (first | (go_at_call 121; refine (has_any s k (by omega) (by omega) _).mono ?_; rw [HBT.out]; rintro e w5 ⟨rfl, rfl⟩) | (go_at_call 119; refine LX.out.mono ?_; rintro e w5 ⟨rfl, rfl⟩) | (go_at_call 86; refine (unit_any l (by omega) _).mono ?_; rw [HQ.out]; rintro e w5 ⟨rfl, rfl⟩) | (go_at_call 91; refine (plus_any r Q (by omega) (by omega) _).mono ?_; rw [← HCS.out]; rintro e w5 ⟨rfl, rfl⟩))
            go_round
            case rel => exact ⟨j + 1, by omega, by go_num, rfl⟩
            case measure => simp [intOf]; omega
          · rw [if_neg hbt] at hcs
            have HBT := Lib.hid (show s.testBit k = false by simpa using hbt)
            have HCS := Lib.hid hcs
            clear hbt hcs
            go_wp2_with (go_at_call 121; refine (has_any s k (by omega) (by omega) _).mono ?_; rw [HBT.out]; rintro e w5 ⟨rfl, rfl⟩)
            go_round
            case rel => exact ⟨j + 1, by omega, by go_num, by rw [HCS.out]⟩
            case measure => simp [intOf]; omega
        · obtain rfl : j = E.length := by omega
          go_wp2_with (go_at_call 118; refine (HS.out q0).mono ?_; rintro e w5 ⟨rfl, hK2, hO2⟩)
          go_roundw
          case rel => exact ⟨k + 1, by omega, by go_num, (hE.drewN q0).only hO2 (by omega), hK2, (HR.out.drewN q0).only hO2 (by omega), hO2.below (HB.out.trans (below_draws _ _ _)) (by omega)⟩
          case measure => simp [intOf]; omega
    · obtain rfl : k = C := by omega
      obtain ⟨g0, g1, g2, g3, g4, g5, g6, g7, g8, g9, g10, g11⟩ := hK.facts
      obtain ⟨⟨u0, u1, u2, u3, u4, u5, u6, u7, u8, u9, u10, u11, d0, d1, d2, d3, d4, d5, d6, d7, d8, d9, d10, d11⟩, f0, f1, f2, f3, f4, f5, f6, f7, f8, f9, f10, f11⟩ := hR.facts
      have hfin := GAt.store12 hR (kernTo E k) k hK.len hK.r32
      have HFIN := Lib.hid hfin
      have HB := Lib.hid hb
      clear hfin hR hE hK hb
      go_wp2_with fail
      refine bodyPost_ret (v := .agg (gridC (kernTo E k) k)) (grid_result (p := 2) (fn := Tryd.f83) rfl _ rfl HFIN.out) rfl ⟨rfl, ?_⟩
      exact (only12 wr _ _ _ _ _ _ _ _ _ _ _ _ _).below HB.out (by omega)
end Go.Proofs.YtilghmfffdmnjaaDoor
namespace Go.Proofs.YtilghmfffdmnjaaDoor
open Go.RowKit Go.Joins
set_option linter.unusedVariables false

/-- The kernel of a matrix, with ErrInvalid first. -/
def fKernelOf (c : Int) (zs : List Int) : Int × List Int × Int := mk1 c zs fun C L => (C, ints (kernel C L), 0)
theorem kernel_len {C : Nat} {L : List Nat} (hC : C ≤ 10) (hL : ∀ r ∈ L, r < 2 ^ C) : (kernel C L).length ≤ 10 := Nat.le_trans ((kernel_ech C L).len (kernel_lt hL)) hC


set_option maxRecDepth 100000 in
set_option maxHeartbeats 1600000 in
theorem implKernelOf_anyR (c : Int) (A : Option Addr) (n cap : Nat) (xs : List Int) (w : World) (hM : Rd w w.heap.size A n xs) (hT : Tab w) :
    Calls Tryd.prog 37 #[.agg #[.int .i64 c, .slice A n cap]] w fun e w' => ∃ v, e = .returned (.tuple #[.agg #[.int .i64 (fKernelOf c xs).1, v], .int .i64 (fKernelOf c xs).2.2]) ∧ Below w.heap.size w w' ∧ Res w' w.heap.size w'.heap.size v (fKernelOf c xs).2.1 := by
  unfold fKernelOf
  have hR : MRoom ((w.alloc (.cells #[.int .i64 c, .slice A n cap] 50)).alloc (.cells #[.int .i64 0, .slice none 0 0] 50)) (w.heap.size + 1) := by simpa using MRoom.start (w.alloc (.cells #[.int .i64 c, .slice A n cap] 50)) (.int .i64 0) (.slice none 0 0) 50
  have hb0 := below_alloc2 w (.cells #[.int .i64 c, .slice A n cap] 50) (.cells #[.int .i64 0, .slice none 0 0] 50)
  have hM0 := hM.below hb0
  cases hk : okM c xs with
  | false =>
    rw [mk1_no hk]
    go_enter Tryd.func37, Tryd.ntmps37
    go_wp2_with fail
    refine (gridFor_noR c A n cap xs _ hM0 hk).mono ?_
    rintro e w1 ⟨rfl, hb⟩
    have hR1 := hR.below hb
    have hb1 := hb0.trans (hb.mono hb0.size)
    have hlt1 := hR1.lt
    clear hb hR hb0
    obtain ⟨w2, hst, hG2, hb⟩ := grid_put w1 [] 0 (by simp) (by intro j; simp [nth])
    have hR2 := hR1.below hb
    have hb2 := hb1.trans (hb.mono hb1.size)
    clear hb hb1
    obtain ⟨x, y, h0, h1⟩ := hR2.ex
    have f0 := hR2.f0
    have f1 := hR2.f1
    go_wp2_with fail
    refine bodyPost_ret (v := .tuple #[.agg #[.int .i64 0, .slice none 0 0], .int .i64 1]) (mat_results (p := 2) (u := 3) (fn := Tryd.f37) rfl _ rfl (two_setCell _ _ _ _ h0 h1).1 (two_setCell _ _ _ _ h0 h1).2) rfl ⟨_, rfl, ?_, .nil none 0⟩
    exact (only2 _ _ _ _).below hb2 (by simp)
  | true =>
    obtain ⟨C, L, rfl, rfl, hO⟩ := okM_nat hk
    rw [mk1_yes hO]
    have hn10 := hO.n10
    have hc10 := hO.c10
    have E := fun w hT => kernel_any C L hc10 hO.lt hn10 w hT
    have hJ := kernel_len hc10 hO.lt
    have hJ2 := lt32 (show C ≤ 20 by omega) (kernel_lt hO.lt)
    generalize kernel C L = J at E hJ hJ2 ⊢
    have EE := Lib.hid E
    have HJ2 := Lib.hid hJ2
    clear E hJ2
    go_enter Tryd.func37, Tryd.ntmps37
    go_wp2_with fail
    refine (gridFor_yesR C L hO A n cap _ hM0).mono ?_
    rintro e w1 ⟨rfl, hb⟩
    have hR1 := hR.below hb
    have hb1 := hb0.trans (hb.mono hb0.size)
    have hlt1 := hR1.lt
    clear hb hR hb0
    obtain ⟨w2, hst, hG2, hb⟩ := grid_put w1 L C hn10 (fun j => Nat.lt_trans (hO.get' j) (by omega))
    have hR2 := hR1.below hb
    have hb2 := hb1.trans (hb.mono hb1.size)
    clear hb hb1
    obtain ⟨g0, g1, g2, g3, g4, g5, g6, g7, g8, g9, g10, g11⟩ := hG2.facts
    have HS := Lib.hid (EE.out _ (hT.below hb2))
    clear hT
    go_wp2_with fail
    refine HS.out.mono ?_
    rintro e w3 ⟨rfl, hb⟩
    have hR3 := hR2.below hb
    have hb3 := hb2.trans (hb.mono hb2.size)
    clear hb hR2 hb2 g0 g1 g2 g3 g4 g5 g6 g7 g8 g9 g10 g11
    go_wp2_with fail
    refine (matrix_any J C hJ HJ2.out _).mono ?_
    rintro e w4 ⟨v, rfl, hb, hV⟩
    have hR4 := hR3.below hb
    have hb4 := hb3.trans (hb.mono hb3.size)
    have hs4 := hb3.size
    have hq4 : w.heap.size + 1 < w3.heap.size := hR3.lt
    clear hb hR3 hb3
    obtain ⟨x, y, h0, h1⟩ := hR4.ex
    have f0 := hR4.f0
    have f1 := hR4.f1
    obtain ⟨ao, m, cap', rfl⟩ := hV.form
    have HV := Lib.hid hV
    clear hV
    go_wp2_with fail
    refine bodyPost_ret (v := .tuple #[.agg #[.int .i64 C, _], .int .i64 0]) (mat_results (p := 2) (u := 3) (fn := Tryd.f37) rfl _ rfl (two_setCell _ _ _ _ h0 h1).1 (two_setCell _ _ _ _ h0 h1).2) rfl ⟨_, rfl, ?_, HV.out.fin (q := w.heap.size + 1) (by omega) (by omega) _ _⟩
    exact (only2 _ _ _ _).below hb4 (by simp)
theorem implKernelOf_any (c : Int) (b n cap : Nat) (xs : List Int) (w : World) (hM : Mt w b n xs) (hT : Tab w) :
    Calls Tryd.prog 37 #[.agg #[.int .i64 c, .slice (some ⟨b, 0, none⟩) n cap]] w fun e w' => ∃ v, e = .returned (.tuple #[.agg #[.int .i64 (fKernelOf c xs).1, v], .int .i64 (fKernelOf c xs).2.2]) ∧ Below w.heap.size w w' ∧ Res w' w.heap.size w'.heap.size v (fKernelOf c xs).2.1 :=
  implKernelOf_anyR c (some ⟨b, 0, none⟩) n cap xs w hM.rd hT
end Go.Proofs.YtilghmfffdmnjaaDoor
