/- SolveRows: the program and the model. -/
import Derived.Test.YtilghmfffdmnjaaDoorValid
import Derived.Test.YtilghmfffdmnjaaDoorGridFor
import Derived.Test.YtilghmfffdmnjaaDoorSum
namespace Go.Proofs.YtilghmfffdmnjaaDoor
open Go.RowKit Go.Joins
set_option linter.unusedVariables false

/-- The least number below n whose bits tell rows with the sum row. -/
def least (L : List Nat) (row : Int) (n : Nat) : Option Nat := (List.range n).find? fun k => decide ((tms k L L.length : Int) = row)
theorem least_none {L : List Nat} {row : Int} {n : Nat} (h : ∀ j, j < n → ¬ (tms j L L.length : Int) = row) : least L row n = none := by
  rw [least, List.find?_eq_none]
  intro j hj
  simpa using h j (List.mem_range.1 hj)
theorem least_some {L : List Nat} {row : Int} {n k : Nat} (hk : k < n) (h : ∀ j, j < k → ¬ (tms j L L.length : Int) = row) (he : (tms k L L.length : Int) = row) : least L row n = some k := by
  rw [least, List.find?_range_eq_some]
  refine ⟨by simpa using he, List.mem_range.2 hk, fun j hj => by simpa using h j hj⟩
def fSolveRows (c : Int) (zs : List Int) (row : Int) : Int × Int :=
  if okM c zs = true then (if 0 ≤ row ∧ row < 2 ^ c.toNat then (match least (zs.map Int.toNat) row (2 ^ zs.length) with | some k => ((k : Int), 0) | none => (0, 6)) else (0, 2)) else (0, 1)
theorem fSolve_no {c : Int} {zs : List Int} (h : okM c zs = false) (row : Int) : fSolveRows c zs row = (0, 1) := by rw [fSolveRows, if_neg (by rw [h]; simp)]
theorem fSolve_range {C : Nat} {L : List Nat} (hO : OkM C L) {row : Int} (h : ¬ (0 ≤ row ∧ row < 2 ^ C)) : fSolveRows C (ints L) row = (0, 2) := by
  rw [fSolveRows, if_pos (okM_ints hO), Int.toNat_natCast, if_neg h]
theorem fSolve_some {C : Nat} {L : List Nat} (hO : OkM C L) {row : Int} (h : 0 ≤ row ∧ row < 2 ^ C) {k : Nat} (hk : k < 2 ^ L.length) (hj : ∀ j, j < k → ¬ (tms j L L.length : Int) = row) (he : (tms k L L.length : Int) = row) : fSolveRows C (ints L) row = ((k : Int), 0) := by
  rw [fSolveRows, if_pos (okM_ints hO), Int.toNat_natCast, if_pos h, toNats_ints, ints_length, least_some hk hj he]
theorem fSolve_none {C : Nat} {L : List Nat} (hO : OkM C L) {row : Int} (h : 0 ≤ row ∧ row < 2 ^ C) (hj : ∀ j, j < 2 ^ L.length → ¬ (tms j L L.length : Int) = row) : fSolveRows C (ints L) row = (0, 6) := by
  rw [fSolveRows, if_pos (okM_ints hO), Int.toNat_natCast, if_pos h, toNats_ints, ints_length, least_none hj]


set_option maxHeartbeats 1600000 in
theorem implSolveRows_anyR (c : Int) (A : Option Addr) (n cap : Nat) (xs : List Int) (row : Int) (w : World) (hM : Rd w w.heap.size A n xs) :
    Calls Tryd.prog 39 #[.agg #[.int .i64 c, .slice A n cap], .int .i64 row] w fun e w' => e = .returned (.tuple #[.int .i64 (fSolveRows c xs row).1, .int .i64 (fSolveRows c xs row).2]) ∧ Below w.heap.size w w' := by
  have hb0 := fun (c : Int) => below_alloc1 w (.cells #[.int .i64 c, .slice A n cap] 50)
  cases hk : okM c xs with
  | false =>
    rw [fSolve_no hk]
    have hb0 := hb0 c
    go_enter Tryd.func39, Tryd.ntmps39
    go_wp2_with fail
    refine (gridFor_noR c A n cap xs _ (hM.below hb0) hk).mono ?_
    rintro e w1 ⟨rfl, hb⟩
    have hb1 := hb0.trans (hb.mono hb0.size)
    obtain ⟨w2, hst, hG2, hb'⟩ := grid_put w1 [] 0 (by simp) (by intro j; simp [nth])
    have hb2 := hb1.trans (hb'.mono hb1.size)
    clear hb hb0 hb1 hb'
    go_wp2_with fail
    go_ret2
    exact ⟨rfl, hb2⟩
  | true =>
    obtain ⟨C, L, rfl, rfl, hO⟩ := okM_nat hk
    have hb0 := hb0 C
    have hn10 := hO.n10
    have hc10 := hO.c10
    have hg := hO.get'
    by_cases hrow : 0 ≤ row ∧ row < 2 ^ C
    · have HD := Lib.hid (decide_eq_true hrow)
      obtain ⟨P, hP⟩ : ∃ P : Nat, 2 ^ L.length = P := ⟨_, rfl⟩
      have hp : P ≤ 1024 := by rw [← hP]; exact pow_le10 hn10
      have HP := Lib.hid hP
      have HROW := Lib.hid hrow
      clear hP hrow
      obtain ⟨r, hr⟩ : ∃ r, fSolveRows C (ints L) row = r := ⟨_, rfl⟩
      have HR := Lib.hid hr
      rw [hr]
      clear hr
      go_enter Tryd.func39, Tryd.ntmps39
      go_wp2_with fail
      refine (gridFor_yesR C L hO A n cap _ (hM.below hb0)).mono ?_
      rintro e w1 ⟨rfl, hb⟩
      have hb1 := hb0.trans (hb.mono hb0.size)
      obtain ⟨w2, hst, hG2, hb'⟩ := grid_put w1 L C hn10 (fun j => Nat.lt_trans (hg j) (by omega))
      have hb2 := hb1.trans (hb'.mono hb1.size)
      have g0 := hG2.c0
      have g11 := hG2.c11
      clear hb hb0 hb1 hb'
      go_wp2_with (first | (go_at_call 85; refine (isRow_any C (by omega) _ _).mono ?_; rw [HD.out]; rintro e w1 ⟨rfl, rfl⟩) | (go_at_call 86; refine (unit_any L.length (by omega) _).mono ?_; rw [HP.out]; rintro e w1 ⟨rfl, rfl⟩))
      go_loopw [26] (fun i wr => ∃ k q : Nat, k ≤ P ∧ i = .int .u32 k ∧ wr = w2.drewN q ∧ ∀ j, j < k → ¬ (tms j L L.length : Int) = row) (fun i _ => P - (intOf i).toNat)
      case atStart => exact ⟨0, 0, Nat.zero_le _, rfl, rfl, fun j hj => by omega⟩
      case round =>
        obtain ⟨k, q, hk, rfl, rfl, hno⟩ := hrel
        have HNO := Lib.hid hno
        clear hno
        by_cases hlt : k < P
        · obtain ⟨s, hs⟩ : ∃ s : Nat, tms k L L.length = s := ⟨_, rfl⟩
          have hs1 := nth_le hg k L.length
          rw [hs] at hs1
          have HS := Lib.hid hs
          clear hs
          by_cases he : (s : Int) = row
          · subst he
            go_wp2_with (go_at_call 87; refine (sum_any w1.heap.size L C hg k (by omega) _ (hG2.drewN q)).mono ?_; rw [HS.out]; rintro e w3 ⟨rfl, q2, rfl⟩)
            go_ret2
            exact ⟨by rw [← HR.out, fSolve_some hO HROW.out (by rw [HP.out]; exact hlt) HNO.out (congrArg Int.ofNat HS.out)]; rfl, hb2.trans (below_draws _ _ _)⟩
          · go_wp2_with (go_at_call 87; refine (sum_any w1.heap.size L C hg k (by omega) _ (hG2.drewN q)).mono ?_; rw [HS.out]; rintro e w3 ⟨rfl, q2, rfl⟩)
            go_roundw
            case rel => exact ⟨k + 1, q + q2, by omega, by go_num, rfl, fun j hj => by
              by_cases e : j = k
              · subst e; rw [HS.out]; exact he
              · exact HNO.out j (by omega)⟩
            case measure => simp [intOf]; omega
        · obtain rfl : k = P := by omega
          go_wp2_with fail
          go_ret2
          exact ⟨by rw [← HR.out, fSolve_none hO HROW.out (by rw [HP.out]; exact HNO.out)]; rfl, hb2.trans (below_draws _ _ _)⟩
    · rw [fSolve_range hO hrow]
      have HD := Lib.hid (decide_eq_false hrow)
      clear hrow
      go_enter Tryd.func39, Tryd.ntmps39
      go_wp2_with fail
      refine (gridFor_yesR C L hO A n cap _ (hM.below hb0)).mono ?_
      rintro e w1 ⟨rfl, hb⟩
      have hb1 := hb0.trans (hb.mono hb0.size)
      obtain ⟨w2, hst, hG2, hb'⟩ := grid_put w1 L C hn10 (fun j => Nat.lt_trans (hg j) (by omega))
      have hb2 := hb1.trans (hb'.mono hb1.size)
      have g0 := hG2.c0
      have g11 := hG2.c11
      clear hb hb0 hb1 hb'
      go_wp2_with (go_at_call 85; refine (isRow_any C (by omega) _ _).mono ?_; rw [HD.out]; rintro e w1 ⟨rfl, rfl⟩)
      go_ret2
      exact ⟨rfl, hb2⟩
theorem implSolveRows_any (c : Int) (b n cap : Nat) (xs : List Int) (row : Int) (w : World) (hM : Mt w b n xs) :
    Calls Tryd.prog 39 #[.agg #[.int .i64 c, .slice (some ⟨b, 0, none⟩) n cap], .int .i64 row] w fun e w' => e = .returned (.tuple #[.int .i64 (fSolveRows c xs row).1, .int .i64 (fSolveRows c xs row).2]) ∧ Below w.heap.size w w' :=
  implSolveRows_anyR c (some ⟨b, 0, none⟩) n cap xs row w hM.rd

end Go.Proofs.YtilghmfffdmnjaaDoor
