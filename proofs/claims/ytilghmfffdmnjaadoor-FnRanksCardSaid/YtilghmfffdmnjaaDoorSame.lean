/- Whether two rows of numbers are equal: the model. · Whether two rows of numbers are equal, and two matrices: the model and the program. -/
import Derived.Test.YtilghmfffdmnjaaDoorRes
import Derived.Test.YtilghmfffdmnjaaDoorValid
namespace Go.Proofs.YtilghmfffdmnjaaDoor
open Go.RowKit Go.Joins
set_option linter.unusedVariables false

theorem same_yes {xs ys : List Int} (h : xs.length = ys.length) (k : ∀ j, j < xs.length → xs[j]?.getD 0 = ys[j]?.getD 0) : xs = ys := by
  refine List.ext_getElem h (fun j h1 h2 => ?_)
  have := k j h1
  rwa [List.getElem?_eq_getElem h1, List.getElem?_eq_getElem h2] at this

set_option maxHeartbeats 1600000 in
theorem l00Same_anyR (A : Option Addr) (n cap : Nat) (A' : Option Addr) (n' cap' : Nat) (xs ys : List Int) (w : World) (hA : Rd w w.heap.size A n xs) (hB : Rd w w.heap.size A' n' ys) :
    Calls Tryd.prog 73 #[.slice A n cap, .slice A' n' cap'] w fun e w' => e = .returned (.bool (decide (xs = ys))) ∧ Below w.heap.size w w' := by
  have la := hA.len
  have lb := hB.len
  have sa := hA.small
  have sb := hB.small
  by_cases hn : n = n'
  · subst hn
    go_enter Tryd.func73, Tryd.ntmps73
    go_wp2
    go_loopw [5] (fun i wr => ∃ k q : Nat, k ≤ n ∧ i = .int .i64 k ∧ wr = w.drewN q ∧ ∀ j, j < k → xs[j]?.getD 0 = ys[j]?.getD 0) (fun i _ => n - (intOf i).toNat)
    case atStart => exact ⟨0, 0, Nat.zero_le _, rfl, rfl, fun j hj => by omega⟩
    case round =>
      obtain ⟨k, q, hk, rfl, rfl, hs⟩ := hrel
      have HS := Lib.hid hs
      clear hs
      by_cases hlt : k < n
      · obtain ⟨b, rfl, -, hc1⟩ := (hA.drewN q).cell k hlt
        obtain ⟨b', rfl, -, hc2⟩ := (hB.drewN q).cell k hlt
        obtain ⟨x, hx⟩ : ∃ x, xs[k]?.getD 0 = x := ⟨_, rfl⟩
        obtain ⟨y, hy⟩ : ∃ y, ys[k]?.getD 0 = y := ⟨_, rfl⟩
        rw [hx] at hc1
        rw [hy] at hc2
        have HX := Lib.hid hx
        have HY := Lib.hid hy
        clear hx hy
        generalize hwq : w.drewN q = W at hc1 hc2 ⊢
        have HW := Lib.hid hwq
        clear hwq
        by_cases hxy : x = y
        · subst hxy
          go_wp2
          go_quiet (fail)
          go_wp2
          go_roundw
          case rel => exact ⟨k + 1, q + _, by omega, by go_num, by rw [← HW.out, World.drewN_drewN], fun i hi => by
            by_cases e : i = k
            · subst e; rw [HX.out, HY.out]
            · exact HS.out i (by omega)⟩
          case measure => simp [intOf]; omega
        · go_wp2
          go_quiet (fail)
          go_wp2
          go_ret
          exact ⟨ret_bool (Eq.symm (decide_eq_false (fun h => hxy (by rw [← HX.out, ← HY.out, h])))), by rw [← HW.out, World.drewN_drewN]; exact below_draws _ _ _⟩
      · obtain rfl : k = n := by omega
        go_wp2
        go_ret
        exact ⟨ret_bool (Eq.symm (decide_eq_true (same_yes (by omega) (by rw [la]; exact HS.out)))), below_draws _ _ _⟩
  · have hne : ¬ (n : Int) = n' := by omega
    go_enter Tryd.func73, Tryd.ntmps73
    go_wp2
    go_ret
    exact ⟨ret_bool (Eq.symm (decide_eq_false (fun h => hn (by rw [← la, ← lb, h])))), Below.refl _ _⟩
theorem l00Same_any (b n cap b' n' cap' : Nat) (xs ys : List Int) (w : World) (hA : Mt w b n xs) (hB : Mt w b' n' ys) :
    Calls Tryd.prog 73 #[.slice (some ⟨b, 0, none⟩) n cap, .slice (some ⟨b', 0, none⟩) n' cap'] w fun e w' => e = .returned (.bool (decide (xs = ys))) ∧ Below w.heap.size w w' :=
  l00Same_anyR (some ⟨b, 0, none⟩) n cap (some ⟨b', 0, none⟩) n' cap' xs ys w hA.rd hB.rd
end Go.Proofs.YtilghmfffdmnjaaDoor
namespace Go.Proofs.YtilghmfffdmnjaaDoor
open Go.RowKit Go.Joins
set_option linter.unusedVariables false


/-- Whether two matrices are deeply equal. -/
def fSameMatrix (c : Int) (xs : List Int) (d : Int) (ys : List Int) : Bool := decide (c = d) && decide (xs = ys)

set_option maxHeartbeats 1600000 in
theorem specSameMatrix_anyR (c : Int) (A : Option Addr) (n cap : Nat) (xs : List Int) (d : Int) (A' : Option Addr) (n' cap' : Nat) (ys : List Int) (w : World) (hA : Rd w w.heap.size A n xs) (hB : Rd w w.heap.size A' n' ys) :
    Calls Tryd.prog 35 #[.agg #[.int .i64 c, .slice A n cap], .agg #[.int .i64 d, .slice A' n' cap']] w fun e w' => e = .returned (.bool (fSameMatrix c xs d ys)) ∧ Below w.heap.size w w' := by
  have hA2 := hA.below (below_alloc2 w (.cells #[.int .i64 c, .slice A n cap] 50) (.cells #[.int .i64 d, .slice A' n' cap'] 50))
  have hB2 := hB.below (below_alloc2 w (.cells #[.int .i64 c, .slice A n cap] 50) (.cells #[.int .i64 d, .slice A' n' cap'] 50))
  unfold fSameMatrix
  by_cases hcd : c = d
  · subst hcd
    obtain ⟨r, hr⟩ : ∃ r, decide (xs = ys) = r := ⟨_, rfl⟩
    have S := l00Same_anyR A n cap A' n' cap' xs ys _ hA2 hB2
    rw [hr] at S ⊢
    have HS := Lib.hid S
    clear S hr
    go_enter Tryd.func35, Tryd.ntmps35
    go_wp2_with fail
    refine HS.out.mono ?_
    rintro e w1 ⟨rfl, hb⟩
    have HB := Lib.hid ((below_alloc2 w _ _).trans (hb.mono (by simp; omega)))
    clear hb
    go_wp2_with fail
    go_ret
    exact ⟨ret_bool (by simp), HB.out⟩
  · go_enter Tryd.func35, Tryd.ntmps35
    go_wp2_with fail
    go_ret
    exact ⟨ret_bool (by simp [hcd]), below_alloc2 _ _ _⟩
theorem specSameMatrix_any (c : Int) (b n cap : Nat) (xs : List Int) (d : Int) (b' n' cap' : Nat) (ys : List Int) (w : World) (hA : Mt w b n xs) (hB : Mt w b' n' ys) :
    Calls Tryd.prog 35 #[.agg #[.int .i64 c, .slice (some ⟨b, 0, none⟩) n cap], .agg #[.int .i64 d, .slice (some ⟨b', 0, none⟩) n' cap']] w fun e w' => e = .returned (.bool (fSameMatrix c xs d ys)) ∧ Below w.heap.size w w' :=
  specSameMatrix_anyR c (some ⟨b, 0, none⟩) n cap xs d (some ⟨b', 0, none⟩) n' cap' ys w hA.rd hB.rd

end Go.Proofs.YtilghmfffdmnjaaDoor
