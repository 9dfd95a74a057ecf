/- Whether two rows of numbers are equal: the model. -/
import Derived.Test.YtljaabmemjehpaaRes
import Derived.Test.YtljaabmemjehpaaValid
namespace Go.Proofs.Ytljaabmemjehpaa
open Go.RowKit Go.Joins
set_option linter.unusedVariables false

theorem same_yes {xs ys : List Int} (h : xs.length = ys.length) (k : ∀ j, j < xs.length → xs[j]?.getD 0 = ys[j]?.getD 0) : xs = ys := by
  refine List.ext_getElem h (fun j h1 h2 => ?_)
  have := k j h1
  rwa [List.getElem?_eq_getElem h1, List.getElem?_eq_getElem h2] at this

set_option maxHeartbeats 1600000 in
theorem l00Same_any (b n cap b' n' cap' : Nat) (xs ys : List Int) (w : World) (hA : Mt w b n xs) (hB : Mt w b' n' ys) :
    Calls Try.prog 74 #[.slice (some ⟨b, 0, none⟩) n cap, .slice (some ⟨b', 0, none⟩) n' cap'] w fun e w' => e = .returned (.bool (decide (xs = ys))) ∧ Below w.heap.size w w' := by
  have la := hA.len
  have lb := hB.len
  have sa := hA.small
  have sb := hB.small
  by_cases hn : n = n'
  · subst hn
    go_enter Try.func74, Try.ntmps74
    go_wp2
    go_loopw [5] (fun i wr => ∃ k q : Nat, k ≤ n ∧ i = .int .i64 k ∧ wr = w.drewN q ∧ ∀ j, j < k → xs[j]?.getD 0 = ys[j]?.getD 0) (fun i _ => n - (intOf i).toNat)
    case atStart => exact ⟨0, 0, Nat.zero_le _, rfl, rfl, fun j hj => by omega⟩
    case round =>
      obtain ⟨k, q, hk, rfl, rfl, hs⟩ := hrel
      have HS := Lib.hid hs
      clear hs
      by_cases hlt : k < n
      · have hc1 := (hA.drewN q).cell k hlt
        have hc2 := (hB.drewN q).cell k hlt
        obtain ⟨x, hx⟩ : ∃ x, xs[k]?.getD 0 = x := ⟨_, rfl⟩
        obtain ⟨y, hy⟩ : ∃ y, ys[k]?.getD 0 = y := ⟨_, rfl⟩
        rw [hx] at hc1
        rw [hy] at hc2
        have HX := Lib.hid hx
        have HY := Lib.hid hy
        clear hx hy
        generalize hwq : w.drewN q = W at hc1 hc2 ⊢
        have HW := Lib.hid hwq
        clear hwq
        by_cases hxy : x = y
        · subst hxy
          go_wp2
          go_quiet (fail)
          go_wp2
          go_roundw
          case rel => exact ⟨k + 1, q + _, by omega, by go_num, by rw [← HW.out, World.drewN_drewN], fun i hi => by
            by_cases e : i = k
            · subst e; rw [HX.out, HY.out]
            · exact HS.out i (by omega)⟩
          case measure => simp [intOf]; omega
        · go_wp2
          go_quiet (fail)
          go_wp2
          go_ret
          exact ⟨ret_bool (Eq.symm (decide_eq_false (fun h => hxy (by rw [← HX.out, ← HY.out, h])))), by rw [← HW.out, World.drewN_drewN]; exact below_draws _ _ _⟩
      · obtain rfl : k = n := by omega
        go_wp2
        go_ret
        exact ⟨ret_bool (Eq.symm (decide_eq_true (same_yes (by omega) (by rw [la]; exact HS.out)))), below_draws _ _ _⟩
  · have hne : ¬ (n : Int) = n' := by omega
    go_enter Try.func74, Try.ntmps74
    go_wp2
    go_ret
    exact ⟨ret_bool (Eq.symm (decide_eq_false (fun h => hn (by rw [← la, ← lb, h])))), Below.refl _ _⟩
end Go.Proofs.Ytljaabmemjehpaa
