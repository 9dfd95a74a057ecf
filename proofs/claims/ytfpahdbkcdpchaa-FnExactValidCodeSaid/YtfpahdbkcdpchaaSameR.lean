/- Whether two rows of numbers that calls have made are equal, and two lists of rows: the model and the program. -/
import Derived.Test.YtfpahdbkcdpchaaSsLaw
import Derived.Test.YtfpahdbkcdpchaaSame00
namespace Go.Proofs.Ytfpahdbkcdpchaa
open Go.RowKit Go.Joins
set_option linter.unusedVariables false

theorem Res.at {W : World} {B T : Nat} {A : Option Addr} {n cap : Nat} {xs : List Int} (h : Res W B T (.slice A n cap) xs) {k : Nat} (hk : k < n) : ∃ g, A = some ⟨g, 0, none⟩ ∧ W.cell? ⟨g, k, none⟩ = some (.int .i64 (xs[k]?.getD 0)) := by
  generalize hv : Value.slice A n cap = v at h
  cases h with
  | nil A' cap' => injection hv with e1 e2 e3; omega
  | row g n' cap' xs h1 h2 h3 h4 h5 h6 h7 => injection hv with e1 e2 e3; subst e1; exact ⟨g, rfl, h6 k (by omega)⟩
theorem RR.ext {xs ys : List (List Int)} (h : xs.length = ys.length) (k : ∀ j, j < xs.length → rw' xs j = rw' ys j) : xs = ys := by
  refine List.ext_getElem h (fun j h1 h2 => ?_)
  have := k j h1
  simp only [rw', List.getD_eq_getElem?_getD, List.getElem?_eq_getElem h1, List.getElem?_eq_getElem h2, Option.getD_some] at this
  exact this

set_option maxHeartbeats 1600000 in
theorem l00SameR {w : World} {B T B' T' : Nat} {v v' : Value} {xs ys : List Int} (hA : Res w B T v xs) (hB : Res w B' T' v' ys) :
    Calls Try.prog 75 #[v, v'] w fun e w' => e = .returned (.bool (decide (xs = ys))) ∧ Below w.heap.size w w' := by
  obtain ⟨A, n, cap, rfl⟩ := hA.form
  obtain ⟨A', n', cap', rfl⟩ := hB.form
  have la := hA.len
  have lb := hB.len
  have sa : n ≤ 1048576 := by have := hA.small; omega
  have sb : n' ≤ 1048576 := by have := hB.small; omega
  have HA := Lib.hid hA
  have HB := Lib.hid hB
  have HLA := Lib.hid la
  have HLB := Lib.hid lb
  clear hA hB la lb
  by_cases hn : n = n'
  · subst hn
    go_enter Try.func75, Try.ntmps75
    go_wp2
    go_loopw [5] (fun i wr => ∃ k q : Nat, k ≤ n ∧ i = .int .i64 k ∧ wr = w.drewN q ∧ ∀ j, j < k → xs[j]?.getD 0 = ys[j]?.getD 0) (fun i _ => n - (intOf i).toNat)
    case atStart => exact ⟨0, 0, Nat.zero_le _, rfl, rfl, fun j hj => by omega⟩
    case round =>
      obtain ⟨k, q, hk, rfl, rfl, hs⟩ := hrel
      have HS := Lib.hid hs
      clear hs
      by_cases hlt : k < n
      · obtain ⟨g, rfl, hc1⟩ := (HA.out.next (below_draws w.heap.size w q)).at hlt
        obtain ⟨g', rfl, hc2⟩ := (HB.out.next (below_draws w.heap.size w q)).at hlt
        obtain ⟨x, hx⟩ : ∃ x, xs[k]?.getD 0 = x := ⟨_, rfl⟩
        obtain ⟨y, hy⟩ : ∃ y, ys[k]?.getD 0 = y := ⟨_, rfl⟩
        rw [hx] at hc1
        rw [hy] at hc2
        have HX := Lib.hid hx
        have HY := Lib.hid hy
        clear hx hy
        generalize hwq : w.drewN q = W at hc1 hc2 ⊢
        have HW := Lib.hid hwq
        clear hwq
        by_cases hxy : x = y
        · subst hxy
          go_wp2
          go_quiet (fail)
          go_wp2
          go_roundw
          case rel => exact ⟨k + 1, q + _, by omega, by go_num, by rw [← HW.out, World.drewN_drewN], fun i hi => by
            by_cases e : i = k
            · subst e; rw [HX.out, HY.out]
            · exact HS.out i (by omega)⟩
          case measure => simp [intOf]; omega
        · go_wp2
          go_quiet (fail)
          go_wp2
          go_ret
          exact ⟨ret_bool (Eq.symm (decide_eq_false (fun h => hxy (by rw [← HX.out, ← HY.out, h])))), by rw [← HW.out, World.drewN_drewN]; exact below_draws _ _ _⟩
      · obtain rfl : k = n := by omega
        go_wp2
        go_ret
        exact ⟨ret_bool (Eq.symm (decide_eq_true (same_yes (HLA.out.trans HLB.out.symm) (by rw [HLA.out]; exact HS.out)))), below_draws _ _ _⟩
  · have hne : ¬ (n : Int) = n' := by omega
    go_enter Try.func75, Try.ntmps75
    go_wp2
    go_ret
    exact ⟨ret_bool (Eq.symm (decide_eq_false (fun h => hn (by rw [← HLA.out, ← HLB.out, h])))), Below.refl _ _⟩

set_option maxHeartbeats 1600000 in
theorem slicesEqualR {w : World} {B T B' T' : Nat} {v v' : Value} {xs ys : List Int} (hA : Res w B T v xs) (hB : Res w B' T' v' ys) :
    Calls Try.prog 68 #[v, v'] w fun e w' => e = .returned (.bool (decide (xs = ys))) ∧ Below w.heap.size w w' := by
  obtain ⟨A, n, cap, rfl⟩ := hA.form
  obtain ⟨A', n', cap', rfl⟩ := hB.form
  have la := hA.len
  have lb := hB.len
  have sa : n ≤ 1048576 := by have := hA.small; omega
  have sb : n' ≤ 1048576 := by have := hB.small; omega
  have HA := Lib.hid hA
  have HB := Lib.hid hB
  have HLA := Lib.hid la
  have HLB := Lib.hid lb
  clear hA hB la lb
  by_cases hn : n = n'
  · subst hn
    go_enter Try.func68, Try.ntmps68
    go_wp2
    go_loopw [13] (fun i wr => ∃ k q : Nat, k ≤ n ∧ i = .int .i64 k ∧ wr = w.drewN q ∧ ∀ j, j < k → xs[j]?.getD 0 = ys[j]?.getD 0) (fun i _ => n - (intOf i).toNat)
    case atStart => exact ⟨0, 0, Nat.zero_le _, rfl, rfl, fun j hj => by omega⟩
    case round =>
      obtain ⟨k, q, hk, rfl, rfl, hs⟩ := hrel
      have HS := Lib.hid hs
      clear hs
      by_cases hlt : k < n
      · obtain ⟨g, rfl, hc1⟩ := (HA.out.next (below_draws w.heap.size w q)).at hlt
        obtain ⟨g', rfl, hc2⟩ := (HB.out.next (below_draws w.heap.size w q)).at hlt
        obtain ⟨x, hx⟩ : ∃ x, xs[k]?.getD 0 = x := ⟨_, rfl⟩
        obtain ⟨y, hy⟩ : ∃ y, ys[k]?.getD 0 = y := ⟨_, rfl⟩
        rw [hx] at hc1
        rw [hy] at hc2
        have HX := Lib.hid hx
        have HY := Lib.hid hy
        clear hx hy
        generalize hwq : w.drewN q = W at hc1 hc2 ⊢
        have HW := Lib.hid hwq
        clear hwq
        by_cases hxy : x = y
        · subst hxy
          go_wp2
          go_quiet (fail)
          go_wp2
          go_roundw
          case rel => exact ⟨k + 1, q + _, by omega, by go_num, by rw [← HW.out, World.drewN_drewN], fun i hi => by
            by_cases e : i = k
            · subst e; rw [HX.out, HY.out]
            · exact HS.out i (by omega)⟩
          case measure => simp [intOf]; omega
        · go_wp2
          go_quiet (fail)
          go_wp2
          go_ret
          exact ⟨ret_bool (Eq.symm (decide_eq_false (fun h => hxy (by rw [← HX.out, ← HY.out, h])))), by rw [← HW.out, World.drewN_drewN]; exact below_draws _ _ _⟩
      · obtain rfl : k = n := by omega
        go_wp2
        go_ret
        exact ⟨ret_bool (Eq.symm (decide_eq_true (same_yes (HLA.out.trans HLB.out.symm) (by rw [HLA.out]; exact HS.out)))), below_draws _ _ _⟩
  · have hne : ¬ (n : Int) = n' := by omega
    go_enter Try.func68, Try.ntmps68
    go_wp2
    go_ret
    exact ⟨ret_bool (Eq.symm (decide_eq_false (fun h => hn (by rw [← HLA.out, ← HLB.out, h])))), Below.refl _ _⟩

set_option maxRecDepth 100000 in
set_option maxHeartbeats 1600000 in
theorem l04SameRowsR {w : World} {v v' : Value} {xs ys : List (List Int)} (hA : RR w v xs) (hB : RR w v' ys) :
    Calls Try.prog 66 #[v, v'] w fun e w' => e = .returned (.bool (decide (xs = ys))) ∧ Below w.heap.size w w' := by
  obtain ⟨A, cap, rfl⟩ := hA.is
  obtain ⟨A', cap', rfl⟩ := hB.is
  have sa := hA.small
  have sb := hB.small
  obtain ⟨n, la⟩ : ∃ n, xs.length = n := ⟨_, rfl⟩
  obtain ⟨n', lb⟩ : ∃ n', ys.length = n' := ⟨_, rfl⟩
  rw [la] at sa hA ⊢
  rw [lb] at sb hB ⊢
  replace sa : n ≤ 1048576 := by omega
  replace sb : n' ≤ 1048576 := by omega
  have HA := Lib.hid hA
  have HB := Lib.hid hB
  have HLA := Lib.hid la
  have HLB := Lib.hid lb
  clear hA hB la lb
  by_cases hn : n = n'
  · subst hn
    go_enter Try.func66, Try.ntmps66
    go_wp2_with fail
    go_loopw [5] (fun i wr => ∃ k : Nat, k ≤ n ∧ i = .int .i64 k ∧ Below w.heap.size w wr ∧ ∀ j, j < k → rw' xs j = rw' ys j) (fun i _ => n - (intOf i).toNat)
    case atStart => exact ⟨0, Nat.zero_le _, rfl, Below.refl _ _, fun j hj => by omega⟩
    case round =>
      obtain ⟨k, hk, rfl, hb, hs⟩ := hrel
      have HS := Lib.hid hs
      clear hs
      by_cases hlt : k < n
      · obtain ⟨_, g, rfl, hg, Ak, nk, ck, Bk, Tk, hck, hRk⟩ := (HA.out.next hb).row hlt
        obtain ⟨_, g', rfl, hg', Ak', nk', ck', Bk', Tk', hck', hRk'⟩ := (HB.out.next hb).row hlt
        have HB2 := Lib.hid hb
        have HR := Lib.hid hRk
        have HR' := Lib.hid hRk'
        clear hb hRk hRk'
        generalize hW : wr = W at *
        obtain ⟨r, hr⟩ : ∃ r, decide (rw' xs k = rw' ys k) = r := ⟨_, rfl⟩
        have HSS : ∀ W', Res W' Bk Tk (.slice Ak nk ck) (rw' xs k) → Res W' Bk' Tk' (.slice Ak' nk' ck') (rw' ys k) → Calls Try.prog 75 #[.slice Ak nk ck, .slice Ak' nk' ck'] W' fun e w' => e = .returned (.bool r) ∧ Below W'.heap.size W' w' := fun W' a b => by
          rw [← hr]; exact l00SameR a b
        have HQ := Lib.hid hr
        clear hr hW
        cases r with
        | true =>
          have HD := Lib.hid (HR.out.next (Below.refl _ W).drew)
          have HD' := Lib.hid (HR'.out.next (Below.refl _ W).drew)
          have HBD := Lib.hid HB2.out.drew
          go_wp2_with fail
          go_region_law (go_simp; go_wp2_with (go_at_call 75; refine (HSS _ HD.out HD'.out).mono ?_; rintro e w2 ⟨rfl, hb⟩; have HB3 := Lib.hid hb; clear hb))
          all_goals
            go_wp2_with fail
            go_roundw
            case rel => exact ⟨k + 1, by omega, by go_num, HBD.out.trans (HB3.out.mono HBD.out.size), fun i hi => by
              by_cases e : i = k
              · subst e; exact of_decide_eq_true HQ.out
              · exact HS.out i (by omega)⟩
            case measure => simp [intOf]; omega
        | false =>
          have HD := Lib.hid (HR.out.next (Below.refl _ W).drew)
          have HD' := Lib.hid (HR'.out.next (Below.refl _ W).drew)
          have HBD := Lib.hid HB2.out.drew
          go_wp2_with fail
          go_region_law (go_simp; go_wp2_with (go_at_call 75; refine (HSS _ HD.out HD'.out).mono ?_; rintro e w2 ⟨rfl, hb⟩; have HB3 := Lib.hid hb; clear hb))
          all_goals
            go_wp2_with fail
            go_ret
            exact ⟨ret_bool (Eq.symm (decide_eq_false (fun h => by have := of_decide_eq_false HQ.out; rw [h] at this; exact this rfl))), HBD.out.trans (HB3.out.mono HBD.out.size)⟩
      · obtain rfl : k = n := by omega
        have HB2 := Lib.hid hb
        clear hb
        go_wp2_with fail
        go_ret
        exact ⟨ret_bool (Eq.symm (decide_eq_true (RR.ext (HLA.out.trans HLB.out.symm) (by rw [HLA.out]; exact HS.out)))), HB2.out⟩
  · have hne : ¬ (n : Int) = n' := by omega
    go_enter Try.func66, Try.ntmps66
    go_wp2_with fail
    go_ret
    exact ⟨ret_bool (Eq.symm (decide_eq_false (fun h => hn (by rw [← HLA.out, ← HLB.out, h])))), Below.refl _ _⟩

set_option maxRecDepth 100000 in
set_option maxHeartbeats 1600000 in
theorem equalFuncR {w : World} {v v' : Value} {xs ys : List (List Int)} (hA : RR w v xs) (hB : RR w v' ys) :
    Calls Try.prog 67 #[v, v', .func (.func 68) #[] #[]] w fun e w' => e = .returned (.bool (decide (xs = ys))) ∧ Below w.heap.size w w' := by
  obtain ⟨A, cap, rfl⟩ := hA.is
  obtain ⟨A', cap', rfl⟩ := hB.is
  have sa := hA.small
  have sb := hB.small
  obtain ⟨n, la⟩ : ∃ n, xs.length = n := ⟨_, rfl⟩
  obtain ⟨n', lb⟩ : ∃ n', ys.length = n' := ⟨_, rfl⟩
  rw [la] at sa hA ⊢
  rw [lb] at sb hB ⊢
  replace sa : n ≤ 1048576 := by omega
  replace sb : n' ≤ 1048576 := by omega
  have HA := Lib.hid hA
  have HB := Lib.hid hB
  have HLA := Lib.hid la
  have HLB := Lib.hid lb
  clear hA hB la lb
  by_cases hn : n = n'
  · subst hn
    go_enter Try.func67, Try.ntmps67
    go_wp2_with fail
    go_loopw [17] (fun i wr => ∃ k : Nat, k ≤ n ∧ i = .int .i64 k ∧ Below w.heap.size w wr ∧ ∀ j, j < k → rw' xs j = rw' ys j) (fun i _ => n - (intOf i).toNat)
    case atStart => exact ⟨0, Nat.zero_le _, rfl, Below.refl _ _, fun j hj => by omega⟩
    case round =>
      obtain ⟨k, hk, rfl, hb, hs⟩ := hrel
      have HS := Lib.hid hs
      clear hs
      by_cases hlt : k < n
      · obtain ⟨_, g, rfl, hg, Ak, nk, ck, Bk, Tk, hck, hRk⟩ := (HA.out.next hb).row hlt
        obtain ⟨_, g', rfl, hg', Ak', nk', ck', Bk', Tk', hck', hRk'⟩ := (HB.out.next hb).row hlt
        have HB2 := Lib.hid hb
        have HR := Lib.hid hRk
        have HR' := Lib.hid hRk'
        clear hb hRk hRk'
        generalize hW : wr = W at *
        obtain ⟨r, hr⟩ : ∃ r, decide (rw' xs k = rw' ys k) = r := ⟨_, rfl⟩
        have HSS : ∀ W', Res W' Bk Tk (.slice Ak nk ck) (rw' xs k) → Res W' Bk' Tk' (.slice Ak' nk' ck') (rw' ys k) → Calls Try.prog 68 #[.slice Ak nk ck, .slice Ak' nk' ck'] W' fun e w' => e = .returned (.bool r) ∧ Below W'.heap.size W' w' := fun W' a b => by
          rw [← hr]; exact slicesEqualR a b
        have HQ := Lib.hid hr
        clear hr hW
        cases r with
        | true =>
          have HBD := Lib.hid HB2.out
          go_wp2_with fail
          refine (HSS _ HR.out HR'.out).mono ?_
          rintro e w2 ⟨rfl, hb⟩
          have HB3 := Lib.hid hb
          clear hb
          go_wp2_with fail
          all_goals
            go_roundw
            case rel => exact ⟨k + 1, by omega, by go_num, HBD.out.trans (HB3.out.mono HBD.out.size), fun i hi => by
              by_cases e : i = k
              · subst e; exact of_decide_eq_true HQ.out
              · exact HS.out i (by omega)⟩
            case measure => simp [intOf]; omega
        | false =>
          have HBD := Lib.hid HB2.out
          go_wp2_with fail
          refine (HSS _ HR.out HR'.out).mono ?_
          rintro e w2 ⟨rfl, hb⟩
          have HB3 := Lib.hid hb
          clear hb
          go_wp2_with fail
          all_goals
            go_ret
            exact ⟨ret_bool (Eq.symm (decide_eq_false (fun h => by have := of_decide_eq_false HQ.out; rw [h] at this; exact this rfl))), HBD.out.trans (HB3.out.mono HBD.out.size)⟩
      · obtain rfl : k = n := by omega
        have HB2 := Lib.hid hb
        clear hb
        go_wp2_with fail
        go_ret
        exact ⟨ret_bool (Eq.symm (decide_eq_true (RR.ext (HLA.out.trans HLB.out.symm) (by rw [HLA.out]; exact HS.out)))), HB2.out⟩
  · have hne : ¬ (n : Int) = n' := by omega
    go_enter Try.func67, Try.ntmps67
    go_wp2_with fail
    go_ret
    exact ⟨ret_bool (Eq.symm (decide_eq_false (fun h => hn (by rw [← HLA.out, ← HLB.out, h])))), Below.refl _ _⟩
end Go.Proofs.Ytfpahdbkcdpchaa
