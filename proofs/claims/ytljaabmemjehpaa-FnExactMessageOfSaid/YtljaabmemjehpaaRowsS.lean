/- Whether two rows of numbers that calls have made are equal, and two lists of rows: the model and the program. · The model's check of rows over a field. -/
import Derived.Test.YtljaabmemjehpaaSsLaw
import Derived.Test.YtljaabmemjehpaaSame00
import Derived.Test.YtljaabmemjehpaaInv
import Derived.Test.YtljaabmemjehpaaIn
import Derived.Test.YtljaabmemjehpaaToField
import Derived.Test.YtljaabmemjehpaaDivPure
import Derived.Test.YtljaabmemjehpaaStep
import Derived.Test.YtljaabmemjehpaaLB
namespace Go.Proofs.Ytljaabmemjehpaa
open Go.RowKit Go.Joins
set_option linter.unusedVariables false

theorem Res.at {W : World} {B T : Nat} {A : Option Addr} {n cap : Nat} {xs : List Int} (h : Res W B T (.slice A n cap) xs) {k : Nat} (hk : k < n) : ∃ g, A = some ⟨g, 0, none⟩ ∧ W.cell? ⟨g, k, none⟩ = some (.int .i64 (xs[k]?.getD 0)) := by
  generalize hv : Value.slice A n cap = v at h
  cases h with
  | nil A' cap' => injection hv with e1 e2 e3; omega
  | row g n' cap' xs h1 h2 h3 h4 h5 h6 h7 => injection hv with e1 e2 e3; subst e1; exact ⟨g, rfl, h6 k (by omega)⟩
theorem RR.ext {xs ys : List (List Int)} (h : xs.length = ys.length) (k : ∀ j, j < xs.length → rw' xs j = rw' ys j) : xs = ys := by
  refine List.ext_getElem h (fun j h1 h2 => ?_)
  have := k j h1
  simp only [rw', List.getD_eq_getElem?_getD, List.getElem?_eq_getElem h1, List.getElem?_eq_getElem h2, Option.getD_some] at this
  exact this

set_option maxHeartbeats 1600000 in
theorem l00SameR {w : World} {B T B' T' : Nat} {v v' : Value} {xs ys : List Int} (hA : Res w B T v xs) (hB : Res w B' T' v' ys) :
    Calls Try.prog 74 #[v, v'] w fun e w' => e = .returned (.bool (decide (xs = ys))) ∧ Below w.heap.size w w' := by
  obtain ⟨A, n, cap, rfl⟩ := hA.form
  obtain ⟨A', n', cap', rfl⟩ := hB.form
  have la := hA.len
  have lb := hB.len
  have sa : n ≤ 1048576 := by have := hA.small; omega
  have sb : n' ≤ 1048576 := by have := hB.small; omega
  have HA := Lib.hid hA
  have HB := Lib.hid hB
  have HLA := Lib.hid la
  have HLB := Lib.hid lb
  clear hA hB la lb
  by_cases hn : n = n'
  · subst hn
    go_enter Try.func74, Try.ntmps74
    go_wp2
    go_loopw [5] (fun i wr => ∃ k q : Nat, k ≤ n ∧ i = .int .i64 k ∧ wr = w.drewN q ∧ ∀ j, j < k → xs[j]?.getD 0 = ys[j]?.getD 0) (fun i _ => n - (intOf i).toNat)
    case atStart => exact ⟨0, 0, Nat.zero_le _, rfl, rfl, fun j hj => by omega⟩
    case round =>
      obtain ⟨k, q, hk, rfl, rfl, hs⟩ := hrel
      have HS := Lib.hid hs
      clear hs
      by_cases hlt : k < n
      · obtain ⟨g, rfl, hc1⟩ := (HA.out.next (below_draws w.heap.size w q)).at hlt
        obtain ⟨g', rfl, hc2⟩ := (HB.out.next (below_draws w.heap.size w q)).at hlt
        obtain ⟨x, hx⟩ : ∃ x, xs[k]?.getD 0 = x := ⟨_, rfl⟩
        obtain ⟨y, hy⟩ : ∃ y, ys[k]?.getD 0 = y := ⟨_, rfl⟩
        rw [hx] at hc1
        rw [hy] at hc2
        have HX := Lib.hid hx
        have HY := Lib.hid hy
        clear hx hy
        generalize hwq : w.drewN q = W at hc1 hc2 ⊢
        have HW := Lib.hid hwq
        clear hwq
        by_cases hxy : x = y
        · subst hxy
          go_wp2
          go_quiet (fail)
          go_wp2
          go_roundw
          case rel => exact ⟨k + 1, q + _, by omega, by go_num, by rw [← HW.out, World.drewN_drewN], fun i hi => by
            by_cases e : i = k
            · subst e; rw [HX.out, HY.out]
            · exact HS.out i (by omega)⟩
          case measure => simp [intOf]; omega
        · go_wp2
          go_quiet (fail)
          go_wp2
          go_ret
          exact ⟨ret_bool (Eq.symm (decide_eq_false (fun h => hxy (by rw [← HX.out, ← HY.out, h])))), by rw [← HW.out, World.drewN_drewN]; exact below_draws _ _ _⟩
      · obtain rfl : k = n := by omega
        go_wp2
        go_ret
        exact ⟨ret_bool (Eq.symm (decide_eq_true (same_yes (HLA.out.trans HLB.out.symm) (by rw [HLA.out]; exact HS.out)))), below_draws _ _ _⟩
  · have hne : ¬ (n : Int) = n' := by omega
    go_enter Try.func74, Try.ntmps74
    go_wp2
    go_ret
    exact ⟨ret_bool (Eq.symm (decide_eq_false (fun h => hn (by rw [← HLA.out, ← HLB.out, h])))), Below.refl _ _⟩

set_option maxHeartbeats 1600000 in
theorem slicesEqualR {w : World} {B T B' T' : Nat} {v v' : Value} {xs ys : List Int} (hA : Res w B T v xs) (hB : Res w B' T' v' ys) :
    Calls Try.prog 147 #[v, v'] w fun e w' => e = .returned (.bool (decide (xs = ys))) ∧ Below w.heap.size w w' := by
  obtain ⟨A, n, cap, rfl⟩ := hA.form
  obtain ⟨A', n', cap', rfl⟩ := hB.form
  have la := hA.len
  have lb := hB.len
  have sa : n ≤ 1048576 := by have := hA.small; omega
  have sb : n' ≤ 1048576 := by have := hB.small; omega
  have HA := Lib.hid hA
  have HB := Lib.hid hB
  have HLA := Lib.hid la
  have HLB := Lib.hid lb
  clear hA hB la lb
  by_cases hn : n = n'
  · subst hn
    go_enter Try.func147, Try.ntmps147
    go_wp2
    go_loopw [13] (fun i wr => ∃ k q : Nat, k ≤ n ∧ i = .int .i64 k ∧ wr = w.drewN q ∧ ∀ j, j < k → xs[j]?.getD 0 = ys[j]?.getD 0) (fun i _ => n - (intOf i).toNat)
    case atStart => exact ⟨0, 0, Nat.zero_le _, rfl, rfl, fun j hj => by omega⟩
    case round =>
      obtain ⟨k, q, hk, rfl, rfl, hs⟩ := hrel
      have HS := Lib.hid hs
      clear hs
      by_cases hlt : k < n
      · obtain ⟨g, rfl, hc1⟩ := (HA.out.next (below_draws w.heap.size w q)).at hlt
        obtain ⟨g', rfl, hc2⟩ := (HB.out.next (below_draws w.heap.size w q)).at hlt
        obtain ⟨x, hx⟩ : ∃ x, xs[k]?.getD 0 = x := ⟨_, rfl⟩
        obtain ⟨y, hy⟩ : ∃ y, ys[k]?.getD 0 = y := ⟨_, rfl⟩
        rw [hx] at hc1
        rw [hy] at hc2
        have HX := Lib.hid hx
        have HY := Lib.hid hy
        clear hx hy
        generalize hwq : w.drewN q = W at hc1 hc2 ⊢
        have HW := Lib.hid hwq
        clear hwq
        by_cases hxy : x = y
        · subst hxy
          go_wp2
          go_quiet (fail)
          go_wp2
          go_roundw
          case rel => exact ⟨k + 1, q + _, by omega, by go_num, by rw [← HW.out, World.drewN_drewN], fun i hi => by
            by_cases e : i = k
            · subst e; rw [HX.out, HY.out]
            · exact HS.out i (by omega)⟩
          case measure => simp [intOf]; omega
        · go_wp2
          go_quiet (fail)
          go_wp2
          go_ret
          exact ⟨ret_bool (Eq.symm (decide_eq_false (fun h => hxy (by rw [← HX.out, ← HY.out, h])))), by rw [← HW.out, World.drewN_drewN]; exact below_draws _ _ _⟩
      · obtain rfl : k = n := by omega
        go_wp2
        go_ret
        exact ⟨ret_bool (Eq.symm (decide_eq_true (same_yes (HLA.out.trans HLB.out.symm) (by rw [HLA.out]; exact HS.out)))), below_draws _ _ _⟩
  · have hne : ¬ (n : Int) = n' := by omega
    go_enter Try.func147, Try.ntmps147
    go_wp2
    go_ret
    exact ⟨ret_bool (Eq.symm (decide_eq_false (fun h => hn (by rw [← HLA.out, ← HLB.out, h])))), Below.refl _ _⟩

set_option maxRecDepth 100000 in
set_option maxHeartbeats 1600000 in
theorem l04SameRowsR {w : World} {v v' : Value} {xs ys : List (List Int)} (hA : RR w v xs) (hB : RR w v' ys) :
    Calls Try.prog 109 #[v, v'] w fun e w' => e = .returned (.bool (decide (xs = ys))) ∧ Below w.heap.size w w' := by
  obtain ⟨A, cap, rfl⟩ := hA.is
  obtain ⟨A', cap', rfl⟩ := hB.is
  have sa := hA.small
  have sb := hB.small
  obtain ⟨n, la⟩ : ∃ n, xs.length = n := ⟨_, rfl⟩
  obtain ⟨n', lb⟩ : ∃ n', ys.length = n' := ⟨_, rfl⟩
  rw [la] at sa hA ⊢
  rw [lb] at sb hB ⊢
  replace sa : n ≤ 1048576 := by omega
  replace sb : n' ≤ 1048576 := by omega
  have HA := Lib.hid hA
  have HB := Lib.hid hB
  have HLA := Lib.hid la
  have HLB := Lib.hid lb
  clear hA hB la lb
  by_cases hn : n = n'
  · subst hn
    go_enter Try.func109, Try.ntmps109
    go_wp2_with fail
    go_loopw [5] (fun i wr => ∃ k : Nat, k ≤ n ∧ i = .int .i64 k ∧ Below w.heap.size w wr ∧ ∀ j, j < k → rw' xs j = rw' ys j) (fun i _ => n - (intOf i).toNat)
    case atStart => exact ⟨0, Nat.zero_le _, rfl, Below.refl _ _, fun j hj => by omega⟩
    case round =>
      obtain ⟨k, hk, rfl, hb, hs⟩ := hrel
      have HS := Lib.hid hs
      clear hs
      by_cases hlt : k < n
      · obtain ⟨_, g, rfl, hg, Ak, nk, ck, Bk, Tk, hck, hRk⟩ := (HA.out.next hb).row hlt
        obtain ⟨_, g', rfl, hg', Ak', nk', ck', Bk', Tk', hck', hRk'⟩ := (HB.out.next hb).row hlt
        have HB2 := Lib.hid hb
        have HR := Lib.hid hRk
        have HR' := Lib.hid hRk'
        clear hb hRk hRk'
        generalize hW : wr = W at *
        obtain ⟨r, hr⟩ : ∃ r, decide (rw' xs k = rw' ys k) = r := ⟨_, rfl⟩
        have HSS : ∀ W', Res W' Bk Tk (.slice Ak nk ck) (rw' xs k) → Res W' Bk' Tk' (.slice Ak' nk' ck') (rw' ys k) → Calls Try.prog 74 #[.slice Ak nk ck, .slice Ak' nk' ck'] W' fun e w' => e = .returned (.bool r) ∧ Below W'.heap.size W' w' := fun W' a b => by
          rw [← hr]; exact l00SameR a b
        have HQ := Lib.hid hr
        clear hr hW
        cases r with
        | true =>
          have HD := Lib.hid (HR.out.next (Below.refl _ W).drew)
          have HD' := Lib.hid (HR'.out.next (Below.refl _ W).drew)
          have HBD := Lib.hid HB2.out.drew
          go_wp2_with fail
          go_region_law (go_simp; go_wp2_with (go_at_call 74; refine (HSS _ HD.out HD'.out).mono ?_; rintro e w2 ⟨rfl, hb⟩; have HB3 := Lib.hid hb; clear hb))
          all_goals
            go_wp2_with fail
            go_roundw
            case rel => exact ⟨k + 1, by omega, by go_num, HBD.out.trans (HB3.out.mono HBD.out.size), fun i hi => by
              by_cases e : i = k
              · subst e; exact of_decide_eq_true HQ.out
              · exact HS.out i (by omega)⟩
            case measure => simp [intOf]; omega
        | false =>
          have HD := Lib.hid (HR.out.next (Below.refl _ W).drew)
          have HD' := Lib.hid (HR'.out.next (Below.refl _ W).drew)
          have HBD := Lib.hid HB2.out.drew
          go_wp2_with fail
          go_region_law (go_simp; go_wp2_with (go_at_call 74; refine (HSS _ HD.out HD'.out).mono ?_; rintro e w2 ⟨rfl, hb⟩; have HB3 := Lib.hid hb; clear hb))
          all_goals
            go_wp2_with fail
            go_ret
            exact ⟨ret_bool (Eq.symm (decide_eq_false (fun h => by have := of_decide_eq_false HQ.out; rw [h] at this; exact this rfl))), HBD.out.trans (HB3.out.mono HBD.out.size)⟩
      · obtain rfl : k = n := by omega
        have HB2 := Lib.hid hb
        clear hb
        go_wp2_with fail
        go_ret
        exact ⟨ret_bool (Eq.symm (decide_eq_true (RR.ext (HLA.out.trans HLB.out.symm) (by rw [HLA.out]; exact HS.out)))), HB2.out⟩
  · have hne : ¬ (n : Int) = n' := by omega
    go_enter Try.func109, Try.ntmps109
    go_wp2_with fail
    go_ret
    exact ⟨ret_bool (Eq.symm (decide_eq_false (fun h => hn (by rw [← HLA.out, ← HLB.out, h])))), Below.refl _ _⟩

set_option maxRecDepth 100000 in
set_option maxHeartbeats 1600000 in
theorem equalFuncR {w : World} {v v' : Value} {xs ys : List (List Int)} (hA : RR w v xs) (hB : RR w v' ys) :
    Calls Try.prog 146 #[v, v', .func (.func 147) #[] #[]] w fun e w' => e = .returned (.bool (decide (xs = ys))) ∧ Below w.heap.size w w' := by
  obtain ⟨A, cap, rfl⟩ := hA.is
  obtain ⟨A', cap', rfl⟩ := hB.is
  have sa := hA.small
  have sb := hB.small
  obtain ⟨n, la⟩ : ∃ n, xs.length = n := ⟨_, rfl⟩
  obtain ⟨n', lb⟩ : ∃ n', ys.length = n' := ⟨_, rfl⟩
  rw [la] at sa hA ⊢
  rw [lb] at sb hB ⊢
  replace sa : n ≤ 1048576 := by omega
  replace sb : n' ≤ 1048576 := by omega
  have HA := Lib.hid hA
  have HB := Lib.hid hB
  have HLA := Lib.hid la
  have HLB := Lib.hid lb
  clear hA hB la lb
  by_cases hn : n = n'
  · subst hn
    go_enter Try.func146, Try.ntmps146
    go_wp2_with fail
    go_loopw [17] (fun i wr => ∃ k : Nat, k ≤ n ∧ i = .int .i64 k ∧ Below w.heap.size w wr ∧ ∀ j, j < k → rw' xs j = rw' ys j) (fun i _ => n - (intOf i).toNat)
    case atStart => exact ⟨0, Nat.zero_le _, rfl, Below.refl _ _, fun j hj => by omega⟩
    case round =>
      obtain ⟨k, hk, rfl, hb, hs⟩ := hrel
      have HS := Lib.hid hs
      clear hs
      by_cases hlt : k < n
      · obtain ⟨_, g, rfl, hg, Ak, nk, ck, Bk, Tk, hck, hRk⟩ := (HA.out.next hb).row hlt
        obtain ⟨_, g', rfl, hg', Ak', nk', ck', Bk', Tk', hck', hRk'⟩ := (HB.out.next hb).row hlt
        have HB2 := Lib.hid hb
        have HR := Lib.hid hRk
        have HR' := Lib.hid hRk'
        clear hb hRk hRk'
        generalize hW : wr = W at *
        obtain ⟨r, hr⟩ : ∃ r, decide (rw' xs k = rw' ys k) = r := ⟨_, rfl⟩
        have HSS : ∀ W', Res W' Bk Tk (.slice Ak nk ck) (rw' xs k) → Res W' Bk' Tk' (.slice Ak' nk' ck') (rw' ys k) → Calls Try.prog 147 #[.slice Ak nk ck, .slice Ak' nk' ck'] W' fun e w' => e = .returned (.bool r) ∧ Below W'.heap.size W' w' := fun W' a b => by
          rw [← hr]; exact slicesEqualR a b
        have HQ := Lib.hid hr
        clear hr hW
        cases r with
        | true =>
          have HBD := Lib.hid HB2.out
          go_wp2_with fail
          refine (HSS _ HR.out HR'.out).mono ?_
          rintro e w2 ⟨rfl, hb⟩
          have HB3 := Lib.hid hb
          clear hb
          go_wp2_with fail
          all_goals
            go_roundw
            case rel => exact ⟨k + 1, by omega, by go_num, HBD.out.trans (HB3.out.mono HBD.out.size), fun i hi => by
              by_cases e : i = k
              · subst e; exact of_decide_eq_true HQ.out
              · exact HS.out i (by omega)⟩
            case measure => simp [intOf]; omega
        | false =>
          have HBD := Lib.hid HB2.out
          go_wp2_with fail
          refine (HSS _ HR.out HR'.out).mono ?_
          rintro e w2 ⟨rfl, hb⟩
          have HB3 := Lib.hid hb
          clear hb
          go_wp2_with fail
          all_goals
            go_ret
            exact ⟨ret_bool (Eq.symm (decide_eq_false (fun h => by have := of_decide_eq_false HQ.out; rw [h] at this; exact this rfl))), HBD.out.trans (HB3.out.mono HBD.out.size)⟩
      · obtain rfl : k = n := by omega
        have HB2 := Lib.hid hb
        clear hb
        go_wp2_with fail
        go_ret
        exact ⟨ret_bool (Eq.symm (decide_eq_true (RR.ext (HLA.out.trans HLB.out.symm) (by rw [HLA.out]; exact HS.out)))), HB2.out⟩
  · have hne : ¬ (n : Int) = n' := by omega
    go_enter Try.func146, Try.ntmps146
    go_wp2_with fail
    go_ret
    exact ⟨ret_bool (Eq.symm (decide_eq_false (fun h => hn (by rw [← HLA.out, ← HLB.out, h])))), Below.refl _ _⟩
end Go.Proofs.Ytljaabmemjehpaa
namespace Go.Proofs.Ytljaabmemjehpaa
open Go.RowKit Go.Joins
set_option linter.unusedVariables false

set_option maxHeartbeats 1600000 in
theorem l04ElementsR (m P n : Nat) (hF : Fld m P n) {B T : Nat} {v : Value} (zs : List Int) (w : World) (hM : Res w B T v zs) :
    Calls Try.prog 64 #[.agg #[.int .i64 m, .int .i64 P], v] w fun e w' => e = .returned (.bool (allIn n zs)) ∧ Below w.heap.size w w' := by
  obtain ⟨A, len, cap, rfl⟩ := hM.form
  obtain ⟨r, hr⟩ : ∃ r, allIn n zs = r := ⟨_, rfl⟩
  rw [hr]
  have HR := Lib.hid hr
  clear hr
  have hl := hM.len
  have hs : len ≤ 1048576 := by have := hM.small; omega
  have h32 := hF.n32
  have HM := Lib.hid hM
  have HL := Lib.hid hl
  clear hM hl
  have ew : IntKind.i64.wrap ((n : Int) - 1) = (n : Int) - 1 := by rw [IntKind.wrap_i64]; omega
  go_enter Try.func64, Try.ntmps64
  go_wp2
  go_loopw [5] (fun i wr => ∃ k : Nat, k ≤ len ∧ i = .int .i64 k ∧ FAt w m P wr ∧ Hid (∀ j, j < k → 0 ≤ zs[j]?.getD 0 ∧ zs[j]?.getD 0 < n)) (fun i _ => len - (intOf i).toNat)
  case atStart => exact ⟨0, Nat.zero_le _, rfl, FAt.start w m P 31, Lib.hid (fun j hj => by omega)⟩
  case round =>
    obtain ⟨k, hk, rfl, hA0, HI⟩ := hrel
    have hA := hA0.drew
    by_cases hlt : k < len
    · obtain ⟨b, rfl, hck⟩ := (HM.out.next hA0.b).at hlt
      obtain ⟨z, hz⟩ : ∃ z, zs[k]?.getD 0 = z := ⟨_, rfl⟩
      rw [hz] at hck
      have HZ := Lib.hid hz
      clear hz
      have hck' : wr.drew.cell? ⟨b, k, none⟩ = some (.int .i64 z) := hck
      have HAT : ∀ w1, FAt w m P w1 → w1.cell? ⟨b, k, none⟩ = some (.int .i64 z) := fun w1 h1 => by
        obtain ⟨b', e, hc⟩ := (HM.out.next h1.b).at hlt
        injection e with e; injection e with e
        rw [e, ← HZ.out]; exact hc
      have HT := Lib.hid HAT
      clear HAT
      by_cases hin : 0 ≤ z ∧ z < n
      · obtain ⟨hi0, hi1⟩ := hin
        go_wp2
        go_region_held3 (fun w' => w'.cell? ⟨w.heap.size, 0, none⟩ = some (.int .i64 m) ∧ w'.cell? ⟨w.heap.size, 1, none⟩ = some (.int .i64 P) ∧ w'.cell? ⟨b, k, none⟩ = some (.int .i64 z) ∧ FAt w m P w') (first | exact ⟨hA.c0, hA.c1, hck', hA⟩ | exact ⟨by assumption, by assumption, by assumption, by assumption⟩) (first | (go_at_call 111; refine (l01Size_any _ _ _ hF _).mono ?_; rintro e w1 ⟨rfl, hb1⟩; have k1 : FAt w m P w1 := FAt.next (by assumption) hb1; have q0 := k1.c0; have q1 := k1.c1; have q2 := HT.out _ k1; clear hb1) | (go_at_call 110; refine (l00In_yes _ _ _ (by omega) (by omega) _).mono ?_; rintro e w' ⟨rfl, rfl⟩))
        all_goals go_wp2
        all_goals go_roundw
        case rel => exact ⟨k + 1, by omega, by go_num, by assumption, Lib.hid (fun j hj => by
          by_cases e : j = k
          · subst e; rw [HZ.out]; exact ⟨hi0, hi1⟩
          · exact HI.out j (by omega))⟩
        case measure => simp [intOf]; omega
      · have hno : z < 0 ∨ (n : Int) ≤ z := by omega
        have HN := Lib.hid hno
        clear hno hin
        go_wp2
        go_region_held3 (fun w' => w'.cell? ⟨w.heap.size, 0, none⟩ = some (.int .i64 m) ∧ w'.cell? ⟨w.heap.size, 1, none⟩ = some (.int .i64 P) ∧ w'.cell? ⟨b, k, none⟩ = some (.int .i64 z) ∧ FAt w m P w') (first | exact ⟨hA.c0, hA.c1, hck', hA⟩ | exact ⟨by assumption, by assumption, by assumption, by assumption⟩) (first | (go_at_call 111; refine (l01Size_any _ _ _ hF _).mono ?_; rintro e w1 ⟨rfl, hb1⟩; have k1 : FAt w m P w1 := FAt.next (by assumption) hb1; have q0 := k1.c0; have q1 := k1.c1; have q2 := HT.out _ k1; clear hb1) | (go_at_call 110; refine (l00In_no _ _ _ (by have := HN.out; omega) _).mono ?_; rintro e w' ⟨rfl, rfl⟩))
        all_goals go_wp2
        all_goals go_ret
        all_goals exact ⟨ret_bool (by rw [← HR.out]; exact (allIn_no k (by have := HL.out; omega) (by rw [HZ.out]; exact HN.out)).symm), FAt.b (by assumption)⟩
    obtain rfl : k = len := by omega
    go_wp2
    go_ret
    exact ⟨ret_bool (by rw [← HR.out]; exact (allIn_yes (fun j hj => HI.out j (by have := HL.out; omega))).symm), hA0.b⟩

/-- Whether a row has a length and elements alone; whether all rows do. -/
def okR (n : Nat) (l : Int) (r : List Int) : Bool := decide ((r.length : Int) = l) && allIn n r
def okS (n : Nat) (l : Int) (rows : List (List Int)) : Bool := rows.all (okR n l)
theorem okS_get {n : Nat} {l : Int} {rows : List (List Int)} (h : okS n l rows = true) {j : Nat} (hj : j < rows.length) : okR n l (rw' rows j) = true := by
  unfold okS at h
  rw [List.all_eq_true] at h
  have : rw' rows j = rows[j] := by simp [rw', hj]
  rw [this]; exact h _ (List.getElem_mem hj)
theorem okS_yes {n : Nat} {l : Int} {rows : List (List Int)} (h : ∀ j, j < rows.length → okR n l (rw' rows j) = true) : okS n l rows = true := by
  unfold okS
  rw [List.all_eq_true]
  intro r hr
  obtain ⟨j, hj, rfl⟩ := List.getElem_of_mem hr
  have := h j hj
  rwa [show rw' rows j = rows[j] by simp [rw', hj]] at this
theorem okS_no {n : Nat} {l : Int} {rows : List (List Int)} {j : Nat} (hj : j < rows.length) (h : okR n l (rw' rows j) = false) : okS n l rows = false := by
  rcases e : okS n l rows with _ | _
  · rfl
  · rw [okS_get e hj] at h; cases h
/-- The code of a field, a length and rows. -/
def cRows (d p l : Int) (rows : List (List Int)) : Int := if fldI d p = false then 1 else if ¬ ((1 ≤ l ∧ l ≤ 5) ∧ rows.length ≤ 10) then 2 else if okS (2 ^ d.toNat) l rows = true then 0 else 2

set_option maxRecDepth 100000 in
set_option maxHeartbeats 1600000 in
theorem l04Rows_any (d p l : Int) {v : Value} (rows : List (List Int)) (w : World) (hA : RR w v rows) :
    Calls Try.prog 108 #[.agg #[.int .i64 d, .int .i64 p], .int .i64 l, v] w fun e w' => e = .returned (.int .i64 (cRows d p l rows)) ∧ Below w.heap.size w w' := by
  obtain ⟨A, cap, rfl⟩ := hA.is
  obtain ⟨len, hl⟩ : ∃ n, rows.length = n := ⟨_, rfl⟩
  have hs := hA.small
  rw [hl] at hA hs ⊢
  have hs1 : len ≤ 1048576 := by omega
  have HA := Lib.hid hA
  have HL := Lib.hid hl
  clear hA hs hl
  have hG := G1.start w [.int .i64 d, .int .i64 p] 31
  cases hf : fldI d p with
  | false =>
    have HF := Lib.hid hf
    have HG := Lib.hid hG
    clear hf hG
    go_enter Try.func108, Try.ntmps108
    go_wp2_with fail
    refine (l01Ok_eq d p false HF.out _).mono ?_
    rintro e w1 ⟨rfl, hb⟩
    have HB := Lib.hid (HG.out.next hb).b
    clear hb
    go_wp2_with fail
    go_ret
    exact ⟨by rw [cRows, if_pos HF.out]; rfl, HB.out⟩
  | true =>
    obtain ⟨m, P, rfl, rfl, hF⟩ := fldI_nat hf
    have hF := Fld.of hF
    have HF := Lib.hid hf
    have HG := Lib.hid hG
    clear hf hG
    by_cases h1 : 1 ≤ l ∧ l ≤ 5
    · by_cases h2 : len ≤ 10
      · obtain ⟨N, hN⟩ : ∃ N, 2 ^ m = N := ⟨_, rfl⟩
        rw [hN] at hF
        have HC : Hid (cRows m P l rows = if okS N l rows = true then 0 else 2) := Lib.hid (by rw [cRows, if_neg (by rw [HF.out]; simp), if_neg (by have := HL.out; intro h; exact h ⟨h1, by omega⟩), Int.toNat_natCast, hN])
        clear hN
        go_enter Try.func108, Try.ntmps108
        go_wp2_with fail
        refine (l01Ok_eq m P true HF.out _).mono ?_
        rintro e w1 ⟨rfl, hb⟩
        have HG1 := Lib.hid (HG.out.next hb)
        clear hb
        go_wp2_with (go_at_call 110; refine (l00In_yes _ _ _ (by omega) (by omega) _).mono ?_; rintro e w' ⟨rfl, rfl⟩)
        go_loopw [7] (fun i wr => ∃ k : Nat, k ≤ len ∧ i = .int .i64 k ∧ G1 w [.int .i64 m, .int .i64 P] wr ∧ ∀ j, j < k → okR N l (rw' rows j) = true) (fun i _ => len - (intOf i).toNat)
        case atStart => exact ⟨0, Nat.zero_le _, rfl, HG1.out, fun j hj => by omega⟩
        case round =>
          obtain ⟨k, hk, rfl, hg, hok⟩ := hrel
          have HOK := Lib.hid hok
          clear hok HG1
          by_cases hlt : k < len
          · obtain ⟨_, g, rfl, hgl, Ak, nk, ck, Bk, Tk, hck, hRk⟩ := (HA.out.next hg.b).row hlt
            have hlen := hRk.len
            have HR := Lib.hid hRk
            have HGG := Lib.hid hg
            have x0 : _ := hg.x.cell 0 _ rfl
            have x1 : _ := hg.x.cell 1 _ rfl
            have HLN := Lib.hid hlen
            clear hg hRk hlen
            by_cases hlk : (nk : Int) = l
            · obtain ⟨r, hr⟩ : ∃ r, allIn N (rw' rows k) = r := ⟨_, rfl⟩
              have HSS : ∀ W', Res W' Bk Tk (.slice Ak nk ck) (rw' rows k) → Calls Try.prog 64 #[.agg #[.int .i64 m, .int .i64 P], .slice Ak nk ck] W' fun e w' => e = .returned (.bool r) ∧ Below W'.heap.size W' w' := fun W' a => by
                rw [← hr]; exact l04ElementsR m P N hF _ W' a
              have HQ := Lib.hid hr
              have HS := Lib.hid HSS
              clear hr HSS
              have HRD := Lib.hid (HR.out.next (Below.refl _ wr).drew)
              have HGD := Lib.hid HGG.out.drew
              cases r with
              | true =>
                go_wp2_with fail
                go_region_law (go_simp; go_wp2_with (go_at_call 64; refine (HS.out _ HRD.out).mono ?_; rintro e w2 ⟨rfl, hb⟩; have HG3 := Lib.hid (HGD.out.next hb); clear hb))
                all_goals
                  go_wp2_with fail
                  go_roundw
                  case rel => exact ⟨k + 1, by omega, by go_num, HG3.out, fun j hj => by
                    by_cases e : j = k
                    · subst e; rw [okR, HQ.out, decide_eq_true (by rw [HLN.out]; exact hlk)]; rfl
                    · exact HOK.out j (by omega)⟩
                  case measure => simp [intOf]; omega
              | false =>
                go_wp2_with fail
                go_region_law (go_simp; go_wp2_with (go_at_call 64; refine (HS.out _ HRD.out).mono ?_; rintro e w2 ⟨rfl, hb⟩; have HG3 := Lib.hid (HGD.out.next hb); clear hb))
                all_goals
                  go_wp2_with fail
                  go_ret
                  exact ⟨by rw [HC.out, okS_no (j := k) (by have := HL.out; omega) (by rw [okR, HQ.out, Bool.and_false])]; rfl, HG3.out.b⟩
            · go_wp2_with fail
              go_quiet (fail)
              go_wp2_with fail
              go_ret
              exact ⟨by rw [HC.out, okS_no (j := k) (by have := HL.out; omega) (by rw [okR, decide_eq_false (by rw [HLN.out]; exact hlk), Bool.false_and])]; rfl, below_drewN HGG.out.b _⟩
          · obtain rfl : k = len := by omega
            have HB := Lib.hid hg.b
            clear hg
            go_wp2_with fail
            go_ret
            exact ⟨by rw [HC.out, if_pos (okS_yes (fun j hj => HOK.out j (by have := HL.out; omega)))]; rfl, HB.out⟩
      · have HC : Hid (cRows m P l rows = 2) := Lib.hid (by rw [cRows, if_neg (by rw [HF.out]; simp), if_pos (by have := HL.out; intro h; omega)])
        go_enter Try.func108, Try.ntmps108
        go_wp2_with fail
        refine (l01Ok_eq m P true HF.out _).mono ?_
        rintro e w1 ⟨rfl, hb⟩
        have HB := Lib.hid (HG.out.next hb).b
        clear hb
        go_wp2_with (go_at_call 110; refine (l00In_yes _ _ _ (by omega) (by omega) _).mono ?_; rintro e w' ⟨rfl, rfl⟩)
        go_ret
        exact ⟨by rw [HC.out]; rfl, HB.out⟩
    · have HC : Hid (cRows m P l rows = 2) := Lib.hid (by rw [cRows, if_neg (by rw [HF.out]; simp), if_pos (fun h => h1 h.1)])
      have h1' : l < 1 ∨ 5 < l := by omega
      have H1 := Lib.hid h1'
      clear h1 h1'
      go_enter Try.func108, Try.ntmps108
      go_wp2_with fail
      refine (l01Ok_eq m P true HF.out _).mono ?_
      rintro e w1 ⟨rfl, hb⟩
      have HB := Lib.hid (HG.out.next hb).b
      clear hb
      go_wp2_with (go_at_call 110; refine (l00In_no _ _ _ H1.out _).mono ?_; rintro e w' ⟨rfl, rfl⟩)
      go_ret
      exact ⟨by rw [HC.out]; rfl, HB.out⟩
end Go.Proofs.Ytljaabmemjehpaa
