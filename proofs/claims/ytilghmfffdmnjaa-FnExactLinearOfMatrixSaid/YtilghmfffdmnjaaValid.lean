/- The laws' own functions over matrices: measured, copied, equal, marked, held. · A row with one column alone: the program's. · Matrices that are valid: as numbers; where one lies. · Whether a matrix is valid: the model and the program. -/
import Derived.Test.YtilghmfffdmnjaaThird
import Derived.Test.YtilghmfffdmnjaaColPure
import Derived.Lib.SmallJoins
import Derived.Test.YtilghmfffdmnjaaIn
namespace Go.Proofs.Ytilghmfffdmnjaa
open Go.RowKit Go.Joins
set_option linter.unusedVariables false

set_option maxHeartbeats 400000 in
theorem szMatrix_ok (c : Int) (A : Option Addr) (n cap : Nat) (l : Int) (hl : l ≤ 1048576) (h : (n : Int) ≤ l) (w : World) :
    Calls Try.prog 34 #[.agg #[.int .i64 c, .slice A n cap], .int .i64 l] w fun e w' => e = .returned (.int .i64 (l - n)) ∧ Below w.heap.size w w' := by
  go_enter Try.func34, Try.ntmps34
  go_wp2
  go_ret
  exact ⟨rfl, (Below.refl _ w).alloc (Nat.le_refl _) _⟩

set_option maxHeartbeats 400000 in
theorem szMatrix_no (c : Int) (A : Option Addr) (n cap : Nat) (hn : n ≤ 9223372036854775807) (l : Int) (h0 : 0 ≤ l) (hl : l ≤ 1048576) (h : l < (n : Int)) (w : World) :
    Calls Try.prog 34 #[.agg #[.int .i64 c, .slice A n cap], .int .i64 l] w fun e w' => e = .returned (.int .i64 (-1)) ∧ Below w.heap.size w w' := by
  go_enter Try.func34, Try.ntmps34
  go_wp2
  go_ret
  exact ⟨rfl, (Below.refl _ w).alloc (Nat.le_refl _) _⟩

set_option maxHeartbeats 400000 in
theorem toMatrix_any (c : Int) (A : Option Addr) (n cap : Nat) (xs : List Int) (w : World) (hA : Arg w A n xs) (hn : n ≤ 1048576) :
    Calls Try.prog 37 #[.agg #[.int .i64 c, .slice A n cap]] w fun e w' => ∃ b, e = .returned (.agg #[.int .i64 c, .slice (some ⟨b, 0, none⟩) n n]) ∧ w.heap.size ≤ b ∧ Below w.heap.size w w' ∧ Mt w' b n xs := by
  go_enter Try.func37, Try.ntmps37
  go_wp2_with fail
  refine (toInt64S_any A n cap xs _ (hA.below (below_alloc3 _ _ _ _)) hn).mono ?_
  rintro e w4 ⟨b, rfl, hge, hb4, hM⟩
  obtain ⟨⟨g0, g1, g2, g3⟩, k0, k1, k2, k3⟩ := third w (.cells #[.int .i64 c, .slice A n cap] 56) (.int .i64 0) (.slice none 0 0) (.int .i64 c) (.slice none 0 0) 60 _ rfl
  have e0 := (hb4.cell (p := ⟨w.heap.size + 1 + 1, 0, none⟩) (by simp)).trans g0
  have e1 := (hb4.cell (p := ⟨w.heap.size + 1 + 1, 1, none⟩) (by simp)).trans g1
  have f0 := (hb4.frozen (p := ⟨w.heap.size + 1 + 1, 0, none⟩) (by simp)).trans g2
  have f1 := (hb4.frozen (p := ⟨w.heap.size + 1 + 1, 1, none⟩) (by simp)).trans g3
  have e2 := (hb4.cell (p := ⟨w.heap.size + 1, 0, none⟩) (by simp)).trans k0
  have e3 := (hb4.cell (p := ⟨w.heap.size + 1, 1, none⟩) (by simp)).trans k1
  have f2 := (hb4.frozen (p := ⟨w.heap.size + 1, 0, none⟩) (by simp)).trans k2
  have f3 := (hb4.frozen (p := ⟨w.heap.size + 1, 1, none⟩) (by simp)).trans k3
  clear g0 g1 g2 g3 k0 k1 k2 k3
  have hB4 : Below w.heap.size w w4 := (below_alloc3 w _ _ _).trans (hb4.mono (by simp; omega))
  have hge' : w.heap.size + 1 + 1 < b := by simp at hge; omega
  have HB := Lib.hid hB4
  have HM := Lib.hid hM
  clear hb4 hB4 hM hge
  go_wp2
  refine bodyPost_ret (v := .agg #[.int .i64 c, .slice (some ⟨b, 0, none⟩) n n]) (by simp [results, Try.results37, go_sem, World.cell?_setCell_same', e2, e3]) rfl ?_
  exact ⟨b, rfl, by omega, ((HB.out.setCell (p := ⟨w.heap.size + 1 + 1, 1, none⟩) (by simp; omega) _).setCell (p := ⟨w.heap.size + 1, 0, none⟩) (by simp) _).setCell (p := ⟨w.heap.size + 1, 1, none⟩) (by simp) _, ((HM.out.setCell (p := ⟨w.heap.size + 1 + 1, 1, none⟩) (by simp; omega) _).setCell (p := ⟨w.heap.size + 1, 0, none⟩) (by simp; omega) _).setCell (p := ⟨w.heap.size + 1, 1, none⟩) (by simp; omega) _⟩
end Go.Proofs.Ytilghmfffdmnjaa
namespace Go.Proofs.Ytilghmfffdmnjaa
open Go.RowKit Go.Joins
set_option linter.unusedVariables false

set_option maxHeartbeats 400000 in
theorem unit_any (c : Nat) (hc : c ≤ 20) (w : World) :
    Calls Try.prog 125 #[.int .i64 c] w fun e w' => e = .returned (.int .u32 ((2 ^ c : Nat) : Int)) ∧ w = w' := by
  have hp : 2 ^ c ≤ 1048576 := Nat.pow_le_pow_right (n := 2) (by omega) hc
  go_enter Try.func125, Try.ntmps125
  go_wp2
  go_ret
  exact ⟨ret_int (by have e : ((2 ^ c : Nat) : Int) = 2 ^ c := by simp
                     rw [← e]; clear e; generalize 2 ^ c = P at hp ⊢; omega), rfl⟩
end Go.Proofs.Ytilghmfffdmnjaa
namespace Go.Proofs.Ytilghmfffdmnjaa
open Go.RowKit Go.Joins
set_option linter.unusedVariables false

/-- In the world W a matrix of c columns, with its rows at the block b, lies at the block q. -/
structure MAt (W : World) (q : Nat) (c : Int) (b n cap : Nat) : Prop where
  c0 : W.cell? ⟨q, 0, none⟩ = some (.int .i64 c)
  c1 : W.cell? ⟨q, 1, none⟩ = some (.slice (some ⟨b, 0, none⟩) n cap)
  lt : q < W.heap.size
theorem MAt.next {W W' : World} {q : Nat} {c : Int} {b n cap : Nat} (h : MAt W q c b n cap) (hb : Below W.heap.size W W') : MAt W' q c b n cap :=
  ⟨(hb.cell (p := ⟨q, 0, none⟩) h.lt).trans h.c0, (hb.cell (p := ⟨q, 1, none⟩) h.lt).trans h.c1, Nat.lt_of_lt_of_le h.lt hb.size⟩

/-- Whether the first k numbers are rows of c columns. -/
def okTo (c : Int) (xs : List Int) (k : Nat) : Prop := ∀ j, j < k → 0 ≤ xs[j]?.getD 0 ∧ xs[j]?.getD 0 < 2 ^ c.toNat
theorem okM_yes {c : Int} {xs : List Int} (h1 : 1 ≤ c) (h2 : c ≤ 10) (h3 : xs.length ≤ 10) (h : okTo c xs xs.length) : okM c xs = true := by
  simp only [okM, Bool.and_eq_true, decide_eq_true_eq, List.all_eq_true]
  refine ⟨⟨h1, h2, h3⟩, fun z hz => ?_⟩
  obtain ⟨j, hj, rfl⟩ := List.getElem_of_mem hz
  have := h j hj
  rwa [List.getElem?_eq_getElem hj] at this
theorem okM_no {c : Int} {xs : List Int} {k : Nat} (hk : k < xs.length) (h : ¬ (0 ≤ xs[k]?.getD 0 ∧ xs[k]?.getD 0 < 2 ^ c.toNat)) : okM c xs = false := by
  rw [Bool.eq_false_iff]
  intro hc
  simp only [okM, Bool.and_eq_true, decide_eq_true_eq, List.all_eq_true] at hc
  refine h ?_
  have := hc.2 xs[k] (List.getElem_mem hk)
  rwa [List.getElem?_eq_getElem hk]
theorem okM_no1 {c : Int} {xs : List Int} (h : ¬ (1 ≤ c ∧ c ≤ 10 ∧ xs.length ≤ 10)) : okM c xs = false := by
  rw [Bool.eq_false_iff]
  intro hc
  simp only [okM, Bool.and_eq_true, decide_eq_true_eq] at hc
  exact h hc.1
theorem int_pow (c : Nat) : ((2 ^ c : Nat) : Int) = 2 ^ c := by simp
end Go.Proofs.Ytilghmfffdmnjaa
namespace Go.Proofs.Ytilghmfffdmnjaa
open Go.RowKit Go.Joins
set_option linter.unusedVariables false

set_option maxHeartbeats 400000 in
theorem isRow_any (c : Nat) (hc : c ≤ 20) (z : Int) (w : World) :
    Calls Try.prog 124 #[.int .i64 c, .int .i64 z] w fun e w' => e = .returned (.bool (decide (0 ≤ z ∧ z < 2 ^ c))) ∧ w = w' := by
  have hp : 2 ^ c ≤ 1048576 := Nat.pow_le_pow_right (n := 2) (by omega) hc
  have he : ((2 ^ c : Nat) : Int) = 2 ^ c := by simp
  obtain ⟨P, hP⟩ : ∃ P : Nat, 2 ^ c = P := ⟨_, rfl⟩
  rw [← he, hP]
  rw [hP] at hp
  have HP := Lib.hid hP
  clear hP he
  by_cases h0 : 0 ≤ z
  · go_enter Try.func124, Try.ntmps124
    go_wp2_with (go_at_call 125; refine (unit_any c hc _).mono ?_; rw [HP.out]; rintro e w1 ⟨rfl, rfl⟩)
    go_ret
    exact ⟨ret_bool (by simp [h0]), rfl⟩
  · go_enter Try.func124, Try.ntmps124
    go_wp2_with (go_at_call 125; refine (unit_any c hc _).mono ?_; rw [HP.out]; rintro e w1 ⟨rfl, rfl⟩)
    go_ret
    exact ⟨ret_bool (by simp; omega), rfl⟩

set_option maxHeartbeats 1600000 in
theorem l02Ok_anyR (q : Nat) (c : Int) (A : Option Addr) (n cap : Nat) (xs : List Int) (w : World) (hm : MR w q c A n cap) (hM : Rd w w.heap.size A n xs) :
    Calls Try.prog 75 #[.pointer (some ⟨q, 0, none⟩)] w fun e w' => e = .returned (.bool (okM c xs)) ∧ Below w.heap.size w w' := by
  have c0 := hm.c0
  have c1 := hm.c1
  have hlen := hM.len
  have hsm := hM.small
  by_cases hc : 1 ≤ c ∧ c ≤ 10
  · obtain ⟨C, rfl⟩ : ∃ C : Nat, c = C := ⟨c.toNat, by omega⟩
    by_cases hn : n ≤ 10
    · have hp : 2 ^ C ≤ 1024 := pow_le10 (by omega)
      go_enter Try.func75, Try.ntmps75
      have hpi : (2 : Int) ^ C ≤ 1024 := by rw [← int_pow]; omega
      have hpi0 : (0 : Int) < (2 : Int) ^ C := by rw [← int_pow]; have := Nat.two_pow_pos C; omega
      go_wp2_with (go_at_call 44; refine (l00In_yes _ _ _ (by omega) (by omega) _).mono ?_; rintro e w' ⟨rfl, rfl⟩)
      go_loopw [3] (fun i wr => ∃ k j : Nat, k ≤ n ∧ i = .int .i64 k ∧ wr = w.drewN j ∧ okTo C xs k) (fun i _ => n - (intOf i).toNat)
      case atStart => exact ⟨0, 0, Nat.zero_le _, rfl, rfl, fun j hj => by omega⟩
      case round =>
        obtain ⟨k, j, hk, rfl, rfl, hok⟩ := hrel
        have HOK := Lib.hid hok
        clear hok
        by_cases hlt : k < n
        · obtain ⟨b, hAe, -, hck⟩ := (hM.drewN j).cell k hlt
          have c0' : (w.drewN j).cell? ⟨q, 0, none⟩ = some (.int .i64 C) := c0
          have c1' : (w.drewN j).cell? ⟨q, 1, none⟩ = some (.slice A n cap) := c1
          obtain ⟨z, hz⟩ : ∃ z, xs[k]?.getD 0 = z := ⟨_, rfl⟩
          rw [hz] at hck
          have HZ := Lib.hid hz
          clear hz
          subst hAe
          generalize hwq : w.drewN j = W at hck c0' c1' ⊢
          have HW := Lib.hid hwq
          clear hwq
          by_cases hg : 0 ≤ z ∧ z < 2 ^ C
          · go_wp2
            go_quiet ((go_at_call 44; exact quiet_of_eq (l00In_yes _ _ _ (by omega) (by omega) _)))
            go_wp2
            go_roundw
            case rel => exact ⟨k + 1, j + _, by omega, by go_num, by rw [← HW.out, World.drewN_drewN], fun i hi => by
              by_cases e : i = k
              · subst e; rw [HZ.out]; exact hg
              · exact HOK.out i (by omega)⟩
            case measure => simp [intOf]; omega
          · go_wp2
            go_quiet ((go_at_call 44; exact quiet_of_eq (l00In_no _ _ _ (by omega) _)))
            go_wp2
            go_ret
            exact ⟨ret_bool (okM_no (k := k) (by omega) (by rw [HZ.out]; exact hg)).symm, by rw [← HW.out, World.drewN_drewN]; exact below_draws _ _ _⟩
        · obtain rfl : k = n := by omega
          go_wp2
          go_ret
          exact ⟨ret_bool (okM_yes (by omega) (by omega) (by omega) (by rw [hlen]; exact HOK.out)).symm, below_draws _ _ _⟩
    · go_enter Try.func75, Try.ntmps75
      go_wp2_with (go_at_call 44; refine (l00In_yes _ _ _ (by omega) (by omega) _).mono ?_; rintro e w' ⟨rfl, rfl⟩)
      go_ret
      exact ⟨ret_bool (okM_no1 (by omega)).symm, Below.refl _ _⟩
  · have hc' : c < 1 ∨ 10 < c := by omega
    go_enter Try.func75, Try.ntmps75
    go_wp2_with (go_at_call 44; refine (l00In_no _ _ _ hc' _).mono ?_; rintro e w' ⟨rfl, rfl⟩)
    go_ret
    exact ⟨ret_bool (okM_no1 (by omega)).symm, Below.refl _ _⟩
theorem l02Ok_any (q : Nat) (c : Int) (b n cap : Nat) (xs : List Int) (w : World) (hm : MAt w q c b n cap) (hM : Mt w b n xs) :
    Calls Try.prog 75 #[.pointer (some ⟨q, 0, none⟩)] w fun e w' => e = .returned (.bool (okM c xs)) ∧ Below w.heap.size w w' :=
  l02Ok_anyR q c (some ⟨b, 0, none⟩) n cap xs w ⟨hm.c0, hm.c1, hm.lt⟩ hM.rd

set_option maxHeartbeats 1600000 in
theorem implValidMatrix_anyR (c : Int) (A : Option Addr) (n cap : Nat) (xs : List Int) (w : World) (hM : Rd w w.heap.size A n xs) :
    Calls Try.prog 114 #[.agg #[.int .i64 c, .slice A n cap]] w fun e w' => e = .returned (.bool (okM c xs)) ∧ Below w.heap.size w w' := by
  have hlen := hM.len
  have hsm := hM.small
  by_cases hc : 1 ≤ c ∧ c ≤ 10 ∧ n ≤ 10
  · obtain ⟨C, rfl⟩ : ∃ C : Nat, c = C := ⟨c.toNat, by omega⟩
    go_enter Try.func114, Try.ntmps114
    go_wp2_with fail
    go_loop [22] (fun i => ∃ k : Nat, k ≤ n ∧ i = .int .i64 k ∧ okTo C xs k) (fun i => n - (intOf i).toNat)
    case atStart => exact ⟨0, Nat.zero_le _, rfl, fun j hj => by omega⟩
    case round =>
      obtain ⟨k, hk, rfl, hok⟩ := hrel
      have HOK := Lib.hid hok
      clear hok
      by_cases hlt : k < n
      · obtain ⟨b, rfl, hbl, hck⟩ := hM.cell k hlt
        obtain ⟨z, hz⟩ : ∃ z, xs[k]?.getD 0 = z := ⟨_, rfl⟩
        rw [hz] at hck
        have HZ := Lib.hid hz
        clear hz
        by_cases hg : 0 ≤ z ∧ z < 2 ^ C
        · have HG := Lib.hid (decide_eq_true hg)
          have HG2 := Lib.hid hg
          clear hg
          go_wp2_with (go_at_call 124; refine (isRow_any C (by omega) _ _).mono ?_; rw [HG.out]; rintro e w1 ⟨rfl, rfl⟩)
          go_round
          case rel => exact ⟨k + 1, by omega, by go_num, fun i hi => by
            by_cases e : i = k
            · subst e; rw [HZ.out]; exact HG2.out
            · exact HOK.out i (by omega)⟩
          case measure => simp [intOf]; omega
        · have HG := Lib.hid (decide_eq_false hg)
          have HG2 := Lib.hid hg
          clear hg
          go_wp2_with (go_at_call 124; refine (isRow_any C (by omega) _ _).mono ?_; rw [HG.out]; rintro e w1 ⟨rfl, rfl⟩)
          go_ret
          exact ⟨ret_bool (okM_no (k := k) (by omega) (by rw [HZ.out]; exact HG2.out)).symm, below_alloc1 _ _⟩
      · obtain rfl : k = n := by omega
        go_wp2
        go_ret
        exact ⟨ret_bool (okM_yes (by omega) (by omega) (by omega) (by rw [hlen]; exact HOK.out)).symm, below_alloc1 _ _⟩
  · go_enter Try.func114, Try.ntmps114
    go_wp2_with fail
    all_goals first
      | (go_ret; exact ⟨ret_bool (okM_no1 (by omega)).symm, below_alloc1 _ _⟩)
      | (exfalso; omega)
theorem implValidMatrix_any (c : Int) (b n cap : Nat) (xs : List Int) (w : World) (hM : Mt w b n xs) :
    Calls Try.prog 114 #[.agg #[.int .i64 c, .slice (some ⟨b, 0, none⟩) n cap]] w fun e w' => e = .returned (.bool (okM c xs)) ∧ Below w.heap.size w w' :=
  implValidMatrix_anyR c (some ⟨b, 0, none⟩) n cap xs w hM.rd
end Go.Proofs.Ytilghmfffdmnjaa
