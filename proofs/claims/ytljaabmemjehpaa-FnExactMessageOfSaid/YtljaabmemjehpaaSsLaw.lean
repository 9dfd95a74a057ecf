/- Lists of lists of numbers: copied, equal, marked, held. -/
import Derived.Test.YtljaabmemjehpaaLB
import Derived.Test.YtljaabmemjehpaaStep
namespace Go.Proofs.Ytljaabmemjehpaa
open Go.RowKit Go.Joins
set_option linter.unusedVariables false

set_option maxRecDepth 100000 in
set_option maxHeartbeats 3200000 in
theorem toInt64SS_any (A : Option Addr) (n cap : Nat) (rows : List (List Int)) (w : World) (hA : ArgS w A n rows) (hn : n + total rows ≤ 1048576) :
    Calls Try.prog 67 #[.slice A n cap] w fun e w' => ∃ g, e = .returned (.slice (some ⟨g, 0, none⟩) n n) ∧ w.heap.size ≤ g ∧ Below w.heap.size w w' ∧ RS w' w.heap.size w'.heap.size (.slice (some ⟨g, 0, none⟩) n n) rows := by
  have hlen := hA.len
  have HLEN := Lib.hid hlen
  have HN := Lib.hid hn
  have hn1 : n ≤ 1048576 := by omega
  clear hlen hn
  have HA := Lib.hid hA
  clear hA
  obtain ⟨i0, hi, hz0, hz1, hz2⟩ := info_parts Try.infoSl
  go_enter Try.func67, Try.ntmps67
  go_wp2_with (at_make; refine wpList_make_full _ rfl _ _ 24 rfl w.heap.size 27 i0 (.slice none 0 0) 1 Try.underlying24 hi hz0 hz1 .i64 .i64 _ _ n rfl rfl rfl rfl (by rw [hz2]; omega) (by unfold maxLen; omega) (Nat.le_refl _) ?_; intro w1 hown hgrow)
  have hb1 : Below w.heap.size w w1 := (Below.refl _ w).grown hgrow (Nat.le_refl _) (fun k h => by cases h)
  have hlt1 : w.heap.size < w1.heap.size := (hown.lt _ rfl).2
  have hold : ∀ j, j < n → ∃ v, w1.cell? ⟨w.heap.size, j, none⟩ = some v := by
    intro j hj
    rw [hown.cellAt j (by omega)]
    exact ⟨_, List.getElem?_eq_getElem (by rw [hown.1]; omega)⟩
  have hfr : ∀ j, w1.frozen? ⟨w.heap.size, j, none⟩ = false := fun j => hown.frozenAt j
  clear hown hgrow hz0 hz1 hz2 hi
  have HO := Lib.hid hold
  have HF := Lib.hid hfr
  have HB := Lib.hid hb1
  clear hold hfr hb1
  go_loopw [4] (fun i wr => ∃ (k : Nat) (b : Nat → Nat), k ≤ n ∧ i = .int .i64 k ∧ Below w.heap.size w wr ∧ w.heap.size < wr.heap.size ∧ (∀ j, j < n → ∃ v, wr.cell? ⟨w.heap.size, j, none⟩ = some v) ∧ (∀ j, wr.frozen? ⟨w.heap.size, j, none⟩ = false) ∧ (∀ j, j < k → wr.cell? ⟨w.heap.size, j, none⟩ = some (.slice (some ⟨b j, 0, none⟩) (rw' rows j).length (rw' rows j).length) ∧ Mt wr (b j) (rw' rows j).length (rw' rows j) ∧ w.heap.size < b j) ∧ ∀ i j, i < j → j < k → b i < b j) (fun i _ => n - (intOf i).toNat)
  case atStart => exact ⟨0, fun _ => 0, Nat.zero_le _, rfl, HB.out, hlt1, HO.out, HF.out, fun j hj => by omega, fun i j _ hj => by omega⟩
  case round =>
    obtain ⟨k, b, hk, rfl, hb, hlt, hex, hfr, hdone, hinc⟩ := hrel
    have HB2 := Lib.hid hb
    have HEX := Lib.hid hex
    have HFR := Lib.hid hfr
    have HD := Lib.hid hdone
    have HI := Lib.hid hinc
    clear hb hex hfr hdone hinc
    by_cases hkn : k < n
    · obtain ⟨a, rfl, hbl, hc⟩ := (HA.out.from HB2.out).cell (by omega)
      obtain ⟨Aj, nj, cj, hcj, hAj⟩ := hc k hkn
      have hnj : nj ≤ 1048576 := by have h1 := tot_row rows (show k < rows.length by have := HLEN.out; omega); have h2 := HN.out; have h3 := hAj.len; unfold total at h2; omega
      have HAJ := Lib.hid hAj
      clear hc hAj
      have hfk := HFR.out k
      have hs0 : w.heap.size < wr.heap.size := hlt
      go_wp2_with (go_at_call 17; refine (toInt64S_any Aj nj cj (rw' rows k) _ HAJ.out hnj).mono ?_; rintro e w2 ⟨bk, rfl, hge, hb, hM⟩; have HB3 := Lib.hid hb; have HM := Lib.hid hM; have HG := Lib.hid hge; obtain ⟨vk, hvk⟩ : ∃ v, w2.cell? ⟨w.heap.size, k, none⟩ = some v := (HEX.out k hkn).imp fun v hv => (hb.cell (p := ⟨w.heap.size, k, none⟩) hlt).trans hv; have hfk2 : w2.frozen? ⟨w.heap.size, k, none⟩ = false := (hb.frozen (p := ⟨w.heap.size, k, none⟩) hlt).trans hfk; clear hb hM hge)
      go_roundw
      case rel =>
        have hnk : nj = (rw' rows k).length := HAJ.out.len.symm
        have hge := HG.out
        have hlt2 : w.heap.size < w2.heap.size := Nat.lt_of_lt_of_le hlt HB3.out.size
        refine ⟨k + 1, fun j => if j < k then b j else bk, by omega, by go_num, (HB2.out.trans (HB3.out.mono HB2.out.size)).setCell (p := ⟨w.heap.size, k, none⟩) (Nat.le_refl _) _, ?_, fun j hj => ?_, fun j => by rw [World.frozen?_setCell, HB3.out.frozen (p := ⟨w.heap.size, j, none⟩) hlt]; exact HFR.out j, fun j hj => ?_, fun i j hij hj => ?_⟩
        · rw [size_setCell_]; exact hlt2
        · by_cases e : j = k
          · subst e; exact ⟨_, World.cell?_setCell_same' _ _ _ (by rw [hvk]; rfl)⟩
          · rw [World.cell?_setCell_other _ ⟨w.heap.size, k, none⟩ ⟨w.heap.size, j, none⟩ _ (fun h => e (by injection h with _ h _; omega)), HB3.out.cell (p := ⟨w.heap.size, j, none⟩) hlt]
            exact HEX.out j hj
        · by_cases e : j = k
          · subst e
            dsimp only
            rw [if_neg (by omega), World.cell?_setCell_same' _ _ _ (by rw [hvk]; rfl)]
            refine ⟨by rw [hnk], ?_, by omega⟩
            rw [← hnk]
            exact HM.out.setCell (p := ⟨w.heap.size, j, none⟩) (by show bk ≠ w.heap.size; omega) _
          · obtain ⟨h1, h2, h3⟩ := HD.out j (by omega)
            dsimp only
            rw [if_pos (by omega), World.cell?_setCell_other _ ⟨w.heap.size, k, none⟩ ⟨w.heap.size, j, none⟩ _ (fun h => e (by injection h with _ h _; omega)), HB3.out.cell (p := ⟨w.heap.size, j, none⟩) hlt]
            exact ⟨h1, (h2.below HB3.out).setCell (p := ⟨w.heap.size, k, none⟩) (by show b j ≠ w.heap.size; omega) _, h3⟩
        · by_cases e : j = k
          · subst e
            dsimp only
            rw [if_pos (by omega), if_neg (by omega)]
            have := (HD.out i (by omega)).2.1.lt
            omega
          · dsimp only
            rw [if_pos (by omega), if_pos (by omega)]
            exact HI.out i j hij (by omega)
      case measure => simp [intOf]; omega
    · obtain rfl : k = n := by omega
      go_wp2
      go_ret
      have hl := HLEN.out
      refine ⟨_, rfl, Nat.le_refl _, HB2.out, ⟨Nat.le_refl _, by rw [hl]; exact HN.out, some ⟨w.heap.size, 0, none⟩, k, by rw [hl], fun h0 => ⟨w.heap.size, rfl, Nat.le_refl _, hlt, fun j => .slice (some ⟨b j, 0, none⟩) (rw' rows j).length (rw' rows j).length, b, fun j hj => ?_, fun i j hij hj _ _ => ?_⟩⟩⟩
      · obtain ⟨h1, h2, h3⟩ := HD.out j (by omega)
        have h4 := h2.lt
        exact ⟨h1, .row (b j) _ _ _ (Nat.le_refl _) (by omega) h4 h2.len h2.small h2.cell (fun i _ => h2.free i), fun _ => by omega⟩
      · have := HI.out i j hij (by omega); omega

set_option maxRecDepth 100000 in
set_option maxHeartbeats 1600000 in
theorem eqSS_rr {w : World} {v v' : Value} {rows : List (List Int)} (h : RR w v rows) (h' : RR w v' rows) :
    Calls Try.prog 28 #[v, v'] w fun e w' => e = .returned (.bool true) ∧ Below w.heap.size w w' := by
  obtain ⟨A, cap, rfl⟩ := h.is
  obtain ⟨A', cap', rfl⟩ := h'.is
  have hs := h.small
  obtain ⟨n, hn⟩ : ∃ n, rows.length = n := ⟨_, rfl⟩
  rw [hn] at h h' hs ⊢
  have HH := Lib.hid h
  have HH' := Lib.hid h'
  have hn1 : n ≤ 1048576 := by omega
  clear h h' hs hn
  go_enter Try.func28, Try.ntmps28
  go_wp2_with fail
  go_loopw [5] (fun i wr => ∃ k : Nat, k ≤ n ∧ i = .int .i64 k ∧ Below w.heap.size w wr) (fun i _ => n - (intOf i).toNat)
  case atStart => exact ⟨0, Nat.zero_le _, rfl, Below.refl _ _⟩
  case round =>
    obtain ⟨k, hk, rfl, hb⟩ := hrel
    by_cases hlt : k < n
    · obtain ⟨_, g, rfl, hg, Ak, nk, ck, Bk, Tk, hck, hRk⟩ := (HH.out.next hb).row hlt
      obtain ⟨_, g', rfl, hg', Ak', nk', ck', Bk', Tk', hck', hRk'⟩ := (HH'.out.next hb).row hlt
      have HB := Lib.hid hb
      have HR := Lib.hid hRk
      have HR' := Lib.hid hRk'
      clear hb hRk hRk'
      generalize hW : wr = W at *
      have HD := Lib.hid (HR.out.next (Below.refl _ W).drew)
      have HD' := Lib.hid (HR'.out.next (Below.refl _ W).drew)
      have HBD := Lib.hid HB.out.drew
      go_wp2_with fail
      go_region_law (go_simp; go_wp2_with (go_at_call 19; refine (eq_res HD.out HD'.out).mono ?_; rintro e w2 ⟨rfl, hb⟩; have HB3 := Lib.hid hb; clear hb))
      all_goals
        go_wp2_with fail
        go_roundw
        case rel => exact ⟨k + 1, by omega, by go_num, HBD.out.trans (HB3.out.mono HBD.out.size)⟩
        case measure => simp [intOf]; omega
    · obtain rfl : k = n := by omega
      have HB := Lib.hid hb
      clear hb
      go_wp2_with fail
      go_ret
      exact ⟨rfl, HB.out⟩

/-- The marks that a list of lists is given from k0 on. -/
def marksS (k0 : Nat) (rows : List (List Int)) : List (List Int) := (List.range rows.length).map fun j => marks (k0 + tot rows j) (rw' rows j).length
theorem marksS_len (k0 : Nat) (rows : List (List Int)) : (marksS k0 rows).length = rows.length := by simp [marksS]
theorem marksS_row (k0 : Nat) (rows : List (List Int)) {j : Nat} (h : j < rows.length) : rw' (marksS k0 rows) j = marks (k0 + tot rows j) (rw' rows j).length := by simp [marksS, rw', h]
theorem marksS_tot (k0 : Nat) (rows : List (List Int)) : ∀ {k}, k ≤ rows.length → tot (marksS k0 rows) k = tot rows k
  | 0, _ => rfl
  | k + 1, h => by simp only [tot]; rw [marksS_tot k0 rows (by omega), marksS_row k0 rows (by omega), marks_len]
theorem marksS_total (k0 : Nat) (rows : List (List Int)) : total (marksS k0 rows) = total rows := by unfold total; rw [marksS_len, marksS_tot k0 rows (Nat.le_refl _)]
theorem marks_nil (k0 n : Nat) : marks k0 n ≠ [] ↔ n ≠ 0 := by
  constructor
  · intro h e; subst e; exact h rfl
  · intro h e; have := congrArg List.length e; rw [marks_len] at this; simp at this; omega

theorem mark_res1 {w : World} {b : Nat} {v : Value} {xs : List Int} (h : Res w b (b + 1) v xs) (k0 : Nat) (hk : k0 ≤ 1048577) (hx : xs.length ≤ 1048576) :
    Calls Try.prog 22 #[v, .int .i64 k0] w fun e w' => e = .returned (.int .i64 ((k0 + xs.length : Nat) : Int)) ∧ ((xs = [] ∧ w' = w) ∨ (xs ≠ [] ∧ Chg b (b + 1) w w')) ∧ Res w' b (b + 1) v (marks k0 xs.length) := by
  by_cases e : xs = []
  · subst e
    obtain ⟨A, cap, rfl⟩ := h.of_nil
    refine (mark_nil _ _ _ w).mono ?_
    rintro e w' ⟨rfl, rfl⟩
    exact ⟨rfl, .inl ⟨rfl, rfl⟩, .nil A cap⟩
  · refine (mark_res h k0 hk hx).mono ?_
    rintro e' w' ⟨rfl, hC, hR⟩
    exact ⟨rfl, .inr ⟨e, hC⟩, hR⟩

set_option maxRecDepth 100000 in
set_option maxHeartbeats 3200000 in
theorem markSS_rs {w : World} {B T : Nat} {v : Value} {rows : List (List Int)} (h : RS w B T v rows) (k0 : Nat) (hk0 : k0 + total rows ≤ 1048577) :
    Calls Try.prog 29 #[v, .int .i64 k0] w fun e w' => e = .returned (.int .i64 ((k0 + total rows : Nat) : Int)) ∧ Chg B T w w' ∧ RS w' B T v (marksS k0 rows) := by
  obtain ⟨hT, hs, A, cap, rfl, hf⟩ := h
  obtain ⟨n, hn⟩ : ∃ n, rows.length = n := ⟨_, rfl⟩
  obtain ⟨t, ht⟩ : ∃ t, total rows = t := ⟨_, rfl⟩
  have ht' : tot rows n = t := by rw [← ht, ← hn]; rfl
  rw [hn, ht] at hs
  rw [ht] at hk0
  rw [hn] at hf
  have fin : ∀ w', Chg B T w w' → (0 < n → ∃ g, A = some ⟨g, 0, none⟩ ∧ B ≤ g ∧ g < T ∧ ∃ (vs : Nat → Value) (b : Nat → Nat), (∀ j, j < n → w'.cell? ⟨g, j, none⟩ = some (vs j) ∧ Res w' (b j) (b j + 1) (vs j) (marks (k0 + tot rows j) (rw' rows j).length) ∧ (rw' rows j ≠ [] → B ≤ b j ∧ b j < T ∧ b j ≠ g)) ∧ ∀ i j, i < j → j < n → rw' rows i ≠ [] → rw' rows j ≠ [] → b i ≠ b j) → RS w' B T (.slice A n cap) (marksS k0 rows) := by
    intro w' hC hh
    refine ⟨Nat.le_trans hT hC.size, by rw [marksS_len, marksS_total, hn, ht]; exact hs, A, cap, by rw [marksS_len, hn], fun h0 => ?_⟩
    rw [marksS_len, hn] at h0
    obtain ⟨g, hA, h1, h2, vs, b, h3, h4⟩ := hh h0
    have hne : ∀ j, j < n → (rw' (marksS k0 rows) j ≠ [] ↔ rw' rows j ≠ []) := fun j hj => by
      rw [marksS_row k0 rows (by omega), marks_nil]
      exact ⟨fun h e => h (by rw [e]; rfl), fun h e => h (List.length_eq_zero_iff.1 e)⟩
    refine ⟨g, hA, h1, h2, vs, b, fun j hj => ?_, fun i j hij hj hi hj' => ?_⟩
    · rw [marksS_len, hn] at hj
      obtain ⟨a1, a2, a3⟩ := h3 j hj
      rw [marksS_row k0 rows (by omega)]
      exact ⟨a1, a2, fun hne' => a3 ((hne j hj).1 (by rw [marksS_row k0 rows (by omega)]; exact hne'))⟩
    · rw [marksS_len, hn] at hj
      exact h4 i j hij hj ((hne i (by omega)).1 hi) ((hne j hj).1 hj')
  rw [hn, ht]
  by_cases hz : n = 0
  · subst hz
    have FIN := Lib.hid fin
    have htz : t = 0 := by rw [← ht']; rfl
    subst htz
    clear fin hf hn ht ht' hs
    go_enter Try.func29, Try.ntmps29
    go_wp2_with fail
    go_loop [1, 5] (fun s i => i = .int .i64 0 ∧ s = .int .i64 k0) (fun _ i => 0)
    case atStart => exact ⟨rfl, rfl⟩
    case round =>
      obtain ⟨rfl, rfl⟩ := hrel
      go_wp2_with fail
      go_ret
      exact ⟨rfl, .of (Below.refl _ _), FIN.out _ (.of (Below.refl _ _)) (fun h => by omega)⟩
  · obtain ⟨g, rfl, hg1, hg2, vs, b, h3, h4⟩ := hf (by omega)
    have HT := Lib.hid hT
    have HTT := Lib.hid ht'
    have hn1 : n ≤ 1048576 := by omega
    have H3 := Lib.hid h3
    have H4 := Lib.hid h4
    have FIN := Lib.hid fin
    have HG := Lib.hid (And.intro hg1 hg2)
    have HN := Lib.hid hn
    have hk1 : k0 + t ≤ 1048577 := hk0
    clear fin h3 h4 hf hg1 hg2 hn ht ht' hs hT
    go_enter Try.func29, Try.ntmps29
    go_wp2_with fail
    go_loopw [1, 5] (fun s i wr => ∃ k x : Nat, k ≤ n ∧ i = .int .i64 k ∧ s = .int .i64 (x : Int) ∧ x ≤ 1048577 ∧ Hid (x = k0 + tot rows k) ∧ Chg B T w wr ∧ ∀ j, j < n → wr.cell? ⟨g, j, none⟩ = some (vs j) ∧ Res wr (b j) (b j + 1) (vs j) (if j < k then marks (k0 + tot rows j) (rw' rows j).length else rw' rows j) ∧ (rw' rows j ≠ [] → B ≤ b j ∧ b j < T ∧ b j ≠ g)) (fun _ i _ => n - (intOf i).toNat)
    case atStart => exact ⟨0, k0, Nat.zero_le _, rfl, rfl, by omega, Lib.hid rfl, .of (Below.refl _ _), fun j hj => by rw [if_neg (by omega)]; exact H3.out j hj⟩
    case round =>
      obtain ⟨k, x, hk, rfl, rfl, hx, HX, hC, hc⟩ := hrel
      have HC := Lib.hid hC
      have HCC := Lib.hid hc
      clear hC hc
      by_cases hlt : k < n
      · obtain ⟨c1, c2, c3⟩ := HCC.out k hlt
        rw [if_neg (by omega)] at c2
        obtain ⟨ck, hck⟩ : ∃ z, (rw' rows k).length = z := ⟨_, rfl⟩
        have hxc : x + ck ≤ 1048577 := by
          have h1 := tot_le rows (show k + 1 ≤ n by omega)
          have h2 := HX.out
          have h3 := HTT.out
          simp only [tot] at h1
          omega
        obtain ⟨Ak, nk, cp, hvs⟩ := c2.form
        rw [hvs] at c1 c2
        have HR := Lib.hid c2
        have HCK := Lib.hid hck
        have HVS := Lib.hid hvs
        have H3K := Lib.hid c3
        clear c2 c3 hvs hck
        go_wp2_with fail
        refine (mark_res1 HR.out x hx HR.out.small).mono ?_
        rintro e w2 ⟨rfl, hC, hR⟩
        rw [HCK.out]
        have HC2 := Lib.hid hC
        have HR2 := Lib.hid hR
        clear hC hR
        generalize hxs : x + ck = y at hxc ⊢
        have HY := Lib.hid hxs
        clear hxs
        go_wp2_with fail
        go_roundw
        case rel =>
          have hX := HX.out
          have hCK := HCK.out
          refine ⟨k + 1, y, by omega, by go_num, rfl, hxc, Lib.hid (by simp only [tot]; have := HY.out; omega), ?_, fun j hj => ?_⟩
          · rcases HC2.out with ⟨_, rfl⟩ | ⟨e, hC2⟩
            · exact HC.out
            · obtain ⟨q1, q2, q3⟩ := H3K.out e
              exact HC.out.trans ⟨hC2.os, hC2.tape, hC2.output, hC2.size, fun i hi ho => hC2.block i hi (by omega)⟩
          · obtain ⟨d1, d2, d3⟩ := HCC.out j hj
            rcases HC2.out with ⟨e, rfl⟩ | ⟨e, hC2⟩
            · refine ⟨d1, ?_, d3⟩
              by_cases hjk : j = k
              · subst hjk
                rw [if_pos (by omega), HVS.out, hCK, ← hX]
                have := HR2.out
                rwa [hCK] at this
              · by_cases hj' : j < k
                · rw [if_pos hj'] at d2; rw [if_pos (by omega)]; exact d2
                · rw [if_neg hj'] at d2; rw [if_neg (by omega)]; exact d2
            · obtain ⟨q1, q2, q3⟩ := H3K.out e
              have hgs : g < wr.heap.size := Nat.lt_of_lt_of_le HG.out.2 (Nat.le_trans HT.out HC.out.size)
              refine ⟨(World.cell?_of_block (w := wr) (a := ⟨g, j, none⟩) (hC2.block g hgs (by omega))).trans d1, ?_, d3⟩
              by_cases hjk : j = k
              · subst hjk
                rw [if_pos (by omega), HVS.out, hCK, ← hX]
                have := HR2.out
                rwa [hCK] at this
              · have hdis : rw' rows j ≠ [] → b j ≠ b k := fun hne => by
                  by_cases hj' : j < k
                  · exact H4.out j k hj' hlt hne e
                  · exact (H4.out k j (by omega) hj e hne).symm
                by_cases hj' : j < k
                · rw [if_pos hj'] at d2; rw [if_pos (by omega)]
                  refine d2.chg1 hC2 (fun hne => ?_)
                  have := hdis (fun e' => hne (by rw [e']; rfl))
                  omega
                · rw [if_neg hj'] at d2; rw [if_neg (by omega)]
                  refine d2.chg1 hC2 (fun hne => ?_)
                  have := hdis hne
                  omega
        case measure => simp [intOf]; omega
      · obtain rfl : k = n := by omega
        go_wp2_with fail
        go_ret
        refine ⟨?_, HC.out, FIN.out _ HC.out (fun _ => ⟨g, rfl, HG.out.1, HG.out.2, vs, b, fun j hj => ?_, H4.out⟩)⟩
        · exact ret_int (by have h1 := HX.out; have h2 := HTT.out; omega)
        · have := HCC.out j hj
          rwa [if_pos hj] at this

set_option maxRecDepth 100000 in
set_option maxHeartbeats 1600000 in
theorem heldSS_rs {w : World} {B T : Nat} {v : Value} {rows : List (List Int)} (k0 : Nat) (h : RS w B T v (marksS k0 rows)) (hk0 : k0 + total rows ≤ 1048577) :
    Calls Try.prog 30 #[v, .int .i64 k0] w fun e w' => e = .returned (.int .i64 ((k0 + total rows : Nat) : Int)) ∧ Below w.heap.size w w' := by
  have hr := h.rr
  obtain ⟨A, cap, rfl⟩ := h.is
  have hs := h.small
  rw [marksS_len] at hs hr ⊢
  rw [marksS_total] at hs
  obtain ⟨n, hn⟩ : ∃ n, rows.length = n := ⟨_, rfl⟩
  obtain ⟨t, ht⟩ : ∃ t, total rows = t := ⟨_, rfl⟩
  have ht' : tot rows n = t := by rw [← ht, ← hn]; rfl
  rw [hn, ht] at hs
  rw [hn] at hr ⊢
  rw [ht] at hk0 ⊢
  have HR := Lib.hid hr
  have HN := Lib.hid hn
  have HT := Lib.hid ht'
  have hn1 : n ≤ 1048576 := by omega
  clear h hr hs hn ht ht'
  go_enter Try.func30, Try.ntmps30
  go_wp2_with fail
  go_loopw [1, 5] (fun s i wr => ∃ k x : Nat, k ≤ n ∧ i = .int .i64 k ∧ s = .int .i64 (x : Int) ∧ x ≤ 1048577 ∧ Hid (x = k0 + tot rows k) ∧ Below w.heap.size w wr) (fun _ i _ => n - (intOf i).toNat)
  case atStart => exact ⟨0, k0, Nat.zero_le _, rfl, rfl, by omega, Lib.hid rfl, Below.refl _ _⟩
  case round =>
    obtain ⟨k, x, hk, rfl, rfl, hx, HX, hb⟩ := hrel
    by_cases hlt : k < n
    · obtain ⟨_, g, rfl, hg, Ak, nk, ck, Bk, Tk, hck, hRk⟩ := (HR.out.next hb).row hlt
      rw [marksS_row k0 rows (by have := HN.out; omega), ← HX.out] at hRk
      obtain ⟨z, hz⟩ : ∃ z, (rw' rows k).length = z := ⟨_, rfl⟩
      rw [hz] at hRk
      have hxz : x + z ≤ 1048577 := by
        have h1 := tot_le rows (show k + 1 ≤ n by omega)
        have h2 := HX.out
        have h3 := HT.out
        simp only [tot] at h1
        omega
      have HZ := Lib.hid hz
      have HB := Lib.hid hb
      have HRK := Lib.hid hRk
      clear hb hRk hz
      generalize hW : wr = W at *
      go_wp2_with fail
      refine (held_res x z HRK.out hx (by have := HRK.out.small; rw [marks_len] at this; exact this)).mono ?_
      rintro e w2 ⟨rfl, rfl⟩
      generalize hxs : x + z = y at hxz ⊢
      have HY := Lib.hid hxs
      clear hxs
      go_wp2_with fail
      go_roundw
      case rel => exact ⟨k + 1, y, by omega, by go_num, rfl, hxz, Lib.hid (by simp only [tot]; have h1 := HY.out; have h2 := HZ.out; have h3 := HX.out; omega), HB.out⟩
      case measure => simp [intOf]; omega
    · obtain rfl : k = n := by omega
      have HB := Lib.hid hb
      clear hb
      go_wp2_with fail
      go_ret
      exact ⟨ret_int (by have h1 := HX.out; have h2 := HT.out; omega), HB.out⟩
end Go.Proofs.Ytljaabmemjehpaa
