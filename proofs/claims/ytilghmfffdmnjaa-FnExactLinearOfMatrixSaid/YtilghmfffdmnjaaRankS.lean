/- A list copied: the model's own. · The model's echelon form: column after column. · The rank of a matrix: the model's. -/
import Derived.Test.YtilghmfffdmnjaaWr
import Derived.Test.YtilghmfffdmnjaaSp1
namespace Go.Proofs.Ytilghmfffdmnjaa
open Go.RowKit Go.Joins
set_option linter.unusedVariables false

set_option maxHeartbeats 1600000 in
theorem l00Own_anyR (A : Option Addr) (n cap : Nat) (L : List Nat) (w : World) (hM : Rd w w.heap.size A n (ints L)) :
    Calls Try.prog 65 #[.slice A n cap] w fun e w' => ∃ ao cap', e = .returned (.slice ao n cap') ∧ LR w' w.heap.size w'.heap.size ao cap' L ∧ Below w.heap.size w w' := by
  obtain ⟨i0, hi, hz0, hz1, hz2⟩ := info_parts Try.infoI
  have hll := hM.len
  rw [ints_length] at hll
  subst hll
  have hs := hM.small
  have hown : (w.alloc (.cells #[] 2)).ownsRow w.heap.size 2 1 (.slice (some ⟨w.heap.size, 0, none⟩) 0 0) 0 [] := World.ownsRow_made w #[] 0 (Nat.le_refl _) (by unfold maxLen; omega) (by simp)
  have hM2 := hM.below (below_alloc1 w (.cells #[] 2))
  by_cases h0 : L.length = 0
  · have hL0 : L = [] := List.length_eq_zero_iff.1 h0
    subst hL0
    go_enter Try.func65, Try.ntmps65
    go_wp2_with (at_builtin; refine wpList_append_zero rfl _ _ 46 rfl 2 i0 Try.underlying46 hi _ 0 0 (Nat.le_refl _) rfl A cap rfl ?_)
    go_wp2_with fail
    go_ret
    exact ⟨_, 0, rfl, ⟨fun h => by simp at h⟩, below_alloc1 _ _⟩
  · obtain ⟨b, rfl, hbl, -⟩ := hM.cell 0 (by omega)
    go_enter Try.func65, Try.ntmps65
    go_wp2_with (at_builtin; refine wpList_append_own _ rfl _ _ 46 rfl w.heap.size 2 i0 (.int .i64 0) 1 8 Try.underlying46 hi hz0 hz1 hz2 rfl (by decide) _ _ _ rfl hown ⟨b, 0, none⟩ L.length cap ((ints L).map (Value.int .i64)) rfl (by simp [ints]) (ints_newsR _ b _ _ L hM2) (ints_one L) (by unfold maxLen; omega) (by omega) (by simp) ?_; intro v' w3 hown' hgrow _; have hb3 : Below w.heap.size w w3 := ((below_alloc1 w _).grown hgrow (by simp) (fun g hg => (hown.lt g hg).1)); obtain ⟨ao, cp, hv, hlr⟩ := LR.of_own (by simpa using hown'))
    subst hv
    clear hown' hgrow hown hM2
    go_wp2_with fail
    go_ret
    exact ⟨_, _, rfl, hlr, hb3⟩
theorem l00Own_any (b n cap : Nat) (L : List Nat) (w : World) (hM : Mt w b n (ints L)) :
    Calls Try.prog 65 #[.slice (some ⟨b, 0, none⟩) n cap] w fun e w' => ∃ ao cap', e = .returned (.slice ao n cap') ∧ LR w' w.heap.size w'.heap.size ao cap' L ∧ Below w.heap.size w w' :=
  l00Own_anyR (some ⟨b, 0, none⟩) n cap L w hM.rd
end Go.Proofs.Ytilghmfffdmnjaa
namespace Go.Proofs.Ytilghmfffdmnjaa
open Go.RowKit Go.Joins
set_option linter.unusedVariables false

/-- What lies in the memory while the model goes from column to column: its own copy of the rows, the rows so far. -/
structure EB (w wr : World) (T : Nat) (ao : Option Addr) (cap : Nat) (A : List Nat) (g cp : Nat) (O : List Nat) : Prop where
  left : LR wr w.heap.size T ao cap A
  out : OR wr T 2 g cp O
  b : Below w.heap.size w wr
  z : w.heap.size ≤ T ∧ T ≤ wr.heap.size
theorem EB.setLeft {w wr : World} {T : Nat} {gl cap : Nat} {A : List Nat} {g cp : Nat} {O : List Nat} (h : EB w wr T (some ⟨gl, 0, none⟩) cap A g cp O) (j : Nat) (hj : j < A.length) (x : Nat) :
    EB w (wr.setCell ⟨gl, j, none⟩ (.int .i64 x)) T (some ⟨gl, 0, none⟩) cap (A.set j x) g cp O := by
  obtain ⟨g', e, h1, h2⟩ := h.left.row (by omega)
  injection e with e
  injection e with e
  subst e
  have hT := h.out.lt
  have hB := h2.lt
  refine ⟨⟨fun _ => ⟨gl, rfl, h1, h2.set j hj x⟩⟩, h.out.at (Below.heap_setCell wr ⟨gl, j, none⟩ _ g (by show g ≠ gl; omega)), h.b.setCell (p := ⟨gl, j, none⟩) hB.1 _, h.z.1, ?_⟩
  show T ≤ (Array.modify _ _ _).size
  rw [Array.size_modify]; exact h.z.2
theorem EB.setOut {w wr : World} {T : Nat} {ao : Option Addr} {cap : Nat} {A : List Nat} {g cp : Nat} {O : List Nat} (h : EB w wr T ao cap A g cp O) (j : Nat) (hj : j < O.length) (x : Nat) :
    EB w (wr.setCell ⟨g, j, none⟩ (.int .i64 x)) T ao cap A g cp (O.set j x) := by
  have hT := h.out.lt
  refine ⟨⟨fun h0 => ?_⟩, h.out.set j hj x, h.b.setCell (p := ⟨g, j, none⟩) (by show w.heap.size ≤ g; have := h.z.1; omega) _, h.z.1, ?_⟩
  · obtain ⟨g', e, h1, h2⟩ := h.left.row h0
    exact ⟨g', e, h1, h2.at (Below.heap_setCell wr ⟨g, j, none⟩ _ g' (by show g' ≠ g; omega))⟩
  · show T ≤ (Array.modify _ _ _).size
    rw [Array.size_modify]; exact h.z.2
theorem EB.cellL {w wr : World} {T : Nat} {gl cap : Nat} {A : List Nat} {g cp : Nat} {O : List Nat} (h : EB w wr T (some ⟨gl, 0, none⟩) cap A g cp O) (j : Nat) (hj : j < A.length) :
    wr.cell? ⟨gl, j, none⟩ = some (.int .i64 (nth A j : Nat)) ∧ wr.frozen? ⟨gl, j, none⟩ = false := by
  obtain ⟨g', e, h1, h2⟩ := h.left.row (by omega)
  injection e with e
  injection e with e
  subst e
  exact ⟨h2.cell j hj, h2.free j⟩
theorem EB.cellO {w wr : World} {T : Nat} {ao : Option Addr} {cap : Nat} {A : List Nat} {g cp : Nat} {O : List Nat} (h : EB w wr T ao cap A g cp O) (j : Nat) (hj : j < O.length) :
    wr.cell? ⟨g, j, none⟩ = some (.int .i64 (nth O j : Nat)) ∧ wr.frozen? ⟨g, j, none⟩ = false := ⟨h.out.cell j hj, h.out.free j⟩
theorem EB.grow {w wr w2 : World} {T : Nat} {ao : Option Addr} {cap : Nat} {A : List Nat} {g cp : Nat} {O : List Nat} {v' : Value} {x : Nat} {Ob : Obj} (h : EB w wr T ao cap A g cp O)
    (hown : w2.ownsRow T 2 1 v' (O.length + 1) ((ints O).map (Value.int .i64) ++ [.int .i64 x])) (hg : (wr.alloc Ob).grownBy w2 (Value.slice (some ⟨g, 0, none⟩) O.length cp).ownBlock) :
    ∃ g' cp', v' = .slice (some ⟨g', 0, none⟩) (O.length + 1) cp' ∧ EB w w2 T ao cap A g' cp' (O ++ [x]) := by
  obtain ⟨g', cp', rfl, ho⟩ := OR.snoc hown
  have hb : Below T wr w2 := ((Below.refl _ wr).alloc h.z.2 _).grown hg (by have := h.z; simp; omega) (fun g hg => (h.out.own.lt g hg).1)
  exact ⟨g', cp', rfl, ⟨h.left.below hb, ho, h.b.trans (hb.mono h.z.1), h.z.1, Nat.le_trans h.z.2 hb.size⟩⟩
theorem OR.own' {W : World} {B g cap : Nat} {T : TypeId} {A : List Nat} (h : OR W B T g cap A) {n : Nat} (hn : A.length = n) : W.ownsRow B T 1 (.slice (some ⟨g, 0, none⟩) n cap) n ((ints A).map (Value.int .i64)) := hn ▸ h.own
theorem EB.grow' {w wr w2 : World} {T : Nat} {ao : Option Addr} {cap : Nat} {A : List Nat} {g cp : Nat} {O : List Nat} {v' : Value} {x n : Nat} {Ob : Obj} (h : EB w wr T ao cap A g cp O) (hn : O.length = n)
    (hown : w2.ownsRow T 2 1 v' (n + 1) ((ints O).map (Value.int .i64) ++ [.int .i64 x])) (hg : (wr.alloc Ob).grownBy w2 (Value.slice (some ⟨g, 0, none⟩) n cp).ownBlock) :
    ∃ g' cp', v' = .slice (some ⟨g', 0, none⟩) (n + 1) cp' ∧ EB w w2 T ao cap A g' cp' (O ++ [x]) := by
  subst hn; exact h.grow hown hg
theorem OR.wide {W : World} {B B' g cap : Nat} {T : TypeId} {A : List Nat} (h : OR W B T g cap A) (hB : B' ≤ B) : OR W B' T g cap A := by
  refine ⟨h.own.1, ?_⟩
  rcases h.own.2 with ⟨hn, _⟩ | ⟨g', cap', cur, hv, hb, rest⟩
  · injection hn with hn; cases hn
  · exact .inr ⟨g', cap', cur, hv, Nat.le_trans hB hb, rest⟩
theorem OR.start {W : World} : OR (W.alloc (.cells #[] 2)) W.heap.size 2 W.heap.size 0 [] :=
  ⟨World.ownsRow_made W #[] 0 (Nat.le_refl _) (by unfold maxLen; omega) (by simp)⟩
/-- Where the model finds a row for a column. -/
def Fnd (A : List Nat) (k j : Nat) (v : Value) : Prop := (v = .int .i64 (-1) ∧ noneTo A k j) ∨ ∃ a, a < A.length ∧ v = .int .i64 (a : Nat) ∧ noneTo A k a ∧ (nth A a).testBit k = true

set_option maxRecDepth 100000 in
set_option maxHeartbeats 6400000 in
theorem l02Echelon_anyR (C : Nat) (A : Option Addr) (n cap : Nat) (L : List Nat) (hC : C ≤ 10) (hL : ∀ r ∈ L, r < 2 ^ C) (hn : n ≤ 1024) (w : World) (hM : Rd w w.heap.size A n (ints L)) :
    Calls Try.prog 98 #[.int .i64 C, .slice A n cap] w fun e w' => ∃ g cp, e = .returned (.slice (some ⟨g, 0, none⟩) (cols L C).2.length cp) ∧ Below w.heap.size w w' ∧ OR w' w.heap.size 2 g cp (cols L C).2 := by
  obtain ⟨i0, hi, hz0, hz1, hz2⟩ := info_parts Try.infoI
  have hll := hM.len
  rw [ints_length] at hll
  have HLL := Lib.hid hll
  clear hll
  go_enter Try.func98, Try.ntmps98
  go_wp2_with fail
  refine (l00Own_anyR A n cap L _ hM).mono ?_
  rintro e w1 ⟨ao, cap', rfl, hLR, hb1⟩
  have hE : EB w (w1.alloc (.cells #[] 2)) w1.heap.size ao cap' L w1.heap.size 0 [] :=
    ⟨hLR.below (below_alloc1 _ _), OR.start, hb1.trans ((below_alloc1 _ _).mono hb1.size), hb1.size, by simp⟩
  have HE := Lib.hid hE
  clear hE hLR hb1
  go_wp2_with fail
  go_loopw [6, 7] (fun o i wr => ∃ k g cp : Nat, k ≤ C ∧ i = .int .i64 k ∧ o = .slice (some ⟨g, 0, none⟩) (cols L k).2.length cp ∧ EB w wr w1.heap.size ao cap' (cols L k).1 g cp (cols L k).2) (fun _ i _ => C - (intOf i).toNat)
  case atStart => exact ⟨0, _, _, Nat.zero_le _, rfl, rfl, HE.out⟩
  case round =>
    obtain ⟨k, g, cp, hk, rfl, rfl, hE⟩ := hrel
    clear HE
    by_cases hkC : k < C
    · have hlt := cols_lt hL k
      have hln := cols_len L k
      have hst : cols L (k + 1) = colStep k (cols L k) := rfl
      obtain ⟨st, hst0⟩ : ∃ st, cols L k = st := ⟨_, rfl⟩
      rw [hst0] at hlt hln hst hE
      obtain ⟨A, O⟩ := st
      dsimp only at hlt hln hE
      have hP : (2 : Nat) ^ C ≤ 1024 := pow_le10 hC
      have hA : ∀ j, nth A j < 1024 := fun j => Nat.lt_of_lt_of_le (all_lt_of_mem (Nat.two_pow_pos C) hlt.1 j) hP
      have hOo : ∀ j, nth O j < 1024 := fun j => Nat.lt_of_lt_of_le (all_lt_of_mem (Nat.two_pow_pos C) hlt.2 j) hP
      obtain ⟨hlA, hlO⟩ := hln
      have HLA := Lib.hid (hlA.trans HLL.out)
      clear hlA
      have HST := Lib.hid hst
      have HS0 := Lib.hid hst0
      have HEE := Lib.hid hE
      clear hst hst0 hlt hE hL hM
      rw [HS0.out]
      go_wp2_with fail
      go_loop [8, 9] (fun at_ i => ∃ j : Nat, j ≤ n ∧ i = .int .i64 j ∧ Fnd A k j at_) (fun _ i => n - (intOf i).toNat)
      case atStart => exact ⟨0, Nat.zero_le _, rfl, .inl ⟨rfl, fun j hj => by omega⟩⟩
      case round =>
        obtain ⟨j, hj, rfl, hf⟩ := hrel
        rcases hf with ⟨rfl, hno⟩ | ⟨a, ha, rfl, hno, hbit⟩
        · have HNO := Lib.hid hno
          clear hno
          by_cases hlj : j < n
          · obtain ⟨gl, rfl, _, _⟩ := HEE.out.left.row (by have := HLA.out; show 0 < A.length; omega)
            have hrow := (HEE.out.cellL j (by have := HLA.out; omega)).1
            have hx := hA j
            obtain ⟨x, hxx⟩ : ∃ x, nth A j = x := ⟨_, rfl⟩
            rw [hxx] at hrow hx
            have HX := Lib.hid hxx
            clear hxx
            by_cases hb : x.testBit k = true
            · have HB := Lib.hid (bitN_one hb)
              go_wp2_with (go_at_call 118; refine (l02Bit_any x k (by omega) (by omega) _).mono ?_; rw [HB.out]; rintro e w1 ⟨rfl, rfl⟩)
              go_round
              case rel => exact ⟨j + 1, by omega, by go_num, .inr ⟨j, by have := HLA.out; omega, rfl, HNO.out, by rw [HX.out]; exact hb⟩⟩
              case measure => simp [intOf]; omega
            · have HB := Lib.hid (bitN_zero hb)
              go_wp2_with (go_at_call 118; refine (l02Bit_any x k (by omega) (by omega) _).mono ?_; rw [HB.out]; rintro e w1 ⟨rfl, rfl⟩)
              go_round
              case rel => exact ⟨j + 1, by omega, by go_num, .inl ⟨rfl, fun i hi => by
                by_cases e : i = j
                · subst e; rw [HX.out]; simpa using hb
                · exact HNO.out i (by omega)⟩⟩
              case measure => simp [intOf]; omega
          · obtain rfl : j = n := by omega
            go_wp2_with fail
            go_roundw
            case rel => exact ⟨k + 1, g, cp, by omega, by go_num, by rw [HST.out, colStep_none (st := (A, O)) (by show noneTo A k A.length; rw [HLA.out]; exact HNO.out)], by rw [HST.out, colStep_none (st := (A, O)) (by show noneTo A k A.length; rw [HLA.out]; exact HNO.out)]; exact HEE.out⟩
            case measure => simp [intOf]; omega
        · have HNO := Lib.hid hno
          have HBIT := Lib.hid hbit
          clear hno hbit
          have han : a < n := by have := HLA.out; omega
          obtain ⟨gl, rfl, _, _⟩ := HEE.out.left.row (by have := HLA.out; show 0 < A.length; omega)
          have hrow := (HEE.out.cellL a ha).1
          have hfr := (HEE.out.cellL a ha).2
          have hq := hA a
          obtain ⟨q, hqq⟩ : ∃ q, nth A a = q := ⟨_, rfl⟩
          rw [hqq] at hrow hq
          have HQ := Lib.hid hqq
          have HE2 := Lib.hid (HEE.out.setLeft a ha 0)
          have hA' : ∀ j, nth (A.set a 0) j < 1024 := fun j => by
            rw [nth_set A a j 0 ha]; split
            · omega
            · exact hA j
          have HA' := Lib.hid hA'
          have HLA' := Lib.hid (show (A.set a 0).length = n by rw [List.length_set]; exact HLA.out)
          have HOo := Lib.hid hOo
          have HHA := Lib.hid ha
          have HST2 := Lib.hid (colStep_some (k := k) (st := (A, O)) ha HNO.out HBIT.out)
          clear hqq hA' hA hOo ha
          have hcase : j < n ∨ ¬ j < n := by omega
          rcases hcase with hlj | hlj
          all_goals
            go_wp2_with fail
            go_loopw [11] (fun i wr2 => ∃ j2 : Nat, j2 ≤ n ∧ i = .int .i64 j2 ∧ EB w wr2 w1.heap.size (some ⟨gl, 0, none⟩) cap' (upto (clr k q) (A.set a 0) j2) g cp O) (fun i _ => n - (intOf i).toNat)
            case atStart => exact ⟨0, Nat.zero_le _, rfl, by rw [upto_zero]; exact HE2.out⟩
            case round =>
              obtain ⟨j2, hj2, rfl, hE3⟩ := hrel
              have HE3 := Lib.hid hE3
              clear hE3
              by_cases hlj2 : j2 < n
              · have hjl : j2 < (A.set a 0).length := by rw [HLA'.out]; exact hlj2
                have hjl2 : j2 < (upto (clr k q) (A.set a 0) j2).length := by rw [upto_len]; exact hjl
                have hrow2 := (HE3.out.cellL j2 hjl2).1
                have hfr2 := (HE3.out.cellL j2 hjl2).2
                rw [upto_get _ _ _ hjl] at hrow2
                have hx := HA'.out j2
                have hsu := upto_succ (clr k q) (A.set a 0) j2 hjl
                have hsa := upto_same (clr k q) (A.set a 0) j2 hjl
                obtain ⟨x, hxx⟩ : ∃ x, nth (A.set a 0) j2 = x := ⟨_, rfl⟩
                rw [hxx] at hrow2 hx hsu hsa
                have hxor := i64_xor_nat x q (by omega) (by omega)
                have HJ := Lib.hid hjl2
                clear hxx hjl hjl2
                by_cases hb : x.testBit k = true
                · have HSU := Lib.hid hsu
                  have HB := Lib.hid (bitN_one hb)
                  have HY := Lib.hid (clr_yes (q := q) hb)
                  have HX := Lib.hid hxor
                  clear hsu hsa hb hxor
                  go_wp2_with (go_at_call 118; refine (l02Bit_any x k (by omega) (by omega) _).mono ?_; rw [HB.out]; rintro e w1 ⟨rfl, rfl⟩)
                  go_roundw
                  case rel => exact ⟨j2 + 1, by omega, by go_num, by rw [HSU.out, HX.out, HY.out]; exact HE3.out.setLeft j2 HJ.out _⟩
                  case measure => simp [intOf]; omega
                · have HSA := Lib.hid (hsa (clr_no (by simpa using hb)))
                  have HB := Lib.hid (bitN_zero hb)
                  clear hsu hsa hb hxor
                  go_wp2_with (go_at_call 118; refine (l02Bit_any x k (by omega) (by omega) _).mono ?_; rw [HB.out]; rintro e w1 ⟨rfl, rfl⟩)
                  go_roundw
                  case rel => exact ⟨j2 + 1, by omega, by go_num, by rw [HSA.out]; exact HE3.out⟩
                  case measure => simp [intOf]; omega
              · obtain rfl : j2 = n := by omega
                have hE4 : EB w wr w1.heap.size (some ⟨gl, 0, none⟩) cap' ((A.set a 0).map (clr k q)) g cp (upto (clr k q) O 0) := by
                  have := HE3.out
                  rw [upto_zero]
                  rwa [← HLA'.out, upto_all] at this
                have HE4 := Lib.hid hE4
                clear hE4
                obtain ⟨m, hm⟩ : ∃ m, O.length = m := ⟨_, rfl⟩
                rw [hm] at hlO ⊢
                have HM := Lib.hid hm
                clear hm
                go_wp2_with fail
                go_loopw [12] (fun i wr2 => ∃ j3 : Nat, j3 ≤ m ∧ i = .int .i64 j3 ∧ EB w wr2 w1.heap.size (some ⟨gl, 0, none⟩) cap' ((A.set a 0).map (clr k q)) g cp (upto (clr k q) O j3)) (fun i _ => m - (intOf i).toNat)
                case atStart => exact ⟨0, Nat.zero_le _, rfl, HE4.out⟩
                case round =>
                  obtain ⟨j3, hj3, rfl, hE5⟩ := hrel
                  have HE5 := Lib.hid hE5
                  clear hE5
                  by_cases hlj3 : j3 < m
                  · have hjl : j3 < O.length := by rw [HM.out]; exact hlj3
                    have hjl2 : j3 < (upto (clr k q) O j3).length := by rw [upto_len]; exact hjl
                    have hrow3 := (HE5.out.cellO j3 hjl2).1
                    have hfr3 := (HE5.out.cellO j3 hjl2).2
                    rw [upto_get _ _ _ hjl] at hrow3
                    have hx := HOo.out j3
                    have hsu := upto_succ (clr k q) O j3 hjl
                    have hsa := upto_same (clr k q) O j3 hjl
                    obtain ⟨x, hxx⟩ : ∃ x, nth O j3 = x := ⟨_, rfl⟩
                    rw [hxx] at hrow3 hx hsu hsa
                    have hxor := i64_xor_nat x q (by omega) (by omega)
                    have HJ := Lib.hid hjl2
                    clear hxx hjl hjl2
                    by_cases hb : x.testBit k = true
                    · have HSU := Lib.hid hsu
                      have HB := Lib.hid (bitN_one hb)
                      have HY := Lib.hid (clr_yes (q := q) hb)
                      have HX := Lib.hid hxor
                      clear hsu hsa hb hxor
                      go_wp2_with (go_at_call 118; refine (l02Bit_any x k (by omega) (by omega) _).mono ?_; rw [HB.out]; rintro e w1 ⟨rfl, rfl⟩)
                      go_roundw
                      case rel => exact ⟨j3 + 1, by omega, by go_num, by rw [HSU.out, HX.out, HY.out]; exact HE5.out.setOut j3 HJ.out _⟩
                      case measure => simp [intOf]; omega
                    · have HSA := Lib.hid (hsa (clr_no (by simpa using hb)))
                      have HB := Lib.hid (bitN_zero hb)
                      clear hsu hsa hb hxor
                      go_wp2_with (go_at_call 118; refine (l02Bit_any x k (by omega) (by omega) _).mono ?_; rw [HB.out]; rintro e w1 ⟨rfl, rfl⟩)
                      go_roundw
                      case rel => exact ⟨j3 + 1, by omega, by go_num, by rw [HSA.out]; exact HE5.out⟩
                      case measure => simp [intOf]; omega
                  · obtain rfl : j3 = m := by omega
                    have hE6 : EB w wr w1.heap.size (some ⟨gl, 0, none⟩) cap' ((A.set a 0).map (clr k q)) g cp (O.map (clr k q)) := by
                      have := HE5.out
                      rwa [← HM.out, upto_all] at this
                    have HE6 := Lib.hid hE6
                    have HN6 := Lib.hid (show (O.map (clr k q)).length = j3 by rw [List.length_map]; exact HM.out)
                    clear hE6
                    go_wp2_with (at_builtin; refine wpList_append_own _ rfl _ _ 46 rfl w1.heap.size 2 i0 (.int .i64 0) 1 8 Try.underlying46 hi hz0 hz1 hz2 rfl (by decide) _ _ _ rfl ((HE6.out.out.own' HN6.out).alloc _) ⟨wr.heap.size, 0, none⟩ 1 1 [.int .i64 q] rfl rfl (one_new _ _ _) (one_one _ _) (by unfold maxLen; omega) (by omega) (by have := HE6.out.z.2; simp; omega) ?_; intro v' w3 hown' hgrow _; obtain ⟨g', cp', rfl, hN⟩ := HE6.out.grow' HN6.out hown' hgrow; have HN := Lib.hid hN; clear hown' hgrow hN)
                    go_roundw
                    case rel =>
                      refine ⟨k + 1, g', cp', by omega, by go_num, ?_, ?_⟩
                      · rw [HST.out, HST2.out]
                        simp [HM.out]
                      · rw [HST.out, HST2.out]
                        show EB w _ _ _ _ ((A.set a 0).map (clr k (nth A a))) _ _ (O.map (clr k (nth A a)) ++ [nth A a])
                        rw [HQ.out]; exact HN.out
                    case measure => simp [intOf]; omega
    · obtain rfl : k = C := by omega
      have HEE := Lib.hid hE
      clear hE
      go_wp2_with fail
      go_ret
      exact ⟨g, cp, rfl, HEE.out.b, HEE.out.out.wide HEE.out.z.1⟩
theorem l02Echelon_any (C b n cap : Nat) (L : List Nat) (hC : C ≤ 10) (hL : ∀ r ∈ L, r < 2 ^ C) (hn : n ≤ 1024) (w : World) (hM : Mt w b n (ints L)) :
    Calls Try.prog 98 #[.int .i64 C, .slice (some ⟨b, 0, none⟩) n cap] w fun e w' => ∃ g cp, e = .returned (.slice (some ⟨g, 0, none⟩) (cols L C).2.length cp) ∧ Below w.heap.size w w' ∧ OR w' w.heap.size 2 g cp (cols L C).2 :=
  l02Echelon_anyR C (some ⟨b, 0, none⟩) n cap L hC hL hn w hM.rd
end Go.Proofs.Ytilghmfffdmnjaa
namespace Go.Proofs.Ytilghmfffdmnjaa
open Go.RowKit Go.Joins
set_option linter.unusedVariables false

set_option maxHeartbeats 800000 in
theorem l02Rank_anyR (C : Nat) (A : Option Addr) (n cap : Nat) (L : List Nat) (hC : C ≤ 10) (hL : ∀ r ∈ L, r < 2 ^ C) (hn : n ≤ 1024) (w : World) (hM : Rd w w.heap.size A n (ints L)) :
    Calls Try.prog 64 #[.int .i64 C, .slice A n cap] w fun e w' => e = .returned (.int .i64 ((joined [] L).length : Nat)) ∧ Below w.heap.size w w' := by
  have S := l02Echelon_anyR C A n cap L hC hL hn w hM
  rw [cols_eq hL] at S
  have hlen : (joined [] L).length ≤ 10 := Nat.le_trans ((joined_spec L Ech.nil).1.len (joined_lt .nil (by simp) hL)) hC
  generalize (joined [] L).length = m at S hlen ⊢
  have HS := Lib.hid S
  clear S hM hL
  go_enter Try.func64, Try.ntmps64
  go_wp2_with fail
  refine HS.out.mono ?_
  rintro e w1 ⟨g, cp, rfl, hb, _⟩
  go_wp2_with fail
  go_ret
  exact ⟨rfl, hb⟩
theorem l02Rank_any (C b n cap : Nat) (L : List Nat) (hC : C ≤ 10) (hL : ∀ r ∈ L, r < 2 ^ C) (hn : n ≤ 1024) (w : World) (hM : Mt w b n (ints L)) :
    Calls Try.prog 64 #[.int .i64 C, .slice (some ⟨b, 0, none⟩) n cap] w fun e w' => e = .returned (.int .i64 ((joined [] L).length : Nat)) ∧ Below w.heap.size w w' :=
  l02Rank_anyR C (some ⟨b, 0, none⟩) n cap L hC hL hn w hM.rd
end Go.Proofs.Ytilghmfffdmnjaa
