/- The model's sums and compositions of linear polynomials. -/
import Derived.Test.YtdpaoabgigdlgaaLinS2
namespace Go.Proofs.Ytdpaoabgigdlgaa
open Go.RowKit Go.Joins
set_option linter.unusedVariables false

theorem ownsRow_less {W : World} {B B' s n : Nat} {e : TypeId} {v : Value} {xs : List Value} (h : W.ownsRow B e s v n xs) (hB : B' ≤ B) : W.ownsRow B' e s v n xs :=
  ⟨h.1, h.2.imp id fun ⟨g, c, cur, h1, h2, r⟩ => ⟨g, c, cur, h1, Nat.le_trans hB h2, r⟩⟩
theorem OL.drewN {W : World} {B : Nat} {A : Option Addr} {n cap : Nat} {p : List Nat} (h : OL W B A n cap p) (k : Nat) : OL (W.drewN k) B A n cap p := ⟨h.len, h.own⟩
theorem OL.less {W : World} {B B' : Nat} {A : Option Addr} {n cap : Nat} {p : List Nat} (h : OL W B A n cap p) (hB : B' ≤ B) : OL W B' A n cap p := ⟨h.len, ownsRow_less h.own hB⟩
theorem nth_snoc0 (A : List Nat) (j : Nat) : nth (A ++ [0]) j = nth A j := by
  by_cases h : j < A.length
  · rw [nth, nth, List.getD_eq_getElem?_getD, List.getD_eq_getElem?_getD, List.getElem?_append_left h]
  · rw [nth_ge (p := A) (by omega)]
    by_cases e : j = A.length
    · subst e; rw [nth, List.getD_eq_getElem?_getD, List.getElem?_append_right (Nat.le_refl _)]; simp
    · rw [nth_ge (by simp; omega)]
theorem trim_congr {p q : List Nat} (h : ∀ j, nth p j = nth q j) : trim p = trim q :=
  trm_ext (trim_trm _) (trim_trm _) fun j => by rw [trim_nth, trim_nth, h]

set_option maxRecDepth 100000 in
set_option maxHeartbeats 3200000 in
theorem l03Sum_any (A B : Option Addr) (k l ca cb : Nat) (p q : List Nat) (hp : ∀ j, nth p j < 1024) (hq : ∀ j, nth q j < 1024) (hk : k ≤ 500000) (hl : l ≤ 500000) (w : World) (hS : Sv w A k ca p) (hT : Sv w B l cb q) :
    Calls Try.prog 68 #[.slice A k ca, .slice B l cb] w fun e w' => ∃ D r cd, e = .returned (.slice D r cd) ∧ Below w.heap.size w w' ∧ OL w' w.heap.size D r cd (sumL p q) := by
  obtain ⟨i0, hi, hz0, hz1, hz2⟩ := info_parts Try.infoI
  have hkp := hS.len
  have hlq := hT.len
  have HP := Lib.hid hp
  have HQ := Lib.hid hq
  have HS := Lib.hid hS
  have HT := Lib.hid hT
  clear hp hq hS hT
  go_enter Try.func68, Try.ntmps68
  go_wp2_with (go_at_call 67; refine (l00OwnL_any A k ca p (by omega) _ HS.out).mono ?_; rintro e w1 ⟨A1, c1, rfl, hb1, hO1⟩)
  have HB1 := Lib.hid hb1
  have HO1 := Lib.hid hO1
  clear hb1 hO1
  go_loopw [5] (fun v wr => ∃ (D : Option Addr) (r cd : Nat) (X : List Nat), v = .slice D r cd ∧ k ≤ r ∧ r ≤ max k l ∧ Below w.heap.size w wr ∧ OL wr w.heap.size D r cd X ∧ Hid (∀ j, nth X j = nth p j)) (fun v _ => l - (match v with | .slice _ n _ => n | _ => 0))
  case atStart => exact ⟨_, _, _, p, rfl, Nat.le_refl _, by omega, HB1.out, HO1.out, Lib.hid (fun j => rfl)⟩
  case round =>
    obtain ⟨D, r, cd, X, rfl, hkr, hrm, hb, hO, HX⟩ := hrel
    have HO := Lib.hid hO
    have HB := Lib.hid hb
    have hrX := hO.len
    clear hO hb HO1 HB1
    by_cases hlt : r < l
    · go_wp2_with (at_builtin; refine wpList_append_own _ rfl _ _ 24 rfl w.heap.size 2 i0 (.int .i64 0) 1 8 Try.underlying24 hi hz0 hz1 hz2 rfl (by decide) _ r ((ints X).map (Value.int .i64)) rfl (HO.out.own.alloc _) ⟨wr.heap.size, 0, none⟩ 1 1 [.int .i64 0] rfl rfl (one_new _ _ _) (one_one _ _) (by unfold maxLen; omega) (by omega) (by have := HB.out.size; simp; omega) ?_; intro v' w3 hown' hgrow _; have hb3 : Below w.heap.size wr w3 := ((Below.refl _ wr).alloc HB.out.size _).grown hgrow (by have := HB.out.size; simp; omega) (fun g hg => (HO.out.own.lt g hg).1); have HB3 := Lib.hid (HB.out.trans hb3); obtain ⟨D3, c3, hv, hol⟩ := OL.of (n := r + 1) (p := X ++ [0]) (by rw [ints_append, List.map_append]; exact hown'); have HO3 := Lib.hid hol; subst hv; clear hown' hgrow hb3 hol)
      go_roundw
      case rel => exact ⟨_, _, _, X ++ [0], rfl, by omega, by omega, HB3.out, HO3.out, Lib.hid (fun j => by rw [nth_snoc0, HX.out])⟩
      case measure => simp; omega
    · have hrl : l ≤ r := by omega
      have hre : r = max k l := by omega
      clear hlt
      go_wp2
      go_loopw [6] (fun i wr => ∃ (j : Nat) (X : List Nat), j ≤ l ∧ i = .int .i64 j ∧ Below w.heap.size w wr ∧ OL wr w.heap.size D r cd X ∧ Hid (∀ i, nth X i = if i < j then nth p i ^^^ nth q i else nth p i)) (fun i _ => l - (intOf i).toNat)
      case atStart => exact ⟨0, X, Nat.zero_le _, rfl, HB.out, HO.out, Lib.hid (fun i => by rw [if_neg (by omega), HX.out])⟩
      case round =>
        obtain ⟨j, Y, hj, rfl, hb, hO, HY⟩ := hrel
        clear HO HB HX
        by_cases hlt : j < l
        · obtain ⟨g, rfl, hgB, hg, hc, hf⟩ := hO.row (by omega)
          have hcy := hc j (by omega)
          have hfy := hf j
          clear hc hf
          rw [HY.out j, if_neg (by omega)] at hcy
          obtain ⟨g2, rfl, hg2, hc2⟩ := (HT.out.below hb).row (by omega)
          have hcq := hc2 j hlt
          clear hc2
          have hx := HP.out j
          have hy := HQ.out j
          obtain ⟨x, hxe⟩ : ∃ x, nth p j = x := ⟨_, rfl⟩
          obtain ⟨y, hye⟩ : ∃ y, nth q j = y := ⟨_, rfl⟩
          rw [hxe] at hcy hx
          rw [hye] at hcq hy
          have HXE := Lib.hid hxe
          have HYE := Lib.hid hye
          clear hxe hye
          have HXR := Lib.hid (i64_xor_nat x y (by omega) (by omega))
          have hcy' : wr.drew.cell? ⟨g, j, none⟩ = some (.int .i64 x) := hcy
          have hcq' : wr.drew.cell? ⟨g2, j, none⟩ = some (.int .i64 y) := hcq
          have hfy' : wr.drew.frozen? ⟨g, j, none⟩ = false := hfy
          have hjr : j < r := by omega
          have HNEW : Hid (OL (wr.setCell ⟨g, j, none⟩ (.int .i64 (bits .xor .i64 (x : Int) (y : Int)))).drew w.heap.size (some ⟨g, 0, none⟩) r cd (Y.set j (x ^^^ y))) := by
            rw [HXR.out]; exact (hO.set j hjr (x ^^^ y)).drewN 1
          have HBN : Hid (Below w.heap.size w (wr.setCell ⟨g, j, none⟩ (.int .i64 (bits .xor .i64 (x : Int) (y : Int)))).drew) := (below_set hb _ _ hgB _).drew
          have hYl := hO.len
          have HYN : Hid (∀ i, nth (Y.set j (x ^^^ y)) i = if i < j + 1 then nth p i ^^^ nth q i else nth p i) := fun i => by
            rw [nth_set _ _ _ _ (by omega)]
            by_cases e : i = j
            · subst e; rw [if_pos rfl, if_pos (by omega), HXE.out, HYE.out]
            · rw [if_neg e, HY.out i]
              by_cases h : i < j
              · rw [if_pos h, if_pos (by omega)]
              · rw [if_neg h, if_neg (by omega)]
          have HB := Lib.hid hb
          clear hO hb
          go_wp2
          go_region
          all_goals go_wp2
          all_goals go_roundw
          all_goals first | exact ⟨j + 1, _, by omega, by go_num, HBN.out, HNEW.out, HYN.out⟩ | (simp [intOf]; omega)
        · obtain rfl : j = l := by omega
          have HB := Lib.hid hb
          have hr20 : r ≤ 1048576 := by omega
          have HT3 := Lib.hid (l03Trim_any D r cd Y hr20 wr hO.sv)
          have HHR := Lib.hid (And.intro hre hrl)
          clear hO hb hre hrl hrm
          go_wp2_with (go_at_call 76; refine HT3.out.mono ?_; rintro e w2 ⟨A', k', cap', rfl, hb2, hO2⟩)
          go_ret
          have h1 : trim Y = sumL p q := by
            rw [sumL]
            refine trim_congr fun i => ?_
            rw [HY.out i]
            by_cases h : i < max p.length q.length
            · rw [lst_nth _ h, sumF]
              by_cases h2 : i < j
              · rw [if_pos h2]
              · rw [if_neg h2, nth_ge (p := q) (by omega), Nat.xor_zero]
            · rw [nth_ge (p := lst _ _) (by rw [lst_length]; omega), nth_ge (p := p) (by omega), nth_ge (p := q) (by omega)]; simp
          have hs := HB.out.size
          rw [h1] at hO2
          exact ⟨_, _, _, rfl, HB.out.trans (hb2.mono hs), hO2.less hs⟩
end Go.Proofs.Ytdpaoabgigdlgaa
