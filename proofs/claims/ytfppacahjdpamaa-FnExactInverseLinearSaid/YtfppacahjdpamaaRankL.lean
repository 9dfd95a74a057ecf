/- The units and the values for them: the program's. · The rank of a map: the model's. -/
import Derived.Test.YtfppacahjdpamaaLinI4
import Derived.Test.YtfppacahjdpamaaLinS3
import Derived.Test.YtfppacahjdpamaaSv
import Derived.Test.YtfppacahjdpamaaRankS
namespace Go.Proofs.Ytfppacahjdpamaa
open Go.RowKit Go.Joins
set_option linter.unusedVariables false

theorem pow_wrap {j : Nat} (hj : j ≤ 10) : wrap64 ((2 : Int) ^ j) = ((2 ^ j : Nat) : Int) := by
  have := shl_nat 1 j (by have : 2 ^ j ≤ 2 ^ 10 := Nat.pow_le_pow_right (by omega) hj; omega)
  simpa using this
set_option maxHeartbeats 1600000 in
theorem units_any (c m P n : Nat) (hF : Fld m P n) (w : World) (hD : w.cell? ⟨c, 0, none⟩ = some (.int .i64 m)) :
    Calls Try.prog 78 #[.pointer (some ⟨c, 0, none⟩)] w fun e w' => ∃ g, e = .returned (.slice (some ⟨g, 0, none⟩) m m) ∧ w.heap.size ≤ g ∧ Below w.heap.size w w' ∧ Wr w' .i64 g m (fun j => 2 ^ j) := by
  obtain ⟨i0, hi, hz0, hz1, hz2⟩ := info_parts Try.infoI
  have hm5 := hF.m5
  go_enter Try.func78, Try.ntmps78
  go_wp2_with (at_make; refine wpList_make_full _ rfl _ _ 24 rfl w.heap.size 2 i0 (.int .i64 0) 1 Try.underlying24 hi hz0 hz1 .i64 .i64 _ _ m rfl rfl rfl rfl (by rw [hz2]; omega) (by unfold maxLen; omega) (Nat.le_refl _) ?_; intro w1 hown hgrow; have hb1 : Below w.heap.size w w1 := (Below.refl _ w).grown hgrow (Nat.le_refl _) (fun k h => by cases h); have HW := Lib.hid (Wr.made (K := .i64) hown); have HB := Lib.hid hb1; clear hown hgrow hb1)
  go_loopw [12] (fun i wr => ∃ (k : Nat) (F : Nat → Nat), k ≤ m ∧ i = .int .i64 k ∧ Below w.heap.size w wr ∧ Wr wr .i64 w.heap.size m F ∧ Hid (∀ j, j < k → F j = 2 ^ j)) (fun i _ => m - (intOf i).toNat)
  case atStart => exact ⟨0, _, Nat.zero_le _, rfl, HB.out, HW.out, Lib.hid (fun j hj => by omega)⟩
  case round =>
    obtain ⟨k, F, hk, rfl, hb, hW, HI⟩ := hrel
    clear HW HB
    have HB2 := Lib.hid hb
    by_cases hlt : k < m
    · have hcw := hW.cell k hlt
      have hfw := hW.free k
      have e1 := pow_wrap (j := k) (by omega)
      obtain ⟨x, hx⟩ : ∃ x, 2 ^ k = x := ⟨_, rfl⟩
      rw [hx] at e1
      have HX := Lib.hid hx
      have HW2 := Lib.hid hW
      clear hb hW hx
      go_wp2
      go_roundw
      case rel => exact ⟨k + 1, _, by omega, by go_num, below_set HB2.out _ _ (Nat.le_refl _) _, HW2.out.set k hlt x, Lib.hid (fun j hj => by
        simp only [put]
        by_cases e : j = k
        · subst e; rw [if_pos rfl, HX.out]
        · rw [if_neg e]; exact HI.out j (by omega))⟩
      case measure => simp [intOf]; omega
    · obtain rfl : k = m := by omega
      have hW' := hW.congr (f' := fun j => 2 ^ j) (fun j hj => (HI.out j hj).symm)
      have HW2 := Lib.hid hW'
      clear hb hW hW'
      go_wp2
      go_ret
      exact ⟨_, rfl, Nat.le_refl _, HB2.out, HW2.out⟩
set_option maxHeartbeats 1600000 in
theorem unitValues_any (c m P n : Nat) (hF : Fld m P n) (A : Option Addr) (k cap : Nat) (p : List Nat) (hp : ∀ j, nth p j < n) (hk : k ≤ 1048577) (w : World) (hC : Calc c m P n w) (hR : Rl w .u8 A k p) :
    Calls Try.prog 77 #[.pointer (some ⟨c, 0, none⟩), .slice A k cap] w fun e w' => ∃ g, e = .returned (.slice (some ⟨g, 0, none⟩) m m) ∧ w.heap.size ≤ g ∧ Below w.heap.size w w' ∧ Wr w' .i64 g m (fun j => vl P p (2 ^ j)) := by
  have hm5 := hF.m5
  have h32 := hF.n32
  have hcl := hC.lt
  have HP := Lib.hid hp
  have HR := Lib.hid hR
  have HC := Lib.hid hC
  have hU := units_any c m P n hF w hC.deg
  have HU := Lib.hid hU
  clear hp hR hC hU
  go_enter Try.func77, Try.ntmps77
  go_wp2_with fail
  refine HU.out.mono ?_
  rintro e w1 ⟨g, rfl, hg, hb, hW⟩
  have HB := Lib.hid hb
  have HW := Lib.hid hW
  clear hb hW
  go_wp2_with fail
  go_loopw [12] (fun i wr => ∃ (j : Nat) (F : Nat → Nat), j ≤ m ∧ i = .int .i64 j ∧ Below w.heap.size w wr ∧ Wr wr .i64 g m F ∧ Hid (∀ i, i < m → F i = if i < j then vl P p (2 ^ i) else 2 ^ i)) (fun i _ => m - (intOf i).toNat)
  case atStart => exact ⟨0, _, Nat.zero_le _, rfl, HB.out, HW.out, Lib.hid (fun j hj => by rw [if_neg (by omega)])⟩
  case round =>
    obtain ⟨j, F, hj, rfl, hb, hW, HI⟩ := hrel
    clear HW HB
    have HB2 := Lib.hid hb
    by_cases hlt : j < m
    · have hcw := hW.cell j hlt
      rw [HI.out j hlt, if_neg (by omega)] at hcw
      have hfw := hW.free j
      have hxn : 2 ^ j < n := pow_lt_n hF hlt
      have hV := value_any c m P n hF A k cap p HP.out (2 ^ j) hxn hk wr (HC.out.below hcl hb) (HR.out.below hb)
      have hvn := vl_lt hF p (2 ^ j)
      obtain ⟨x, hx⟩ : ∃ x, 2 ^ j = x := ⟨_, rfl⟩
      rw [hx] at hcw hV hxn hvn
      obtain ⟨y, hy⟩ : ∃ y, vl P p x = y := ⟨_, rfl⟩
      rw [hy] at hV hvn
      have HX := Lib.hid hx
      have HY := Lib.hid hy
      have HV := Lib.hid hV
      have HW2 := Lib.hid hW
      have e1 : IntKind.u8.wrap (x : Int) = x := by rw [IntKind.wrap_u8']; omega
      have e2 : IntKind.i64.wrap (y : Int) = y := wrapNat y (by omega)
      clear hb hW hx hy hV
      go_wp2_with (go_at_call 73; refine HV.out.mono ?_; rintro e w' ⟨rfl, rfl⟩)
      go_roundw
      case rel => exact ⟨j + 1, _, by omega, by go_num, below_set HB2.out _ _ hg _, HW2.out.set j hlt y, Lib.hid (fun i hi => by
        simp only [put]
        by_cases e : i = j
        · subst e; rw [if_pos rfl, if_pos (by omega), HX.out, HY.out]
        · rw [if_neg e, HI.out i hi]
          by_cases h : i < j
          · rw [if_pos h, if_pos (by omega)]
          · rw [if_neg h, if_neg (by omega)])⟩
      case measure => simp [intOf]; omega
    · obtain rfl : j = m := by omega
      have hW' := hW.congr (f' := fun j => vl P p (2 ^ j)) (fun i hi => by rw [HI.out i hi, if_pos hi])
      have HW2 := Lib.hid hW'
      clear hb hW hW'
      go_wp2
      go_ret
      exact ⟨_, rfl, hg, HB2.out, HW2.out⟩
end Go.Proofs.Ytfppacahjdpamaa
namespace Go.Proofs.Ytfppacahjdpamaa
open Go.RowKit Go.Joins
set_option linter.unusedVariables false

/-- The values for the units. -/
def uv (P : Nat) (p : List Nat) (k : Nat) : List Nat := lst (fun j => vl P p (2 ^ j)) k
theorem uv_succ (P : Nat) (p : List Nat) (k : Nat) : uv P p (k + 1) = uv P p k ++ [vl P p (2 ^ k)] := range_succ_map _ _
theorem uv_len (P : Nat) (p : List Nat) (k : Nat) : (uv P p k).length = k := lst_length _ _
theorem uv_lt {m P n : Nat} (hF : Fld m P n) (p : List Nat) (k : Nat) : ∀ r ∈ uv P p k, r < 2 ^ m := fun r hr => by
  obtain ⟨j, _, rfl⟩ := List.mem_map.1 hr
  rw [hF.n]; exact vl_lt hF p _
theorem pow_wrap' {j : Nat} (hj : j ≤ 10) : wrap64 ((2 : Int) ^ j) = ((2 ^ j : Nat) : Int) := by
  have := shl_nat 1 j (by have : 2 ^ j ≤ 2 ^ 10 := Nat.pow_le_pow_right (by omega) hj; omega)
  simpa using this

theorem ol_mt {W : World} {B : Nat} {A : Option Addr} {n cap : Nat} {p : List Nat} (h : OL W B A n cap p) (h0 : 0 < n) (hn : n ≤ 1048576) : ∃ g cp, (Value.slice A n cap) = .slice (some ⟨g, 0, none⟩) n cp ∧ B ≤ g ∧ Mt W g n (ints p) := by
  have hl : (ints p).length = n := by rw [ints_length]; exact h.len
  rcases ownsRow_forms h.own with ⟨e, h1⟩ | ⟨g, cap', e⟩
  · injection e with _ e _; omega
  · have ho := h.own
    rw [e] at ho
    have hg := ho.lt g rfl
    refine ⟨g, cap', e, hg.1, hl, hn, hg.2, fun j hj => ?_, fun j => ho.frozenAt j⟩
    rw [ho.cellAt j (by omega), List.getElem?_map, List.getElem?_eq_getElem (by omega)]
    simp
set_option maxRecDepth 100000 in
set_option maxHeartbeats 3200000 in
theorem l03Rank_any (m P n : Nat) (hF : Fld m P n) (A : Option Addr) (len cap : Nat) (p : List Nat) (hp : ∀ j, nth p j < n) (hl : len ≤ 1000) (w : World) (hS : Rl w .i64 A len p) :
    Calls Try.prog 74 #[.agg #[.int .i64 m, .int .i64 P], .slice A len cap] w fun e w' => e = .returned (.int .i64 ((joined [] (uv P p m)).length : Nat)) ∧ Below w.heap.size w w' := by
  obtain ⟨i0, hi, hz0, hz1, hz2⟩ := info_parts Try.infoI
  have h32 := hF.n32
  have hm5 := hF.m5
  have hm1 := hF.m1
  have HP := Lib.hid hp
  have HS := Lib.hid hS
  have HRK := Lib.hid (fun b cap w hM => l02Rank_any m b m cap (uv P p m) (by omega) (uv_lt hF p m) (by omega) w hM)
  generalize hr : (joined [] (uv P p m)).length = r at HRK ⊢
  clear hp hS hr
  go_enter Try.func74, Try.ntmps74
  have h0 := FAt.start w m P 27
  have HA1 := Lib.hid (h0.alloc (.cells #[] 2))
  have HO1 : Hid (OL ((w.alloc (.cells #[.int .i64 m, .int .i64 P] 27)).alloc (.cells #[] 2)) (w.heap.size + 1) (some ⟨w.heap.size + 1, 0, none⟩) 0 0 (uv P p 0)) := ⟨rfl, by have := World.ownsRow_made (e := 2) (size := 1) (base := w.heap.size + 1) (w.alloc (.cells #[.int .i64 m, .int .i64 P] 27)) #[] 0 (by simp) (by unfold maxLen; omega) (by simp); simpa [show uv P p 0 = [] from rfl, ints] using this⟩
  clear h0
  go_wp2_with fail
  go_loopw [5, 6] (fun v i wr => ∃ (k cp : Nat) (D : Option Addr), k ≤ m ∧ i = .int .i64 k ∧ v = .slice D k cp ∧ FAt w m P wr ∧ OL wr (w.heap.size + 1) D k cp (uv P p k)) (fun _ i _ => m - (intOf i).toNat)
  case atStart => exact ⟨0, 0, _, Nat.zero_le _, rfl, rfl, HA1.out, HO1.out⟩
  case round =>
    obtain ⟨k, cp, D, hk, rfl, rfl, hA, hO⟩ := hrel
    clear HA1 HO1
    have z1 := hA.z; have c1 := hA.c0; have d1 := hA.c1
    have HO := Lib.hid hO
    clear hO
    by_cases hlt : k < m
    · have hxn : 2 ^ k < n := pow_lt_n hF hlt
      have e1 := pow_wrap' (j := k) (by omega)
      have HV := Lib.hid (fun (W : World) (h : Rl W .i64 A len p) => l03Value_any m P n hF A len cap p HP.out (2 ^ k) hxn (by omega) W h)
      have hvn := vl_lt hF p (2 ^ k)
      have hus := uv_succ P p k
      obtain ⟨x, hx⟩ : ∃ x, 2 ^ k = x := ⟨_, rfl⟩
      rw [hx] at e1 HV hxn hvn hus
      obtain ⟨y, hy⟩ : ∃ y, vl P p x = y := ⟨_, rfl⟩
      rw [hy] at HV hvn hus
      have HE := Lib.hid hus
      clear hx hy hus
      go_wp2_with (first | (go_at_call 71; refine (HV.out _ (HS.out.below hA.b)).mono ?_; rintro e w3 ⟨rfl, hb3⟩; have k3 := hA.next hb3; have z3 := k3.z; have c3 := k3.c0; have d3 := k3.c1; have HO3 := Lib.hid (HO.out.below hb3); clear hb3) | (at_builtin; refine wpList_append_own _ rfl _ _ 24 rfl (w.heap.size + 1) 2 i0 (.int .i64 0) 1 8 Try.underlying24 hi hz0 hz1 hz2 rfl (by decide) _ _ _ rfl (HO3.out.own.alloc _) ⟨w3.heap.size, 0, none⟩ 1 1 [.int .i64 y] rfl rfl (one_new _ _ _) (one_one _ _) (by unfold maxLen; omega) (by omega) (by simp; omega) ?_; intro v' w4 hown' hgrow _; have hb4 : Below (w.heap.size + 1) w3 w4 := ((Below.refl _ w3).alloc (by omega) _).grown hgrow (by simp; omega) (fun g hg => (HO3.out.own.lt g hg).1); have HA4 := Lib.hid (show FAt w m P w4 from ⟨k3.b.trans (hb4.mono (by omega)), Nat.le_trans k3.z hb4.size, (hb4.cell (p := ⟨w.heap.size, 0, none⟩) (by simp)).trans k3.c0, (hb4.cell (p := ⟨w.heap.size, 1, none⟩) (by simp)).trans k3.c1⟩); obtain ⟨A4, cp4, hv4, hO4⟩ := OL.of (n := k + 1) (p := uv P p (k + 1)) (by rw [HE.out]; simpa [ints] using hown'); subst hv4; have HO4 := Lib.hid hO4; clear hown' hgrow hO4 hb4))
      go_roundw
      case rel => exact ⟨k + 1, cp4, A4, by omega, by go_num, rfl, HA4.out, HO4.out⟩
      case measure => simp [intOf]; omega
    · obtain rfl : k = m := by omega
      obtain ⟨g, cp', e, hg, hM⟩ := ol_mt HO.out (by omega) (by omega)
      injection e with e1 e2
      subst e1
      have HM := Lib.hid hM
      clear hM
      go_wp2_with fail
      refine (HRK.out _ _ _ HM.out).mono ?_
      rintro e w5 ⟨rfl, hb⟩
      have h5 := hA.next hb
      clear hb
      go_wp2_with fail
      go_ret
      exact ⟨rfl, h5.b⟩
end Go.Proofs.Ytfppacahjdpamaa
