/- RootsOf: what the model's and the program's function return. -/
import Derived.Test.YtfnmlhilgabjeaaLinS3
import Derived.Test.YtfnmlhilgabjeaaLinI4
import Derived.Test.YtfnmlhilgabjeaaElems
import Derived.RangeFuncBox
import Derived.Maps.AppendAt
namespace Go.Proofs.Ytfnmlhilgabjeaa
open Go.RowKit Go.Joins
set_option linter.unusedVariables false

/-- The elements below k at which a linear polynomial is 0. -/
def rts (P : Nat) (p : List Nat) (k : Nat) : List Nat := (List.range k).filter fun x => vl P p x == 0
theorem rts_yes {P : Nat} {p : List Nat} {k : Nat} (h : vl P p k = 0) : rts P p (k + 1) = rts P p k ++ [k] := by
  rw [rts, List.range_succ, List.filter_append]; simp [rts, h]
theorem rts_no {P : Nat} {p : List Nat} {k : Nat} (h : ¬ vl P p k = 0) : rts P p (k + 1) = rts P p k := by
  rw [rts, List.range_succ, List.filter_append]; simp [rts, h]
theorem rts_len (P : Nat) (p : List Nat) (k : Nat) : (rts P p k).length ≤ k := by
  have := List.length_filter_le (fun x => vl P p x == 0) (List.range k)
  simpa [rts] using this
def fRootsOf (d p : Int) (zs : List Int) : List Int × Int :=
  if okFL d p zs = false then ([], 1) else (ints (rts p.toNat (nats zs) (2 ^ d.toNat)), 0)
theorem fRootsOf_B {d p : Int} {zs : List Int} (h : okFL d p zs = false) : fRootsOf d p zs = ([], 1) := by rw [fRootsOf, if_pos h]
theorem fRootsOf_C {m P n : Nat} (hF : Fld m P n) {zs : List Int} (h : okL n zs = true) : fRootsOf m P zs = (ints (rts P (nats zs) n), 0) := by
  rw [fRootsOf, okFL_yes hF, h, if_neg (by decide), Int.toNat_natCast, Int.toNat_natCast, hF.n]

set_option maxHeartbeats 800000 in
theorem specRootsOf_bad (d p : Int) (b len cap : Nat) (zs : List Int) (hok : okFL d p zs = false) (w : World) (hM : Mt w b len zs) :
    Calls Try.prog 26 #[.agg #[.int .i64 d, .int .i64 p], .slice (some ⟨b, 0, none⟩) len cap] w fun e w' => ∃ v, e = .returned (.tuple #[v, .int .i64 1]) ∧ Below w.heap.size w w' ∧ Res w' w.heap.size w'.heap.size v ([]) := by
  have HOK := Lib.hid hok
  have HM := Lib.hid hM
  clear hok hM
  go_enter Try.func26, Try.ntmps26
  have h0 := FAt.start w d p 26
  go_wp2_with fail
  refine (specValidLinear_eq d p b len cap zs _ (HM.out.below h0.b) _ HOK.out).mono ?_
  rintro e w1 ⟨rfl, hb⟩
  have h1 := Lib.hid (h0.next hb)
  clear hb h0
  go_wp2_with fail
  go_ret2
  exact ⟨_, rfl, (h1.out.alloc _).b, .nil _ _⟩
set_option maxRecDepth 100000 in
set_option maxHeartbeats 3200000 in
theorem specRootsOf_C (m P n : Nat) (hF : Fld m P n) (b len cap : Nat) (zs : List Int) (hok : okL n zs = true) (w : World) (hM : Mt w b len zs) :
    Calls Try.prog 26 #[.agg #[.int .i64 m, .int .i64 P], .slice (some ⟨b, 0, none⟩) len cap] w fun e w' => ∃ v, e = .returned (.tuple #[v, .int .i64 0]) ∧ Below w.heap.size w w' ∧ Res w' w.heap.size w'.heap.size v (ints (rts P (nats zs) n)) := by
  obtain ⟨i0, hi, hz0, hz1, hz2⟩ := info_parts Try.infoI
  have h32 := hF.n32
  have hn2 := hF.n2
  have hlen := hM.len
  have h12 := okL_len hok
  have HIN := Lib.hid (okL_in hok)
  have HOK := Lib.hid hok
  have HM := Lib.hid hM
  have HRL := Lib.hid (hM.rl (okL_in hok))
  have HP := Lib.hid (nats_lt (okL_in hok) (by omega))
  clear hok hM
  obtain ⟨q, hq⟩ : ∃ q, nats zs = q := ⟨_, rfl⟩
  rw [hq] at HRL HP ⊢
  clear hq
  go_enter Try.func26, Try.ntmps26
  have h0 := FAt.start w m P 26
  go_wp2_with fail
  refine (specValidLinear_C m P n hF b len cap zs _ (HM.out.below h0.b) _ HOK.out).mono ?_
  rintro e w1 ⟨rfl, hb⟩
  have h1 := h0.next hb
  have hz1' := h1.z
  have HA1 := Lib.hid (h1.alloc (.cells #[] 2))
  have HO1 : Hid (OL (w1.alloc (.cells #[] 2)) (w.heap.size + 1) (some ⟨w1.heap.size, 0, none⟩) 0 0 (rts P q 0)) := ⟨rfl, World.ownsRow_made w1 #[] 0 (by omega) (by unfold maxLen; omega) (by simp)⟩
  clear hb h0 h1
  go_wp2_with fail
  go_loopw [6, 7] (fun v i wr => ∃ (k r cp : Nat) (A : Option Addr), k ≤ n ∧ i = .int .i64 k ∧ v = .slice A r cp ∧ FAt w m P wr ∧ OL wr (w.heap.size + 1) A r cp (rts P q k)) (fun _ i _ => n - (intOf i).toNat)
  case atStart => exact ⟨0, 0, 0, _, Nat.zero_le _, rfl, rfl, HA1.out, HO1.out⟩
  case round =>
    obtain ⟨k, r, cp, A, hk, rfl, rfl, hA, hO⟩ := hrel
    clear HA1 HO1
    have z1 := hA.z; have c1 := hA.c0; have d1 := hA.c1
    have hrl : r ≤ k := by have h1 := hO.len; have h2 := rts_len P q k; omega
    have HO := Lib.hid hO
    clear hO
    by_cases hlt : k < n
    · have hvn := vl_lt hF q k
      go_wp2_with fail
      refine (l01Size_any _ _ _ hF _).mono ?_
      rintro e w2 ⟨rfl, hb2⟩
      have k2 := hA.next hb2
      have z2 := k2.z; have c2 := k2.c0; have d2 := k2.c1
      have HO2 := Lib.hid (HO.out.below hb2)
      have HV := Lib.hid (l03Value_any m P n hF (some ⟨b, 0, none⟩) len cap q HP.out k hlt (by omega) w2 (HRL.out.below k2.b))
      clear hb2 HO
      obtain ⟨v, hve⟩ : ∃ v, vl P q k = v := ⟨_, rfl⟩
      rw [hve] at HV hvn
      have HVE := Lib.hid hve
      clear hve
      by_cases hv0 : v = 0
      · have HE := Lib.hid (rts_yes (P := P) (p := q) (k := k) (by rw [HVE.out]; exact hv0))
        subst hv0
        go_wp2_with fail
        refine HV.out.mono ?_
        rintro e w3 ⟨rfl, hb3⟩
        have k3 := k2.next hb3
        have z3 := k3.z; have c3 := k3.c0; have d3 := k3.c1
        have HO3 := Lib.hid (HO2.out.below hb3)
        clear hb3 HO2
        go_wp2_with (at_builtin; refine wpList_append_own _ rfl _ _ 24 rfl (w.heap.size + 1) 2 i0 (.int .i64 0) 1 8 Try.underlying24 hi hz0 hz1 hz2 rfl (by decide) _ _ _ rfl (HO3.out.own.alloc _) ⟨w3.heap.size, 0, none⟩ 1 1 [.int .i64 k] rfl rfl (one_new _ _ _) (one_one _ _) (by unfold maxLen; omega) (by omega) (by simp; omega) ?_; intro v' w4 hown' hgrow _; have hb4 : Below (w.heap.size + 1) w3 w4 := ((Below.refl _ w3).alloc (by omega) _).grown hgrow (by simp; omega) (fun g hg => (HO3.out.own.lt g hg).1); have HA4 := Lib.hid (show FAt w m P w4 from ⟨k3.b.trans (hb4.mono (by omega)), Nat.le_trans k3.z hb4.size, (hb4.cell (p := ⟨w.heap.size, 0, none⟩) (by simp)).trans k3.c0, (hb4.cell (p := ⟨w.heap.size, 1, none⟩) (by simp)).trans k3.c1⟩); obtain ⟨A4, cp4, hv4, hO4⟩ := OL.of (n := r + 1) (p := rts P q (k + 1)) (by rw [HE.out]; simpa [ints] using hown'); subst hv4; have HO4 := Lib.hid hO4; clear hown' hgrow hO4 hb4)
        go_roundw
        case rel => exact ⟨k + 1, r + 1, cp4, A4, by omega, by go_num, rfl, HA4.out, HO4.out⟩
        case measure => simp [intOf]; omega
      · have HE := Lib.hid (rts_no (P := P) (p := q) (k := k) (by rw [HVE.out]; exact hv0))
        have g0 : ((v : Int) == 0) = false := by simp; omega
        go_wp2_with fail
        refine HV.out.mono ?_
        rintro e w3 ⟨rfl, hb3⟩
        have K3 := Lib.hid (k2.next hb3)
        have HO3 := Lib.hid (HO2.out.below hb3)
        clear hb3 HO2
        go_wp2
        go_roundw
        case rel => exact ⟨k + 1, r, cp, A, by omega, by go_num, rfl, K3.out, by rw [HE.out]; exact HO3.out⟩
        case measure => simp [intOf]; omega
    · obtain rfl : k = n := by omega
      go_wp2_with fail
      refine (l01Size_any _ _ _ hF _).mono ?_
      rintro e w2 ⟨rfl, hb2⟩
      have K2 := Lib.hid (hA.next hb2)
      have HO2 := Lib.hid (HO.out.below hb2)
      clear hb2 HO
      go_wp2
      go_ret2
      exact ⟨_, rfl, K2.out.b, HO2.out.res (by omega) (by omega)⟩
theorem specRootsOf_any (d p : Int) (b len cap : Nat) (zs : List Int) (w : World) (hM : Mt w b len zs) :
    Calls Try.prog 26 #[.agg #[.int .i64 d, .int .i64 p], .slice (some ⟨b, 0, none⟩) len cap] w fun e w' => ∃ v, e = .returned (.tuple #[v, .int .i64 (fRootsOf d p zs).2]) ∧ Below w.heap.size w w' ∧ Res w' w.heap.size w'.heap.size v ((fRootsOf d p zs).1) := by
  cases hok : okFL d p zs with
  | false => rw [fRootsOf_B hok]; exact specRootsOf_bad d p b len cap zs hok w hM
  | true =>
    obtain ⟨hf, hok2⟩ : fldI d p = true ∧ okL (2 ^ d.toNat) zs = true := by simpa [okFL] using hok
    obtain ⟨m, P, rfl, rfl, hF⟩ := fldI_nat hf
    have hF := Fld.of hF
    rw [okFL_yes hF] at hok
    rw [fRootsOf_C hF hok]; exact specRootsOf_C m P _ hF b len cap zs hok w hM
end Go.Proofs.Ytfnmlhilgabjeaa
