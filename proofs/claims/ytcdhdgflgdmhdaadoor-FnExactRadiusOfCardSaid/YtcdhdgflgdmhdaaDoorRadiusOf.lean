/- RadiusOf: the program and the model. -/
import Derived.Test.YtcdhdgflgdmhdaaDoorGabI
import Derived.BigQuiet
namespace Go.Proofs.YtcdhdgflgdmhdaaDoor
open Go.RowKit Go.Joins
set_option linter.unusedVariables false

def fRadiusOf (d p : Int) (zs : List Int) (k : Int) : Int × Int := if gabF d p zs k = true then (((zs.length : Int) - k) / 2, 0) else (0, 1)
theorem fRadius_no {d p k : Int} {zs : List Int} (h : gabF d p zs k = false) : fRadiusOf d p zs k = (0, 1) := by rw [fRadiusOf, if_neg (by rw [h]; simp)]
theorem fRadius_yes {d p k : Int} {zs : List Int} (h : gabF d p zs k = true) : fRadiusOf d p zs k = (((zs.length : Int) - k) / 2, 0) := by rw [fRadiusOf, if_pos h]
set_option maxHeartbeats 800000 in
theorem l05Radius_any (n : Nat) (k : Int) (hn : n ≤ 5) (h1 : 1 ≤ k) (h2 : k ≤ n) (w : World) :
    Calls Tryd.prog 25 #[.int .i64 n, .int .i64 k] w fun e w' => e = .returned (.int .i64 (((n : Int) - k) / 2)) ∧ w = w' := by
  have h0 : 0 ≤ (n : Int) - k := by omega
  go_enter Tryd.func25, Tryd.ntmps25
  go_wp2
  go_ret
  exact ⟨ret_int (by first | rfl | (rw [Int.tdiv_eq_ediv_of_nonneg h0]) | (rw [Int.tdiv_eq_ediv_of_nonneg h0]; unfold wrap64; omega) | (unfold wrap64; omega)), rfl⟩
set_option maxHeartbeats 800000 in
theorem radius_any (q c g m P n len : Nat) (k : Int) (L : List Nat) (hn : len ≤ 5) (h1 : 1 ≤ k) (h2 : k ≤ len) (w : World) (hP : PC w q c g m P n len k L) :
    Calls Tryd.prog 26 #[.pointer (some ⟨q, 0, none⟩)] w fun e w' => e = .returned (.int .i64 (((len : Int) - k) / 2)) ∧ Below w.heap.size w w' := by
  have h0 : 0 ≤ (len : Int) - k := by omega
  have c1 := hP.c1; have c2 := hP.c2
  clear hP
  go_enter Tryd.func26, Tryd.ntmps26
  go_wp2
  go_quiet (fail)
  go_wp2
  go_ret
  exact ⟨ret_int (by first | rfl | (rw [Int.tdiv_eq_ediv_of_nonneg h0]) | (rw [Int.tdiv_eq_ediv_of_nonneg h0]; unfold wrap64; omega) | (unfold wrap64; omega)), below_drewN (Below.refl _ _) _⟩
set_option maxHeartbeats 1600000 in
theorem specRadiusOf_any (d p k : Int) (b len cap : Nat) (zs : List Int) (w : World) (hM : Mt w b len zs) :
    Calls Tryd.prog 11 #[.agg (gabC d p (.slice (some ⟨b, 0, none⟩) len cap) k)] w fun e w' => e = .returned (.tuple #[.int .i64 (fRadiusOf d p zs k).1, .int .i64 (fRadiusOf d p zs k).2]) ∧ Below w.heap.size w w' := by
  have hlen := hM.len
  have hb0 := below_alloc1 w (.cells (gabC d p (.slice (some ⟨b, 0, none⟩) len cap) k) 31)
  have hX0 := Box4.one w (.int .i64 d) (.int .i64 p) (.slice (some ⟨b, 0, none⟩) len cap) (.int .i64 k) 31
  have S := fun r hr => l05Ok_any d p w.heap.size b len cap k zs _ hX0 (hM.below hb0) r hr
  have HX := Lib.hid hX0
  clear hX0
  cases hg : gabF d p zs k with
  | false =>
    rw [fRadius_no hg]
    have HS := Lib.hid (S false hg)
    clear S hg
    go_enter Tryd.func11, Tryd.ntmps11
    go_wp2_with (go_at_call 21; refine HS.out.mono ?_; rintro e w1 ⟨rfl, hb⟩)
    go_ret2
    exact ⟨rfl, hb0.trans (hb.mono hb0.size)⟩
  | true =>
    rw [fRadius_yes hg]
    have HS := Lib.hid (S true hg)
    have hf : fldI d p = true := by cases h : fldI d p with | true => rfl | false => rw [gabF_no h] at hg; cases hg
    obtain ⟨m, P, rfl, rfl, hF⟩ := fldI_nat hf
    have hF := Fld.of hF
    rw [gabF_yes hF] at hg
    obtain ⟨h1, h2, h3, h4⟩ := gabB_yes hg
    have h5 := okW_len h1
    have HR := Lib.hid (fun w => l05Radius_any len k (by omega) h3 (by omega) w)
    rw [hlen]
    clear S hg hf h1 h2 hlen h4
    go_enter Tryd.func11, Tryd.ntmps11
    go_wp2_with fail
    refine HS.out.mono ?_
    rintro e w1 ⟨rfl, hb⟩
    have hX1 := HX.out.next hb
    have x2 := hX1.c2; have x3 := hX1.c3
    have HB := Lib.hid (hb0.trans (hb.mono hb0.size))
    clear hb hX1
    go_wp2_with (go_at_call 25; refine (HR.out _).mono ?_; rintro e w2 ⟨rfl, rfl⟩)
    go_ret2
    exact ⟨rfl, HB.out⟩
set_option maxHeartbeats 1600000 in
theorem implRadiusOf_any (d p k : Int) (b len cap : Nat) (zs : List Int) (w : World) (hl : -9223372036854775808 ≤ p) (hh : p ≤ 9223372036854775807) (hM : Mt w b len zs) (hT : Tab w) :
    Calls Tryd.prog 12 #[.agg (gabC d p (.slice (some ⟨b, 0, none⟩) len cap) k)] w fun e w' => e = .returned (.tuple #[.int .i64 (fRadiusOf d p zs k).1, .int .i64 (fRadiusOf d p zs k).2]) ∧ Below w.heap.size w w' := by
  have hlen := hM.len
  have hb0 := below_alloc1 w (.cells (gabC d p (.slice (some ⟨b, 0, none⟩) len cap) k) 31)
  have HM := Lib.hid (hM.below hb0)
  have HT := Lib.hid (hT.below hb0)
  have HM0 := Lib.hid hM
  have HT0 := Lib.hid hT
  clear hM hT
  cases hg : gabF d p zs k with
  | false =>
    rw [fRadius_no hg]
    have HS := Lib.hid (fun w hM hT => pointCoderFor_no d p b len cap zs k hg hl hh w hM hT)
    clear hg
    go_enter Tryd.func12, Tryd.ntmps12
    go_wp2_with (go_at_call 23; (first | refine (HS.out _ HM.out HT.out).mono ?_ | refine (HS.out _ HM0.out HT0.out).mono ?_); rintro e w1 ⟨rfl, hb⟩)
    go_ret2
    exact ⟨rfl, by first | exact hb | exact hb0.trans (hb.mono hb0.size)⟩
  | true =>
    rw [fRadius_yes hg]
    have hf : fldI d p = true := by cases h : fldI d p with | true => rfl | false => rw [gabF_no h] at hg; cases hg
    obtain ⟨m, P, rfl, rfl, hF⟩ := fldI_nat hf
    have hF := Fld.of hF
    rw [gabF_yes hF] at hg
    obtain ⟨h1, h2, h3, h4⟩ := gabB_yes hg
    have h5 := okW_len h1
    have HS := Lib.hid (fun w hM hT => pointCoderFor_yes m P _ hF b len cap zs k hg w hM hT)
    have HR := Lib.hid (fun q c g w hP => radius_any q c g m P (2 ^ m) len k (nats zs) (by omega) h3 (by omega) w hP)
    rw [hlen]
    clear hg hf h1 h2 hlen h4
    go_enter Tryd.func12, Tryd.ntmps12
    go_wp2_with (first | (go_at_call 23; (first | refine (HS.out _ HM.out HT.out).mono ?_ | refine (HS.out _ HM0.out HT0.out).mono ?_); rintro e w1 ⟨q, c, g, rfl, hb, hP⟩) | (go_at_call 26; refine (HR.out _ _ _ _ hP).mono ?_; rintro e w2 ⟨rfl, hb2⟩))
    go_ret2
    exact ⟨rfl, by first | exact hb.trans (hb2.mono hb.size) | exact (hb0.trans (hb.mono hb0.size)).trans (hb2.mono (hb0.trans (hb.mono hb0.size)).size)⟩
end Go.Proofs.YtcdhdgflgdmhdaaDoor
