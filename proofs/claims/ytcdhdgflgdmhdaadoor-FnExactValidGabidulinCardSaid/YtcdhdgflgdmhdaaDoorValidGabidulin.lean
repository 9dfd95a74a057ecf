/- ValidGabidulin: the program and the model. -/
import Derived.Test.YtcdhdgflgdmhdaaDoorGabI
namespace Go.Proofs.YtcdhdgflgdmhdaaDoor
open Go.RowKit Go.Joins
set_option linter.unusedVariables false

abbrev fValidGabidulin (d p : Int) (zs : List Int) (k : Int) : Bool := gabF d p zs k
set_option maxHeartbeats 1600000 in
theorem specValidGabidulin_any (d p k : Int) (b len cap : Nat) (zs : List Int) (w : World) (hM : Mt w b len zs) :
    Calls Tryd.prog 7 #[.agg (gabC d p (.slice (some ⟨b, 0, none⟩) len cap) k)] w fun e w' => e = .returned (.bool (fValidGabidulin d p zs k)) ∧ Below w.heap.size w w' := by
  have hb0 := below_alloc1 w (.cells (gabC d p (.slice (some ⟨b, 0, none⟩) len cap) k) 31)
  have hX0 := Box4.one w (.int .i64 d) (.int .i64 p) (.slice (some ⟨b, 0, none⟩) len cap) (.int .i64 k) 31
  have S := l05Ok_any d p w.heap.size b len cap k zs _ hX0 (hM.below hb0) _ rfl
  have HS := Lib.hid S
  clear S hX0
  go_enter Tryd.func7, Tryd.ntmps7
  go_wp2_with (go_at_call 21; refine HS.out.mono ?_; rintro e w1 ⟨rfl, hb⟩)
  go_ret
  exact ⟨rfl, hb0.trans (hb.mono hb0.size)⟩
set_option maxHeartbeats 1600000 in
theorem implValidGabidulin_any (d p k : Int) (b len cap : Nat) (zs : List Int) (w : World) (hl : -9223372036854775808 ≤ p) (hh : p ≤ 9223372036854775807) (hM : Mt w b len zs) (hT : Tab w) :
    Calls Tryd.prog 9 #[.agg (gabC d p (.slice (some ⟨b, 0, none⟩) len cap) k)] w fun e w' => e = .returned (.bool (fValidGabidulin d p zs k)) ∧ Below w.heap.size w w' := by
  have hb0 := below_alloc1 w (.cells (gabC d p (.slice (some ⟨b, 0, none⟩) len cap) k) 31)
  have hX0 := Box4.one w (.int .i64 d) (.int .i64 p) (.slice (some ⟨b, 0, none⟩) len cap) (.int .i64 k) 31
  have HX := Lib.hid hX0
  have HM := Lib.hid (hM.below hb0)
  have HT := Lib.hid (hT.below hb0)
  have HM0 := Lib.hid hM
  have HT0 := Lib.hid hT
  clear hX0 hM hT
  unfold fValidGabidulin
  cases hg : gabF d p zs k with
  | false =>
    have HS := Lib.hid (fun w hM hT => pointCoderFor_no d p b len cap zs k hg hl hh w hM hT)
    clear hg
    go_enter Tryd.func9, Tryd.ntmps9
    go_wp2_with (go_at_call 23; (first | refine (HS.out _ HM.out HT.out).mono ?_ | refine (HS.out _ HM0.out HT0.out).mono ?_); rintro e w1 ⟨rfl, hb⟩)
    go_ret
    exact ⟨rfl, by first | exact hb | exact hb0.trans (hb.mono hb0.size)⟩
  | true =>
    have hf : fldI d p = true := by cases h : fldI d p with | true => rfl | false => rw [gabF_no h] at hg; cases hg
    obtain ⟨m, P, rfl, rfl, hF⟩ := fldI_nat hf
    have hF := Fld.of hF
    rw [gabF_yes hF] at hg
    have HS := Lib.hid (fun w hM hT => pointCoderFor_yes m P _ hF b len cap zs k hg w hM hT)
    clear hg hf
    go_enter Tryd.func9, Tryd.ntmps9
    go_wp2_with (go_at_call 23; (first | refine (HS.out _ HM.out HT.out).mono ?_ | refine (HS.out _ HM0.out HT0.out).mono ?_); rintro e w1 ⟨q, c, g, rfl, hb, hP⟩)
    go_ret
    exact ⟨rfl, by first | exact hb | exact hb0.trans (hb.mono hb0.size)⟩
end Go.Proofs.YtcdhdgflgdmhdaaDoor
