/- ValidLinear: what the model's and the program's function return. -/
import Derived.Test.YtfnmlhilgabjeaaLinS3
import Derived.Test.YtfnmlhilgabjeaaLinI4
namespace Go.Proofs.Ytfnmlhilgabjeaa
open Go.RowKit Go.Joins
set_option linter.unusedVariables false

set_option maxHeartbeats 800000 in
theorem implValidLinear_A (d p : Int) (hf : fldI d p = false) (hl : -9223372036854775808 ≤ p) (hh : p ≤ 9223372036854775807) (v : Value) (w : World) :
    Calls Try.prog 16 #[.agg #[.int .i64 d, .int .i64 p], v] w fun e w' => e = .returned (.bool false) ∧ Below w.heap.size w w' := by
  have HF := Lib.hid hf
  clear hf
  go_enter Try.func16, Try.ntmps16
  have hb0 := below_alloc1 w (.cells #[.int .i64 d, .int .i64 p] 26)
  have HB0 := Lib.hid hb0
  clear hb0
  go_wp2_with fail
  refine (linearFor_A d p HF.out hl hh v _ _).mono ?_
  rintro e w1 ⟨rfl, hb⟩
  have HB1 := Lib.hid (HB0.out.trans (hb.mono (by simp)))
  clear hb
  go_wp2_with fail
  go_ret
  exact ⟨rfl, HB1.out⟩
set_option maxHeartbeats 800000 in
theorem implValidLinear_B (m P n : Nat) (hF : Fld m P n) (b len cap : Nat) (zs : List Int) (hok : okL n zs = false) (w : World) (hM : Mt w b len zs) :
    Calls Try.prog 16 #[.agg #[.int .i64 m, .int .i64 P], .slice (some ⟨b, 0, none⟩) len cap] w fun e w' => e = .returned (.bool false) ∧ Below w.heap.size w w' := by
  have HOK := Lib.hid hok
  have HM := Lib.hid hM
  clear hok hM
  go_enter Try.func16, Try.ntmps16
  have hb0 := below_alloc1 w (.cells #[.int .i64 m, .int .i64 P] 26)
  have HB0 := Lib.hid hb0
  clear hb0
  go_wp2_with fail
  refine (linearFor_B m P n hF b len cap zs _ _ (HM.out.below HB0.out) HOK.out).mono ?_
  rintro e w1 ⟨rfl, hb⟩
  have HB1 := Lib.hid (HB0.out.trans (hb.mono (by simp)))
  clear hb
  go_wp2_with fail
  go_ret
  exact ⟨rfl, HB1.out⟩
set_option maxHeartbeats 800000 in
theorem implValidLinear_C (m P n : Nat) (hF : Fld m P n) (b len cap : Nat) (zs : List Int) (hok : okL n zs = true) (w : World) (hM : Mt w b len zs) :
    Calls Try.prog 16 #[.agg #[.int .i64 m, .int .i64 P], .slice (some ⟨b, 0, none⟩) len cap] w fun e w' => e = .returned (.bool true) ∧ Below w.heap.size w w' := by
  have HOK := Lib.hid hok
  have HM := Lib.hid hM
  clear hok hM
  go_enter Try.func16, Try.ntmps16
  have hb0 := below_alloc1 w (.cells #[.int .i64 m, .int .i64 P] 26)
  have HB0 := Lib.hid hb0
  clear hb0
  go_wp2_with fail
  refine (linearFor_C m P n hF b len cap zs none 0 0 [] (by omega) _ (HM.out.below HB0.out) HOK.out (arg_nil _) rfl).mono ?_
  rintro e w1 ⟨c, g, rfl, hb, hC, hR⟩
  have HB1 := Lib.hid (HB0.out.trans (hb.mono (by simp)))
  clear hb hC hR
  go_wp2_with fail
  go_ret
  exact ⟨rfl, HB1.out⟩
theorem implValidLinear_any (d p : Int) (b len cap : Nat) (zs : List Int) (w : World) (hl : -9223372036854775808 ≤ p) (hh : p ≤ 9223372036854775807) (hM : Mt w b len zs) :
    Calls Try.prog 16 #[.agg #[.int .i64 d, .int .i64 p], .slice (some ⟨b, 0, none⟩) len cap] w fun e w' => e = .returned (.bool (fValidLinear d p zs)) ∧ Below w.heap.size w w' := by
  unfold fValidLinear
  cases hf : fldI d p with
  | false => rw [okFL_no hf]; exact implValidLinear_A d p hf hl hh _ w
  | true =>
    obtain ⟨m, P, rfl, rfl, hF⟩ := fldI_nat hf
    have hF := Fld.of hF
    rw [okFL_yes hF]
    cases hok : okL (2 ^ m) zs with
    | false => exact implValidLinear_B m P _ hF b len cap zs hok w hM
    | true => exact implValidLinear_C m P _ hF b len cap zs hok w hM
end Go.Proofs.Ytfnmlhilgabjeaa
