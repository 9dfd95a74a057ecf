/- What linearsFor returns. -/
import Derived.Test.YtfnmlhilgabjeaaLinS3
import Derived.Test.YtfnmlhilgabjeaaLinI4
namespace Go.Proofs.Ytfnmlhilgabjeaa
open Go.RowKit Go.Joins
set_option linter.unusedVariables false

theorem results_tmp4 {fn : Func} {t u v x : Tmp} (h : fn.results = #[.tmp t, .tmp u, .tmp v, .tmp x]) (tmps : Array Value) (P : Program) (w : World) :
    (results fn tmps).run P w = .ok (.tuple #[tmps.getD t undef, tmps.getD u undef, tmps.getD v undef, tmps.getD x undef]) w := by
  simp [results, h]
theorem nats_256 {n : Nat} {zs : List Int} (h : okL n zs = true) (hn0 : 0 < n) (hn : n ≤ 32) (j : Nat) : nth (nats zs) j < 256 := by
  have := nats_lt (okL_in h) hn0 j
  omega

set_option maxHeartbeats 800000 in
theorem linearsFor_1 (d p : Int) (v1 v2 : Value) (w : World) (h : ∀ w', Below w.heap.size w w' → Calls Try.prog 40 #[.agg #[.int .i64 d, .int .i64 p], v1, .slice none 0 0] w' fun e w2 => e = .returned (.tuple #[.pointer none, .slice none 0 0, .int .i64 1]) ∧ Below w'.heap.size w' w2) :
    Calls Try.prog 46 #[.agg #[.int .i64 d, .int .i64 p], v1, v2] w fun e w' => e = .returned (.tuple #[.pointer none, .slice none 0 0, .slice none 0 0, .int .i64 1]) ∧ Below w.heap.size w w' := by
  have HH := Lib.hid h
  clear h
  go_enter Try.func46, Try.ntmps46
  have hb0 := below_alloc1 w (.cells #[.int .i64 d, .int .i64 p] 26)
  have HB0 := Lib.hid hb0
  clear hb0
  go_wp2_with fail
  refine (HH.out _ HB0.out).mono ?_
  rintro e w1 ⟨rfl, hb⟩
  have HB1 := Lib.hid (HB0.out.trans (hb.mono HB0.out.size))
  clear hb
  go_wp2_with fail
  (try simp only [Exit.inBlock, Exit.then]); refine bodyPost_ret (results_tmp4 rfl _ _ _) rfl ?_
  exact ⟨rfl, HB1.out⟩
set_option maxHeartbeats 800000 in
theorem linearsFor_2 (m P n : Nat) (hF : Fld m P n) (b1 l1 c1 : Nat) (z1 : List Int) (b2 l2 c2 : Nat) (z2 : List Int) (w : World) (hM1 : Mt w b1 l1 z1) (hM2 : Mt w b2 l2 z2) (h1 : okL n z1 = true) (h2 : okL n z2 = false) :
    Calls Try.prog 46 #[.agg #[.int .i64 m, .int .i64 P], .slice (some ⟨b1, 0, none⟩) l1 c1, .slice (some ⟨b2, 0, none⟩) l2 c2] w fun e w' => e = .returned (.tuple #[.pointer none, .slice none 0 0, .slice none 0 0, .int .i64 1]) ∧ Below w.heap.size w w' := by
  have HM1 := Lib.hid hM1
  have HM2 := Lib.hid hM2
  have H1 := Lib.hid h1
  have H2 := Lib.hid h2
  clear hM1 hM2 h1 h2
  go_enter Try.func46, Try.ntmps46
  have hb0 := below_alloc1 w (.cells #[.int .i64 m, .int .i64 P] 26)
  have HB0 := Lib.hid hb0
  clear hb0
  go_wp2_with fail
  refine (linearFor_C m P n hF b1 l1 c1 z1 none 0 0 [] (by omega) _ (HM1.out.below HB0.out) H1.out (arg_nil _) rfl).mono ?_
  rintro e w1 ⟨c, g, rfl, hb, hC, hR⟩
  have HB1 := Lib.hid (HB0.out.trans (hb.mono HB0.out.size))
  have HD := Lib.hid hC.deg
  clear hb hC hR
  go_wp2_with fail
  refine (linear_no c m P n hF b2 l2 c2 z2 _ (HM2.out.below HB1.out) HD.out H2.out).mono ?_
  rintro e w2 ⟨A, k, rfl, hb⟩
  have HB2 := Lib.hid (HB1.out.trans (hb.mono HB1.out.size))
  clear hb
  go_wp2_with fail
  (try simp only [Exit.inBlock, Exit.then]); refine bodyPost_ret (results_tmp4 rfl _ _ _) rfl ?_
  exact ⟨rfl, HB2.out⟩
set_option maxHeartbeats 800000 in
theorem linearsFor_C (m P n : Nat) (hF : Fld m P n) (b1 l1 c1 : Nat) (z1 : List Int) (b2 l2 c2 : Nat) (z2 : List Int) (w : World) (hM1 : Mt w b1 l1 z1) (hM2 : Mt w b2 l2 z2) (h1 : okL n z1 = true) (h2 : okL n z2 = true) :
    Calls Try.prog 46 #[.agg #[.int .i64 m, .int .i64 P], .slice (some ⟨b1, 0, none⟩) l1 c1, .slice (some ⟨b2, 0, none⟩) l2 c2] w fun e w' => ∃ c g1 g2, e = .returned (.tuple #[.pointer (some ⟨c, 0, none⟩), .slice (some ⟨g1, 0, none⟩) l1 l1, .slice (some ⟨g2, 0, none⟩) l2 l2, .int .i64 0]) ∧ Below w.heap.size w w' ∧ Calc c m P n w' ∧ Rl w' .u8 (some ⟨g1, 0, none⟩) l1 (nats z1) ∧ Rl w' .u8 (some ⟨g2, 0, none⟩) l2 (nats z2) := by
  have HM1 := Lib.hid hM1
  have HM2 := Lib.hid hM2
  have H1 := Lib.hid h1
  have H2 := Lib.hid h2
  clear hM1 hM2 h1 h2
  go_enter Try.func46, Try.ntmps46
  have hb0 := below_alloc1 w (.cells #[.int .i64 m, .int .i64 P] 26)
  have HB0 := Lib.hid hb0
  clear hb0
  go_wp2_with fail
  refine (linearFor_C m P n hF b1 l1 c1 z1 none 0 0 [] (by omega) _ (HM1.out.below HB0.out) H1.out (arg_nil _) rfl).mono ?_
  rintro e w1 ⟨c, g, rfl, hb, hC, hR⟩
  have HB1 := Lib.hid (HB0.out.trans (hb.mono HB0.out.size))
  have HC := Lib.hid hC
  have HR := Lib.hid hR
  clear hb hC hR
  go_wp2_with fail
  refine (linear_yes c m P n hF b2 l2 c2 z2 _ (HM2.out.below HB1.out) HC.out.deg H2.out).mono ?_
  rintro e w2 ⟨g2, rfl, hb, hR2⟩
  have HB2 := Lib.hid (HB1.out.trans (hb.mono HB1.out.size))
  have HC2 := Lib.hid (HC.out.below HC.out.lt hb)
  have HRR := Lib.hid (HR.out.below hb)
  have HR2 := Lib.hid hR2
  clear hb hR2
  go_wp2_with fail
  (try simp only [Exit.inBlock, Exit.then]); refine bodyPost_ret (results_tmp4 rfl _ _ _) rfl ?_
  exact ⟨c, g, g2, rfl, HB2.out, HC2.out, HRR.out, HR2.out⟩
/-- Two lists, one of which is no linear polynomial of the field. -/
theorem linearsFor_bad (d p : Int) (hl : -9223372036854775808 ≤ p) (hh : p ≤ 9223372036854775807) (b1 l1 c1 : Nat) (z1 : List Int) (b2 l2 c2 : Nat) (z2 : List Int) (w : World) (hM1 : Mt w b1 l1 z1) (hM2 : Mt w b2 l2 z2) (h : (okFL d p z1 && okFL d p z2) = false) :
    Calls Try.prog 46 #[.agg #[.int .i64 d, .int .i64 p], .slice (some ⟨b1, 0, none⟩) l1 c1, .slice (some ⟨b2, 0, none⟩) l2 c2] w fun e w' => e = .returned (.tuple #[.pointer none, .slice none 0 0, .slice none 0 0, .int .i64 1]) ∧ Below w.heap.size w w' := by
  cases hf : fldI d p with
  | false => exact linearsFor_1 d p _ _ w fun w' hb => linearFor_A d p hf hl hh _ _ w'
  | true =>
    obtain ⟨m, P, rfl, rfl, hF⟩ := fldI_nat hf
    have hF := Fld.of hF
    rw [okFL_yes hF, okFL_yes hF] at h
    cases h1 : okL (2 ^ m) z1 with
    | false => exact linearsFor_1 _ _ _ _ w fun w' hb => linearFor_B m P _ hF b1 l1 c1 z1 _ w' (hM1.below hb) h1
    | true =>
      rw [h1, Bool.true_and] at h
      exact linearsFor_2 m P _ hF b1 l1 c1 z1 b2 l2 c2 z2 w hM1 hM2 h1 h
end Go.Proofs.Ytfnmlhilgabjeaa
