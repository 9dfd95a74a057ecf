/- FnPowers: for every input the law returns true, and every argument reads afterwards as it read before. No condition. -/
import Derived.Test.YtibennpdffgomaaRows
import Derived.WalkKit
import Derived.ProofKit
import Derived.OpenShut
import Derived.ChangeOld
import Derived.Below
import Derived.Lib.SmallJoins
import Derived.Test.YtibennpdffgomaaDraw3
import Derived.Test.YtibennpdffgomaaPowersPure
import Derived.Test.YtibennpdffgomaaMul
import Derived.Test.YtibennpdffgomaaPower
import Derived.Test.YtibennpdffgomaaSquareTimes
import Derived.Test.YtibennpdffgomaaRootTimes
import Derived.Test.YtibennpdffgomaaOrderIn
namespace Go.Proofs.Ytibennpdffgomaa.fnPowers
open Go.ChangeShapes Go.WideShapes Go.ChangeAt Go.RowKit Go.Joins
set_option linter.unusedVariables false

theorem own : ownKnob Try.prog.godebug = none := by kernel_rfl
theorem laidOut : laidOutB Try.prog = true := by kernel_rfl

set_option maxRecDepth 100000 in
set_option maxHeartbeats 12800000 in
theorem walk (a0 : Option Addr) (n0 cap0 : Nat) (a1 : Option Addr) (n1 cap1 : Nat) (w : World) (h0B : Bys w w.heap.size a0 n0) (h1B : Bys w w.heap.size a1 n1) :
    Calls Try.prog 10 #[.slice a0 n0 cap0, .slice a1 n1 cap1] w fun e w' => e = .returned (.bool true) ∧ Below w.heap.size w w' := by
  have hl0 := h0B.big
  have hl1 := h1B.big
  by_cases hlong : 3000 < n0 ∨ 3000 < n1
  · have SL := a2Long_any a0 a1 n0 cap0 n1 cap1 hl0 hl1 w
    rw [show (decide (3000 < n0) || decide (3000 < n1)) = true by simpa using hlong] at SL
    have HSL := Lib.hid SL
    clear SL h0B h1B hlong
    go_enter Try.func10, Try.ntmps10
    go_wp2_with fail
    refine HSL.out.mono ?_
    rintro e w1 ⟨rfl, rfl⟩
    go_wp2_with fail
    go_ret
    exact ⟨rfl, Below.refl _ _⟩
  have SL := a2Long_any a0 a1 n0 cap0 n1 cap1 hl0 hl1 w
  rw [show (decide (3000 < n0) || decide (3000 < n1)) = false by simpa using hlong] at SL
  have HSL := Lib.hid SL
  have HD := Lib.hid (a2Field_any a0 n0 cap0 w h0B)
  have HE := Lib.hid h1B
  clear SL h0B h1B hlong
  go_enter Try.func10, Try.ntmps10
  go_wp2_with fail
  refine HSL.out.mono ?_
  rintro e w1 ⟨rfl, rfl⟩
  clear HSL
  go_wp2_with fail
  refine HD.out.mono ?_
  rintro e w1 ⟨m, P, hf, rfl, hb⟩
  have hF := Fld.of hf
  obtain ⟨N, hN⟩ : ∃ N, 2 ^ m = N := ⟨_, rfl⟩
  rw [hN] at hF
  have hsh : (2 : Int) ^ m = (N : Int) := by rw [← hN]; simp
  have hn2 := hF.n2
  have h32 := hF.n32
  have hm1 := hF.m1
  have hm5 := hF.m5
  have hP64 := hF.P64
  have X0 := Lib.hid (FX.start hb m P 31)
  have hq : w.heap.size ≤ w1.heap.size := hb.size
  have HN := Lib.hid hN
  clear hb HD hf hN
  have c00 := X0.out.c0; have c10 := X0.out.c1
  go_wp2_with fail
  refine (a2Element_any a1 n1 cap1 m P N hF 0 (by omega) _ (HE.out.at X0.out.b)).mono ?_
  rintro e w2 ⟨va, hva, rfl, hb⟩
  have X1 := Lib.hid (X0.out.next hb)
  clear hb c00 c10 X0
  have c01 := X1.out.c0; have c11 := X1.out.c1
  go_wp2_with fail
  refine (a2Element_any a1 n1 cap1 m P N hF 1 (by omega) _ (HE.out.at X1.out.b)).mono ?_
  rintro e w3 ⟨vb, hvb, rfl, hb⟩
  have X2 := Lib.hid (X1.out.next hb)
  clear hb c01 c11 X1
  have c02 := X2.out.c0; have c12 := X2.out.c1
  go_wp2_with fail
  refine (a2At_any _ a1 n1 cap1 3 40 (by omega) (by omega) (by omega) _ (HE.out.at X2.out.b)).mono ?_
  rintro e w4 ⟨vi, hvi, rfl, rfl⟩
  go_wp2_with fail
  refine (a2At_any _ a1 n1 cap1 4 40 (by omega) (by omega) (by omega) _ (HE.out.at X2.out.b)).mono ?_
  rintro e w4 ⟨vk, hvk, rfl, rfl⟩
  clear HE
  obtain ⟨vx, evx⟩ : ∃ x, pw P va vi = x := ⟨_, rfl⟩
  have hvx : vx < N := by rw [← evx]; exact pw_lt hF _ _
  obtain ⟨vy, evy⟩ : ∃ x, pw P va vk = x := ⟨_, rfl⟩
  have hvy : vy < N := by rw [← evy]; exact pw_lt hF _ _
  obtain ⟨vz, evz⟩ : ∃ x, pw P va (vi + vk) = x := ⟨_, rfl⟩
  have hvz : vz < N := by rw [← evz]; exact pw_lt hF _ _
  obtain ⟨vs, evs⟩ : ∃ x, sq P va vk = x := ⟨_, rfl⟩
  have hvs : vs < N := by rw [← evs]; exact sq_lt hF hva _
  obtain ⟨vt, evt⟩ : ∃ x, sq P vb vk = x := ⟨_, rfl⟩
  have hvt : vt < N := by rw [← evt]; exact sq_lt hF hvb _
  have eprod : mul P vx vy = vz := by rw [← evx, ← evy, ← evz]; exact pw_add hF hva vi vk
  have eboth : sq P (va ^^^ vb) vk = vs ^^^ vt := by rw [← evs, ← evt]; exact sq_xor hF hva hvb vk
  have eback : sq P vs (m - vk % m) = va := by rw [← evs]; exact sq_root hF hva vk
  have ewhole : sq P va m = va := sq_deg hF hva
  have hxor : va ^^^ vb < N := by rw [← HN.out] at hva hvb ⊢; exact Nat.xor_lt_two_pow hva hvb
  obtain ⟨vg, hg0, hgn, hg, hgmin⟩ := prim_min hF
  have K1 : Hid (∀ W : World, Calls Try.prog 53 #[.agg #[.int .i64 m, .int .i64 P], .int .i64 (va : Nat), .int .i64 (vi : Nat)] W fun e w' => e = .returned (.tuple #[.int .i64 (vx : Nat), .int .i64 0]) ∧ Below W.heap.size W w') := Lib.hid fun W => by
    rw [← evx]; exact implPowerIn_C m P N hF va vi hva (by omega) W
  have K2 : Hid (∀ W : World, Calls Try.prog 53 #[.agg #[.int .i64 m, .int .i64 P], .int .i64 (va : Nat), .int .i64 (vk : Nat)] W fun e w' => e = .returned (.tuple #[.int .i64 (vy : Nat), .int .i64 0]) ∧ Below W.heap.size W w') := Lib.hid fun W => by
    rw [← evy]; exact implPowerIn_C m P N hF va vk hva (by omega) W
  have K3 : Hid (∀ W : World, Calls Try.prog 53 #[.agg #[.int .i64 m, .int .i64 P], .int .i64 (va : Nat), .int .i64 ((vi : Int) + (vk : Int))] W fun e w' => e = .returned (.tuple #[.int .i64 (vz : Nat), .int .i64 0]) ∧ Below W.heap.size W w') := Lib.hid fun W => by
    have S := implPowerIn_C m P N hF va (vi + vk) hva (by omega) W; rw [evz, Int.natCast_add] at S; exact S
  have K4 : Hid (∀ W : World, Calls Try.prog 54 #[.agg #[.int .i64 m, .int .i64 P], .int .i64 (vx : Nat), .int .i64 (vy : Nat)] W fun e w' => e = .returned (.tuple #[.int .i64 (vz : Nat), .int .i64 0]) ∧ Below W.heap.size W w') := Lib.hid fun W => by
    rw [← eprod]; exact implMulIn_C m P N hF vx vy hvx hvy W
  have K5 : Hid (∀ W : World, Calls Try.prog 55 #[.agg #[.int .i64 m, .int .i64 P], .int .i64 (va : Nat), .int .i64 (vk : Nat)] W fun e w' => e = .returned (.tuple #[.int .i64 (vs : Nat), .int .i64 0]) ∧ Below W.heap.size W w') := Lib.hid fun W => by
    rw [← evs]; exact implSquareTimes_C m P N hF va vk hva (by omega) W
  have K6 : Hid (∀ W : World, Calls Try.prog 55 #[.agg #[.int .i64 m, .int .i64 P], .int .i64 (vb : Nat), .int .i64 (vk : Nat)] W fun e w' => e = .returned (.tuple #[.int .i64 (vt : Nat), .int .i64 0]) ∧ Below W.heap.size W w') := Lib.hid fun W => by
    rw [← evt]; exact implSquareTimes_C m P N hF vb vk hvb (by omega) W
  have K7 : Hid (∀ W : World, Calls Try.prog 55 #[.agg #[.int .i64 m, .int .i64 P], .int .i64 (bits .xor .i64 (va : Nat) (vb : Nat)), .int .i64 (vk : Nat)] W fun e w' => e = .returned (.tuple #[.int .i64 (bits .xor .i64 (vs : Nat) (vt : Nat)), .int .i64 0]) ∧ Below W.heap.size W w') := Lib.hid fun W => by
    have S := implSquareTimes_C m P N hF (va ^^^ vb) vk hxor (by omega) W; rw [eboth, ← i64_xor_nat va vb (by omega) (by omega), ← i64_xor_nat vs vt (by omega) (by omega)] at S; exact S
  have K8 : Hid (∀ W : World, Calls Try.prog 56 #[.agg #[.int .i64 m, .int .i64 P], .int .i64 (vs : Nat), .int .i64 (vk : Nat)] W fun e w' => e = .returned (.tuple #[.int .i64 (va : Nat), .int .i64 0]) ∧ Below W.heap.size W w') := Lib.hid fun W => by
    have S := implRootTimes_C m P N hF vs vk hvs (by omega) W; rw [eback] at S; exact S
  have K9 : Hid (∀ W : World, Calls Try.prog 55 #[.agg #[.int .i64 m, .int .i64 P], .int .i64 (va : Nat), .int .i64 (m : Nat)] W fun e w' => e = .returned (.tuple #[.int .i64 (va : Nat), .int .i64 0]) ∧ Below W.heap.size W w') := Lib.hid fun W => by
    have S := implSquareTimes_C m P N hF va m hva (by omega) W; rw [ewhole] at S; exact S
  have K10 : Hid (∀ W : World, Calls Try.prog 57 #[.agg #[.int .i64 m, .int .i64 P]] W fun e w' => e = .returned (.tuple #[.int .i64 (vg : Nat), .int .i64 0]) ∧ Below W.heap.size W w') := Lib.hid fun W => by
    exact implFirstPrimitive_C m P N hF vg hg0 hgn hg hgmin W
  have K11 : Hid (∀ W : World, Calls Try.prog 58 #[.agg #[.int .i64 m, .int .i64 P], .int .i64 (vg : Nat)] W fun e w' => e = .returned (.tuple #[.int .i64 ((N : Int) - 1), .int .i64 0]) ∧ Below W.heap.size W w') := Lib.hid fun W => by
    have S := implOrderIn_C m P N hF vg hgn hg0 W; rw [show ((ord P vg : Nat) : Int) = (N : Int) - 1 by rw [hg]; omega] at S; exact S
  have HG := Lib.hid (And.intro hg hgmin)
  clear eprod eboth eback ewhole hxor evx evy evz evs evt hg hgmin
  go_wp2_with fail
  refine (K1.out _).mono ?_
  rintro e w3 ⟨rfl, hb⟩
  have X3 := Lib.hid (X2.out.next hb)
  clear hb c02 c12 X2
  have c03 := X3.out.c0; have c13 := X3.out.c1
  go_wp2_with fail
  refine (K2.out _).mono ?_
  rintro e w4 ⟨rfl, hb⟩
  have X4 := Lib.hid (X3.out.next hb)
  clear hb c03 c13 X3
  have c04 := X4.out.c0; have c14 := X4.out.c1
  go_wp2_with fail
  refine (K3.out _).mono ?_
  rintro e w5 ⟨rfl, hb⟩
  have X5 := Lib.hid (X4.out.next hb)
  clear hb c04 c14 X4
  have c05 := X5.out.c0; have c15 := X5.out.c1
  go_wp2_with fail
  refine (K4.out _).mono ?_
  rintro e w6 ⟨rfl, hb⟩
  have X6 := Lib.hid (X5.out.next hb)
  clear hb c05 c15 X5
  have c06 := X6.out.c0; have c16 := X6.out.c1
  go_wp2_with fail
  refine (K5.out _).mono ?_
  rintro e w7 ⟨rfl, hb⟩
  have X7 := Lib.hid (X6.out.next hb)
  clear hb c06 c16 X6
  have c07 := X7.out.c0; have c17 := X7.out.c1
  go_wp2_with fail
  refine (K6.out _).mono ?_
  rintro e w8 ⟨rfl, hb⟩
  have X8 := Lib.hid (X7.out.next hb)
  clear hb c07 c17 X7
  have c08 := X8.out.c0; have c18 := X8.out.c1
  go_wp2_with fail
  refine (K7.out _).mono ?_
  rintro e w9 ⟨rfl, hb⟩
  have X9 := Lib.hid (X8.out.next hb)
  clear hb c08 c18 X8
  have c09 := X9.out.c0; have c19 := X9.out.c1
  go_wp2_with fail
  refine (K8.out _).mono ?_
  rintro e w10 ⟨rfl, hb⟩
  have X10 := Lib.hid (X9.out.next hb)
  clear hb c09 c19 X9
  have c010 := X10.out.c0; have c110 := X10.out.c1
  go_wp2_with fail
  refine (K9.out _).mono ?_
  rintro e w11 ⟨rfl, hb⟩
  have X11 := Lib.hid (X10.out.next hb)
  clear hb c010 c110 X10
  have c011 := X11.out.c0; have c111 := X11.out.c1
  go_wp2_with fail
  refine (K10.out _).mono ?_
  rintro e w12 ⟨rfl, hb⟩
  have X12 := Lib.hid (X11.out.next hb)
  clear hb c011 c111 X11
  have c012 := X12.out.c0; have c112 := X12.out.c1
  go_wp2_with fail
  refine (K11.out _).mono ?_
  rintro e w13 ⟨rfl, hb⟩
  have X13 := Lib.hid (X12.out.next hb)
  clear hb c012 c112 X12
  have c013 := X13.out.c0; have c113 := X13.out.c1
  by_cases h0 : va = 0
  · subst h0
    have K12 : Hid (∀ W : World, Calls Try.prog 59 #[.agg #[.int .i64 m, .int .i64 P], .int .i64 (vg : Nat), .int .i64 0] W fun e w' => e = .returned (.tuple #[.int .i64 0, .int .i64 6]) ∧ Below W.heap.size W w') := Lib.hid fun W => by
      exact implLogIn_N m P N hF vg 0 hg0 hgn (by omega) (fun j _ => pw_nz hF hgn (by omega) j) W
    go_wp2_with fail
    refine (K12.out _).mono ?_
    rintro e w14 ⟨rfl, hb⟩
    have X14 := Lib.hid (X13.out.next hb)
    clear hb c013 c113 X13
    have c014 := X14.out.c0; have c114 := X14.out.c1
    go_wp2_with fail
    go_ret
    exact ⟨rfl, X14.out.b⟩
  · obtain ⟨vl, hvl, evl, hlmin⟩ := first_of (p := fun k => pw P vg k = va) (ord P vg) (log_ex hF hg0 hgn HG.out.1 HG.out.2 (by omega) hva)
    have hln : vl < N - 1 := by rw [HG.out.1] at hvl; exact hvl
    obtain ⟨vo, evo⟩ : ∃ x, ord P va = x := ⟨_, rfl⟩
    have hvo : 0 < vo ∧ vo < N := by rw [← evo]; exact ord_lt hF (by omega) hva
    have hod : (N - 1) % vo = 0 := by rw [← evo]; exact ord_div hF (by omega) hva
    have hone : pw P va vo = 1 := by rw [← evo]; exact pw_ord hF (by omega) hva
    have K12 : Hid (∀ W : World, Calls Try.prog 59 #[.agg #[.int .i64 m, .int .i64 P], .int .i64 (vg : Nat), .int .i64 (va : Nat)] W fun e w' => e = .returned (.tuple #[.int .i64 (vl : Nat), .int .i64 0]) ∧ Below W.heap.size W w') := Lib.hid fun W => by
      exact implLogIn_L m P N hF vg va hg0 hgn hva vl hvl evl hlmin W
    have K13 : Hid (∀ W : World, Calls Try.prog 53 #[.agg #[.int .i64 m, .int .i64 P], .int .i64 (vg : Nat), .int .i64 (vl : Nat)] W fun e w' => e = .returned (.tuple #[.int .i64 (va : Nat), .int .i64 0]) ∧ Below W.heap.size W w') := Lib.hid fun W => by
      have S := implPowerIn_C m P N hF vg vl hgn (by omega) W; rw [evl] at S; exact S
    have K14 : Hid (∀ W : World, Calls Try.prog 58 #[.agg #[.int .i64 m, .int .i64 P], .int .i64 (va : Nat)] W fun e w' => e = .returned (.tuple #[.int .i64 (vo : Nat), .int .i64 0]) ∧ Below W.heap.size W w') := Lib.hid fun W => by
      have S := implOrderIn_C m P N hF va hva (by omega) W; rw [evo] at S; exact S
    have K15 : Hid (∀ W : World, Calls Try.prog 53 #[.agg #[.int .i64 m, .int .i64 P], .int .i64 (va : Nat), .int .i64 (vo : Nat)] W fun e w' => e = .returned (.tuple #[.int .i64 1, .int .i64 0]) ∧ Below W.heap.size W w') := Lib.hid fun W => by
      have S := implPowerIn_C m P N hF va vo hva (by omega) W; rw [hone] at S; exact S
    have hmod : ((N : Int) - 1) % (vo : Int) = 0 := by have : ((N : Int) - 1) = ((N - 1 : Nat) : Int) := (by omega); rw [this]; exact_mod_cast hod
    clear hvl evl hlmin evo hod hone
    have h0i : ((va : Int) != 0) = true := by simp; omega
    have h0j : ((va : Int) == 0) = false := by simp; omega
    have h0k : ¬ (va : Int) = 0 := by omega
    go_wp2_with fail
    refine (K12.out _).mono ?_
    rintro e w14 ⟨rfl, hb⟩
    have X14 := Lib.hid (X13.out.next hb)
    clear hb c013 c113 X13
    have c014 := X14.out.c0; have c114 := X14.out.c1
    go_wp2_with fail
    refine (K13.out _).mono ?_
    rintro e w15 ⟨rfl, hb⟩
    have X15 := Lib.hid (X14.out.next hb)
    clear hb c014 c114 X14
    have c015 := X15.out.c0; have c115 := X15.out.c1
    go_wp2_with fail
    refine (K14.out _).mono ?_
    rintro e w16 ⟨rfl, hb⟩
    have X16 := Lib.hid (X15.out.next hb)
    clear hb c015 c115 X15
    have c016 := X16.out.c0; have c116 := X16.out.c1
    go_wp2_with fail
    refine (K15.out _).mono ?_
    rintro e w17 ⟨rfl, hb⟩
    have X17 := Lib.hid (X16.out.next hb)
    clear hb c016 c116 X16
    have c017 := X17.out.c0; have c117 := X17.out.c1
    go_wp2_with fail
    go_ret
    exact ⟨rfl, X17.out.b⟩

set_option maxRecDepth 100000 in
theorem lifted (os : Os) (started : os.Started) (H : Type) (enc : TypeId × Value → H) :
    ReturnsInHanded {} Try.checked os 10 .any (Rows.fnPowersSpec.pre6 enc Try.prog Try.f10 Rows.fnPowersRow.domain false) (Rows.fnPowersSpec.post enc Try.prog Try.f10 false true false false) := by
  refine returnsInHanded_of_change (C := Try.checked) own started (by kernel_rfl) Try.func10
    (ChangeSpec.witness6 (enc := enc) (C := Try.checked) false ⟨#[], #[.slice none 0 0, .slice none 0 0], []⟩ 8 (by kernel_rfl) (by kernel_rfl) (by kernel_rfl) (by kernel_rfl)) ?_
  intro W base args ds gs before hval0 hW hcnd _
  have hval : ∀ (j : Nat) t v, Try.f10.params[j]? = some t → args[j]? = some v → Value.okWide Try.prog W .any base t v := hval0
  have hW' := hW
  obtain ⟨p, q, hA0, hV, rfl, hfz, hnd⟩ := hW
  have hA : DataW.TrodAll enc Try.prog W 0 (fun _ => true) true Try.f10.params.toList args.toList ds p := hA0
  rw [Try.params10] at hA hval
  obtain ⟨v0, vs0, dd0, ds0, pp0, qq0, hargs, rfl, rfl, h0, r0⟩ := trodAll_cons hA
  obtain ⟨v1, vs1, dd1, ds1, pp1, qq1, rfl, rfl, rfl, h1, r1⟩ := trodAll_cons r0
  obtain ⟨rfl, rfl, rfl⟩ := trodAll_nil r1
  obtain rfl : args = #[v0, v1] := by cases args; simp_all
  obtain ⟨rfl, rfl⟩ := trodVars_none hV
  have k0 := h0
  have lt0 : ∀ x ∈ pp0, x.block < W.heap.size := by obtain ⟨m, hm⟩ := k0; exact DataW.trod_lt m _ _ _ hm
  obtain ⟨a0, n0, cap0, rfl⟩ := okWide_slice Try.underlying72 (hval 0 72 v0 rfl rfl)
  have w0 : Bys W W.heap.size a0 n0 := by
    obtain ⟨fuel, hf⟩ := h0
    obtain ⟨A, k, c, e, w⟩ := bytes_open (v := .slice a0 n0 cap0) hf
    injection e with e1 e2 e3
    subst e1 e2 e3
    exact w
  have k1 := h1
  have lt1 : ∀ x ∈ pp1, x.block < W.heap.size := by obtain ⟨m, hm⟩ := k1; exact DataW.trod_lt m _ _ _ hm
  obtain ⟨a1, n1, cap1, rfl⟩ := okWide_slice Try.underlying72 (hval 1 72 v1 rfl rfl)
  have w1 : Bys W W.heap.size a1 n1 := by
    obtain ⟨fuel, hf⟩ := h1
    obtain ⟨A, k, c, e, w⟩ := bytes_open (v := .slice a1 n1 cap1) hf
    injection e with e1 e2 e3
    subst e1 e2 e3
    exact w
  clear hA0 hval0
  refine (walk a0 n0 cap0 a1 n1 cap1 W w0 w1).mono fun e W' ⟨he, bel⟩ => ?_
  subst he
  exact ⟨_, rfl, _, _, _, [], _, [], hW', trodAll_mk1 (shut_bool Try.underlying4 _), (trodAll_cons_mk (Below.trod laidOut (by kernel_rfl) (of_decide_eq_true (by kernel_rfl)) k0 bel lt0) (trodAll_cons_mk (Below.trod laidOut (by kernel_rfl) (of_decide_eq_true (by kernel_rfl)) k1 bel lt1) trodAll_mk0)), rfl, bel.frame _, fun h => by cases h⟩

theorem over : Rows.fnPowersRow.holds Try.pinned (OpenSpec.ofChange Rows.fnPowersSpec) :=
  OpenClaim.holds_of_wide 10 Try.f10 rfl rfl rfl rfl rfl rfl rfl ⟨rfl, rfl, rfl, rfl, rfl⟩ rfl rfl rfl rfl rfl (by kernel_rfl) Try.func10 (by kernel_rfl)
    (of_decide_eq_true (by kernel_rfl)) (by unfold Func.isWrapper; first | (rw [if_pos (by decide +kernel)]; kernel_rfl) | (rw [if_neg (by decide +kernel)]; exact ⟨rfl, rfl⟩))
    (fun os started H enc _ => lifted os started H enc)

theorem proved : Rows.FnPowersSaid :=
  over
#print axioms proved
end Go.Proofs.Ytibennpdffgomaa.fnPowers
