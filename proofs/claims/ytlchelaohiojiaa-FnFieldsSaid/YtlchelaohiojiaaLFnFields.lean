/- FnFields: for every input the law returns true, and every argument reads afterwards as it read before. No condition. -/
import Derived.Test.YtlchelaohiojiaaRows
import Derived.WalkKit
import Derived.ProofKit
import Derived.OpenShut
import Derived.ChangeOld
import Derived.Below
import Derived.Lib.SmallJoins
import Derived.Test.YtlchelaohiojiaaDraw3
import Derived.Test.YtlchelaohiojiaaFieldsOf
import Derived.Test.YtlchelaohiojiaaMul
import Derived.Test.YtlchelaohiojiaaInverseIn
import Derived.Test.YtlchelaohiojiaaCutImp
namespace Go.Proofs.Ytlchelaohiojiaa.fnFields
open Go.ChangeShapes Go.WideShapes Go.ChangeAt Go.RowKit Go.Joins
set_option linter.unusedVariables false

theorem own : ownKnob Try.prog.godebug = none := by kernel_rfl
theorem laidOut : laidOutB Try.prog = true := by kernel_rfl

/-- Whether one of the first k of a list is P. -/
def hasN (L : List Nat) (P : Nat) : Nat → Bool
  | 0 => false
  | k + 1 => hasN L P k || decide (nth L k = P)
theorem hasN_succ (L : List Nat) (P k : Nat) : hasN L P (k + 1) = (hasN L P k || decide (nth L k = P)) := rfl
theorem hasN_yes {L : List Nat} {P j : Nat} (h : nth L j = P) : ∀ k, j < k → hasN L P k = true
  | 0, h0 => by omega
  | k + 1, h0 => by
    rw [hasN_succ]
    by_cases e : j = k
    · subst e; simp [h]
    · rw [hasN_yes h k (by omega)]; rfl
theorem backF {a W V : World} (hb : Below W.heap.size W V) (h : Below a.heap.size a W) : Below a.heap.size a V := h.trans (hb.mono h.size)
theorem fOf_all (d : Nat) {P : Nat} (h1 : 2 ^ d ≤ P) (hi : irr P = true) : ∀ p, P < p → P ∈ fOf d p
  | 0, h => by omega
  | p + 1, h => by
    rw [fOf]
    by_cases e : P = p
    · subst e; rw [if_pos ⟨h1, hi⟩]; simp
    · have := fOf_all d h1 hi p (by omega)
      split
      · exact List.mem_append.2 (.inl this)
      · exact this
theorem fOf_has {m P : Nat} (h : fld m P = true) : ∃ j, j < (fOf m (2 * 2 ^ m)).length ∧ nth (fOf m (2 * 2 ^ m)) j = P := by
  have hn := fld_nb h
  have h1 := nb_le (p := P) (by have := irr_lt (fld_irr h); omega)
  have h2 := nb_lt (p := P)
  rw [hn] at h1 h2
  have hm := fOf_all m (P := P) (by simpa using h1) (fld_irr h) (2 * 2 ^ m) (by rw [Nat.pow_succ] at h2; omega)
  obtain ⟨j, hj, e⟩ := List.getElem_of_mem hm
  exact ⟨j, hj, by simp [nth, hj, e]⟩
theorem fOf_ok {m P : Nat} (h : P ∈ fOf m (2 * 2 ^ m)) : fldI (m : Int) (P : Int) = true ∧ irrI (P : Int) = true ∧ P < 64 := by
  have h1 := fOf_fld h
  have h2 := irr_lt (fld_irr h1)
  exact ⟨fldI_of h1, by simp [irrI, fld_irr h1]; omega, h2.2⟩

set_option maxRecDepth 100000 in
set_option maxHeartbeats 12800000 in
theorem walk (a0 : Option Addr) (n0 cap0 : Nat) (a1 : Option Addr) (n1 cap1 : Nat) (w : World) (h0B : Bys w w.heap.size a0 n0) (h1B : Bys w w.heap.size a1 n1) :
    Calls Try.prog 3 #[.slice a0 n0 cap0, .slice a1 n1 cap1] w fun e w' => e = .returned (.bool true) ∧ Below w.heap.size w w' := by
  have hl0 := h0B.big
  have hl1 := h1B.big
  by_cases hlong : 3000 < n0 ∨ 3000 < n1
  · have SL := a2Long_any a0 a1 n0 cap0 n1 cap1 hl0 hl1 w
    rw [show (decide (3000 < n0) || decide (3000 < n1)) = true by simpa using hlong] at SL
    have HSL := Lib.hid SL
    clear SL h0B h1B hlong
    go_enter Try.func3, Try.ntmps3
    go_wp2_with fail
    refine HSL.out.mono ?_
    rintro e w1 ⟨rfl, rfl⟩
    go_wp2_with fail
    go_ret
    exact ⟨rfl, Below.refl _ _⟩
  have SL := a2Long_any a0 a1 n0 cap0 n1 cap1 hl0 hl1 w
  rw [show (decide (3000 < n0) || decide (3000 < n1)) = false by simpa using hlong] at SL
  have HSL := Lib.hid SL
  have HD := Lib.hid (a2Field_any a0 n0 cap0 w h0B)
  have HE := Lib.hid h1B
  clear SL h0B h1B hlong
  go_enter Try.func3, Try.ntmps3
  go_wp2_with fail
  refine HSL.out.mono ?_
  rintro e w1 ⟨rfl, rfl⟩
  clear HSL
  go_wp2_with fail
  refine HD.out.mono ?_
  rintro e w1 ⟨m, P, hf, rfl, hb⟩
  have hF := Fld.of hf
  obtain ⟨N, hN⟩ : ∃ N, 2 ^ m = N := ⟨_, rfl⟩
  rw [hN] at hF
  have hsh : (2 : Int) ^ m = (N : Int) := by rw [← hN]; simp
  have hn2 := hF.n2
  have h32 := hF.n32
  have hm1 := hF.m1
  have hm5 := hF.m5
  have hP64 := hF.P64
  have X0 := Lib.hid (FX.start hb m P 25)
  have hq : w.heap.size ≤ w1.heap.size := hb.size
  have HN := Lib.hid hN
  clear hb HD hf hN
  have c00 := X0.out.c0; have c10 := X0.out.c1
  go_wp2_with fail
  refine (a2Element_any a1 n1 cap1 m P N hF 0 (by omega) _ (HE.out.at X0.out.b)).mono ?_
  rintro e w2 ⟨va, hva, rfl, hb⟩
  have X1 := Lib.hid (X0.out.next hb)
  clear hb c00 c10 X0
  have c01 := X1.out.c0; have c11 := X1.out.c1
  go_wp2_with fail
  refine (a2Element_any a1 n1 cap1 m P N hF 1 (by omega) _ (HE.out.at X1.out.b)).mono ?_
  rintro e w3 ⟨vb, hvb, rfl, hb⟩
  have X2 := Lib.hid (X1.out.next hb)
  clear hb c01 c11 X1
  have c02 := X2.out.c0; have c12 := X2.out.c1
  go_wp2_with fail
  refine (a2Element_any a1 n1 cap1 m P N hF 2 (by omega) _ (HE.out.at X2.out.b)).mono ?_
  rintro e w4 ⟨vc, hvc, rfl, hb⟩
  have X3 := Lib.hid (X2.out.next hb)
  clear hb c02 c12 X2
  have c03 := X3.out.c0; have c13 := X3.out.c1
  clear HE
  obtain ⟨vab, evab⟩ : ∃ x, mul P va vb = x := ⟨_, rfl⟩
  have hvab : vab < N := by rw [← evab]; exact hF.mul_lt _ _
  obtain ⟨vac, evac⟩ : ∃ x, mul P va vc = x := ⟨_, rfl⟩
  have hvac : vac < N := by rw [← evac]; exact hF.mul_lt _ _
  obtain ⟨vbc, evbc⟩ : ∃ x, mul P vb vc = x := ⟨_, rfl⟩
  have hvbc : vbc < N := by rw [← evbc]; exact hF.mul_lt _ _
  obtain ⟨vl, evl⟩ : ∃ x, mul P (mul P va vb) vc = x := ⟨_, rfl⟩
  have hvl : vl < N := by rw [← evl]; exact hF.mul_lt _ _
  rw [evab] at evl
  have eba : mul P vb va = vab := by rw [mul_comm' hF hvb hva, evab]
  have esum : mul P va (vb ^^^ vc) = vab ^^^ vac := by rw [mul_add' hF hvb hvc hva, evab, evac]
  have eas : mul P va vbc = vl := by rw [← evbc, ← mul_assoc' hF hva hvb hvc, evab, evl]
  have eone : mul P va 1 = va := mul_one' hF hva
  have hxor : vb ^^^ vc < N := hF.xor_lt hvb hvc
  have K1 : Hid (∀ W : World, Calls Try.prog 13 #[.agg #[.int .i64 m, .int .i64 P], .int .i64 (va : Nat), .int .i64 (vb : Nat)] W fun e w' => e = .returned (.tuple #[.int .i64 (vab : Nat), .int .i64 0]) ∧ Below W.heap.size W w') := Lib.hid fun W => by
    rw [← evab]; exact implMulIn_C m P N hF va vb hva hvb W
  have K2 : Hid (∀ W : World, Calls Try.prog 13 #[.agg #[.int .i64 m, .int .i64 P], .int .i64 (vb : Nat), .int .i64 (va : Nat)] W fun e w' => e = .returned (.tuple #[.int .i64 (vab : Nat), .int .i64 0]) ∧ Below W.heap.size W w') := Lib.hid fun W => by
    rw [← eba]; exact implMulIn_C m P N hF vb va hvb hva W
  have K3 : Hid (∀ W : World, Calls Try.prog 13 #[.agg #[.int .i64 m, .int .i64 P], .int .i64 (va : Nat), .int .i64 (vc : Nat)] W fun e w' => e = .returned (.tuple #[.int .i64 (vac : Nat), .int .i64 0]) ∧ Below W.heap.size W w') := Lib.hid fun W => by
    rw [← evac]; exact implMulIn_C m P N hF va vc hva hvc W
  have K4 : Hid (∀ W : World, Calls Try.prog 13 #[.agg #[.int .i64 m, .int .i64 P], .int .i64 (va : Nat), .int .i64 (bits .xor .i64 (vb : Nat) (vc : Nat))] W fun e w' => e = .returned (.tuple #[.int .i64 (bits .xor .i64 (vab : Nat) (vac : Nat)), .int .i64 0]) ∧ Below W.heap.size W w') := Lib.hid fun W => by
    have S := implMulIn_C m P N hF va (vb ^^^ vc) hva hxor W; rw [esum, ← i64_xor_nat vb vc (by omega) (by omega), ← i64_xor_nat vab vac (by omega) (by omega)] at S; exact S
  have K5 : Hid (∀ W : World, Calls Try.prog 13 #[.agg #[.int .i64 m, .int .i64 P], .int .i64 (vb : Nat), .int .i64 (vc : Nat)] W fun e w' => e = .returned (.tuple #[.int .i64 (vbc : Nat), .int .i64 0]) ∧ Below W.heap.size W w') := Lib.hid fun W => by
    rw [← evbc]; exact implMulIn_C m P N hF vb vc hvb hvc W
  have K6 : Hid (∀ W : World, Calls Try.prog 13 #[.agg #[.int .i64 m, .int .i64 P], .int .i64 (vab : Nat), .int .i64 (vc : Nat)] W fun e w' => e = .returned (.tuple #[.int .i64 (vl : Nat), .int .i64 0]) ∧ Below W.heap.size W w') := Lib.hid fun W => by
    rw [← evl]; exact implMulIn_C m P N hF vab vc hvab hvc W
  have K7 : Hid (∀ W : World, Calls Try.prog 13 #[.agg #[.int .i64 m, .int .i64 P], .int .i64 (va : Nat), .int .i64 (vbc : Nat)] W fun e w' => e = .returned (.tuple #[.int .i64 (vl : Nat), .int .i64 0]) ∧ Below W.heap.size W w') := Lib.hid fun W => by
    rw [← eas]; exact implMulIn_C m P N hF va vbc hva hvbc W
  have K8 : Hid (∀ W : World, Calls Try.prog 13 #[.agg #[.int .i64 m, .int .i64 P], .int .i64 (va : Nat), .int .i64 1] W fun e w' => e = .returned (.tuple #[.int .i64 (va : Nat), .int .i64 0]) ∧ Below W.heap.size W w') := Lib.hid fun W => by
    have S := implMulIn_C m P N hF va 1 hva (by omega) W; rw [eone] at S; exact S
  have HZ := Lib.hid (fun (h1 : va ≠ 0) (h2 : vb ≠ 0) => show vab ≠ 0 by rw [← evab]; exact mul_ne hF hva hvb h1 h2)
  have HF := Lib.hid hF
  clear eba esum eas eone hxor evab evac evbc evl
  go_wp2_with fail
  refine (K1.out _).mono ?_
  rintro e w4 ⟨rfl, hb⟩
  have X4 := Lib.hid (X3.out.next hb)
  clear hb c03 c13 X3
  have c04 := X4.out.c0; have c14 := X4.out.c1
  go_wp2_with fail
  refine (K2.out _).mono ?_
  rintro e w5 ⟨rfl, hb⟩
  have X5 := Lib.hid (X4.out.next hb)
  clear hb c04 c14 X4
  have c05 := X5.out.c0; have c15 := X5.out.c1
  go_wp2_with fail
  refine (K3.out _).mono ?_
  rintro e w6 ⟨rfl, hb⟩
  have X6 := Lib.hid (X5.out.next hb)
  clear hb c05 c15 X5
  have c06 := X6.out.c0; have c16 := X6.out.c1
  go_wp2_with fail
  refine (K4.out _).mono ?_
  rintro e w7 ⟨rfl, hb⟩
  have X7 := Lib.hid (X6.out.next hb)
  clear hb c06 c16 X6
  have c07 := X7.out.c0; have c17 := X7.out.c1
  go_wp2_with fail
  refine (K5.out _).mono ?_
  rintro e w8 ⟨rfl, hb⟩
  have X8 := Lib.hid (X7.out.next hb)
  clear hb c07 c17 X7
  have c08 := X8.out.c0; have c18 := X8.out.c1
  obtain ⟨vi, cd, bz, hvi, hcd, hvz⟩ : ∃ (vi cd : Int) (bz : Bool), (∀ W : World, Calls Try.prog 14 #[.agg #[.int .i64 m, .int .i64 P], .int .i64 (va : Nat)] W fun e w' => e = .returned (.tuple #[.int .i64 vi, .int .i64 cd]) ∧ Below W.heap.size W w') ∧ ((cd == 0) = bz ∧ ((va : Int) != 0) = bz) ∧ (bz = true → ∃ k : Nat, vi = k ∧ 1 ≤ k ∧ k < N ∧ mul P va k = 1) := by
    by_cases h0 : va = 0
    · subst h0; exact ⟨0, 4, false, fun W => implInverseIn_Z m P N hF W, ⟨rfl, rfl⟩, fun h => by cases h⟩
    · exact ⟨(pw P va (N - 2) : Nat), 0, true, fun W => implInverseIn_C m P N hF va hva (by omega) W, ⟨rfl, by simp; omega⟩, fun _ => ⟨_, rfl, by have := inv_ne hF h0 hva; unfold inv at this; omega, inv_lt hF va, mul_inv hF h0 hva⟩⟩
  obtain ⟨hcd, hvb0⟩ := hcd
  have K9 := Lib.hid hvi
  have HV9 := Lib.hid hvz
  have HC9 := Lib.hid (And.intro hcd hvb0)
  clear hvi hvz hcd hvb0
  go_wp2_with fail
  refine (K6.out _).mono ?_
  rintro e w9 ⟨rfl, hb⟩
  have X9 := Lib.hid (X8.out.next hb)
  clear hb c08 c18 X8
  have c09 := X9.out.c0; have c19 := X9.out.c1
  go_wp2_with fail
  refine (K7.out _).mono ?_
  rintro e w10 ⟨rfl, hb⟩
  have X10 := Lib.hid (X9.out.next hb)
  clear hb c09 c19 X9
  have c010 := X10.out.c0; have c110 := X10.out.c1
  go_wp2_with fail
  refine (K8.out _).mono ?_
  rintro e w11 ⟨rfl, hb⟩
  have X11 := Lib.hid (X10.out.next hb)
  clear hb c010 c110 X10
  have c011 := X11.out.c0; have c111 := X11.out.c1
  go_upto_region 18 with fail
  go_cut [190] (fun q wx => q = .bool false ∧ FX w w1.heap.size m P wx)
  case first => as_aux_lemma =>
    by_cases h0 : va = 0
    · subst h0
      go_wp2_with fail
      go_meet
      exact ⟨rfl, X11.out⟩
    · by_cases h1 : vb = 0
      · subst h1
        have g0 : ((va : Int) != 0) = true := by simp; omega
        go_wp2_with fail
        go_meet
        exact ⟨rfl, X11.out⟩
      · have h2 := HZ.out h0 h1
        have g0 : ((va : Int) != 0) = true := by simp; omega
        have g1 : ((vb : Int) != 0) = true := by simp; omega
        have g2 : ((vab : Int) == 0) = false := by simp; omega
        go_wp2_with fail
        go_meet
        exact ⟨rfl, X11.out⟩
  case rest => as_aux_lemma =>
    obtain ⟨W5, rfl⟩ : ∃ x, x = wc := ⟨wc, rfl⟩
    obtain ⟨rfl, hX5⟩ := hcut
    have X12 := Lib.hid hX5
    clear hX5 X11 c011 c111
    have c012 := X12.out.c0; have c112 := X12.out.c1
    go_wp2_with fail
    refine (K9.out _).mono ?_
    rintro e w13 ⟨rfl, hb⟩
    have X13 := Lib.hid (X12.out.next hb)
    clear hb c012 c112 X12
    have c013 := X13.out.c0; have c113 := X13.out.c1
    obtain ⟨hcd, hvb0⟩ := HC9.out
    go_upto_if 203 with fail
    go_cut [28, 29] (fun x t wx => FX w w1.heap.size m P wx)
    case first => as_aux_lemma =>
      by_cases hbz : bz = true
      rotate_left
      · have hbf : bz = false := by simpa using hbz
        subst hbf
        go_wp2_with fail
        go_meet
        exact X13.out
      · obtain ⟨j, hvj, hj1, hjN, hj⟩ := HV9.out hbz
        have K10 : Hid (∀ W : World, Calls Try.prog 13 #[.agg #[.int .i64 m, .int .i64 P], .int .i64 (va : Nat), .int .i64 vi] W fun e w' => e = .returned (.tuple #[.int .i64 1, .int .i64 0]) ∧ Below W.heap.size W w') := Lib.hid fun W => by
          have S := implMulIn_C m P N HF.out va j hva hjN W; rw [hj, ← hvj] at S; exact S
        have hj2 : ¬ vi < 1 := by omega
        have hj3 : ¬ (N : Int) ≤ vi := by omega
        clear hj hvj
        subst hbz
        go_wp2_with fail
        refine (K10.out _).mono ?_
        rintro e wi ⟨rfl, hb⟩
        have XI := Lib.hid (X13.out.next hb)
        clear hb c013 c113
        go_wp2_with fail
        go_meet
        exact XI.out
    case rest => as_aux_lemma =>
      obtain ⟨W6, rfl⟩ : ∃ x, x = wc := ⟨wc, rfl⟩
      have X14 := Lib.hid hcut
      clear hcut X13 c013 c113 hcd hvb0 HC9 HV9 K9
      have c014 := X14.out.c0; have c114 := X14.out.c1
      obtain ⟨L, hL⟩ : ∃ L, fOf m (2 * 2 ^ m) = L := ⟨_, rfl⟩
      have hfs : fFieldsOf m = (L, 0) := by rw [fFieldsOf, if_pos (by omega), Int.toNat_natCast, hL]
      have hf1 : fFieldOf m = ((m : Int), ((nth L 0 : Nat) : Int), 0) := by rw [fFieldOf, if_pos (by omega), Int.toNat_natCast, hL]
      have hmem : ∃ j, j < L.length ∧ nth L j = P := by rw [← hL]; exact fOf_has HF.out.f
      have hall : ∀ j, j < L.length → fldI (m : Int) ((nth L j : Nat) : Int) = true ∧ irrI ((nth L j : Nat) : Int) = true ∧ nth L j < 64 := by intro j hj; rw [← hL] at hj ⊢; exact fOf_ok (nth_mem hj)
      have hlen : L.length ≤ 64 := by have := fFieldsOf_len (m : Int); rw [hfs] at this; exact this
      have KF : Hid (∀ W : World, Calls Try.prog 15 #[.int .i64 m] W fun e w' => ∃ v, e = .returned (.tuple #[v, .int .i64 0]) ∧ Below W.heap.size W w' ∧ FR w' W.heap.size v L.length (fun _ => m) (fun j => (nth L j : Nat))) := Lib.hid fun W => by
        have S := implFieldsOf_any m W; rw [hfs] at S; exact S
      have KG : Hid (∀ W : World, Calls Try.prog 16 #[.int .i64 m] W fun e w' => e = .returned (.tuple #[.agg #[.int .i64 m, .int .i64 (nth L 0 : Nat)], .int .i64 0]) ∧ Below W.heap.size W w') := Lib.hid fun W => by
        have S := implFieldOf_any m W; rw [hf1] at S; exact S
      have HM := Lib.hid hmem
      have HA := Lib.hid hall
      have hn0 : 0 < L.length := by obtain ⟨j, hj, _⟩ := hmem; omega
      clear hfs hf1 hmem hall hL
      go_wp2_with fail
      refine (KF.out _).mono ?_
      rintro e wf ⟨vf, rfl, hb, hFR⟩
      obtain ⟨A, cap, rfl, hFS⟩ := hFR.is
      obtain ⟨g, rfl, _, hg, hcl⟩ := hFS hn0
      have X15 := Lib.hid (X14.out.next hb)
      clear hb c014 c114 X14 hFR hFS
      have c015 := X15.out.c0; have c115 := X15.out.c1
      have LS : Hid (∀ W, Below wf.heap.size wf W → ∀ j, j < L.length → W.cell? ⟨g, j * 2, none⟩ = some (.int .i64 m) ∧ W.cell? ⟨g, j * 2 + 1, none⟩ = some (.int .i64 (nth L j : Nat))) := Lib.hid fun W hb j hj => ⟨(hb.cell (p := ⟨g, j * 2, none⟩) hg).trans (hcl j hj).1.1, (hb.cell (p := ⟨g, j * 2 + 1, none⟩) hg).trans (hcl j hj).1.2⟩
      clear hcl
      go_wp2_with fail
      refine (KG.out _).mono ?_
      rintro e wg ⟨rfl, hb⟩
      generalize hq : nth L 0 = q0
      have HQ0 := Lib.hid hq
      clear hq
      have X16 := Lib.hid ((X15.out.next hb).next (below_alloc1 wg (.cells #[.int .i64 m, .int .i64 (q0 : Nat)] 25)))
      have B1 := Lib.hid (hb.trans ((below_alloc1 wg (.cells #[.int .i64 m, .int .i64 (q0 : Nat)] 25)).mono hb.size))
      have BX := (LF.start wg [.int .i64 m, .int .i64 (q0 : Nat)] 25).b
      obtain ⟨Φ, hΦ⟩ : ∃ Φ : World → Prop, Φ = fun W => FX w w1.heap.size m P W ∧ Below wf.heap.size wf W ∧ LB W wg.heap.size [.int .i64 m, .int .i64 (q0 : Nat)] := ⟨_, rfl⟩
      have F0 : Hid (Φ (wg.alloc (.cells #[.int .i64 m, .int .i64 (q0 : Nat)] 25))) := Lib.hid (by rw [hΦ]; exact ⟨X16.out, B1.out, BX⟩)
      have CX : Hid (∀ W, Φ W → W.cell? ⟨w1.heap.size, 0, none⟩ = some (.int .i64 m) ∧ W.cell? ⟨w1.heap.size, 1, none⟩ = some (.int .i64 P)) := Lib.hid fun W h => by rw [hΦ] at h; exact ⟨h.1.c0, h.1.c1⟩
      have CQ : Hid (∀ W, Φ W → W.cell? ⟨wg.heap.size, 0, none⟩ = some (.int .i64 m) ∧ W.cell? ⟨wg.heap.size, 1, none⟩ = some (.int .i64 (q0 : Nat))) := Lib.hid fun W h => by rw [hΦ] at h; exact ⟨h.2.2.cell 0 _ rfl, h.2.2.cell 1 _ rfl⟩
      have CB : Hid (∀ W, Φ W → Below w.heap.size w W) := Lib.hid fun W h => by rw [hΦ] at h; exact h.1.b
      have CL : Hid (∀ W, Φ W → ∀ j, j < L.length → W.cell? ⟨g, j * 2, none⟩ = some (.int .i64 m) ∧ W.cell? ⟨g, j * 2 + 1, none⟩ = some (.int .i64 (nth L j : Nat))) := Lib.hid fun W h => by rw [hΦ] at h; exact LS.out W h.2.1
      have SP : Hid (∀ W W', Φ W → Below W.heap.size W W' → Φ W') := Lib.hid fun W W' h hb => by
        rw [hΦ] at h ⊢
        exact ⟨h.1.next hb, h.2.1.trans (hb.mono h.2.1.size), h.2.2.next hb⟩
      have SD : Hid (∀ W k, Φ W → Φ (W.drewN k)) := Lib.hid fun W k h => SP.out _ _ h (below_draws _ _ _)
      clear hΦ X15 X16 c015 c115 LS B1 BX hb hg
      go_wp2_with fail
      go_loopw [34, 35] (fun f i wr => ∃ t : Nat, t ≤ L.length ∧ i = .int .i64 t ∧ f = .bool (hasN L P t) ∧ Φ wr) (fun _ i _ => L.length - (intOf i).toNat)
      case atStart => exact ⟨0, Nat.zero_le _, rfl, rfl, F0.out⟩
      case round => as_aux_lemma =>
        obtain ⟨t, ht, rfl, rfl, hΦt⟩ := hrel
        clear F0
        by_cases hlt : t < L.length
        · obtain ⟨d0, d1⟩ := CL.out _ hΦt t hlt
          obtain ⟨c0, c1⟩ := CX.out _ hΦt
          obtain ⟨x1, x2, x3⟩ := HA.out t hlt
          have hx := hasN_succ L P t
          obtain ⟨x, hxt⟩ : ∃ x, nth L t = x := ⟨_, rfl⟩
          rw [hxt] at d1 x1 x2 x3 hx
          have HXT := Lib.hid hxt
          clear hxt
          have HX := Lib.hid hx
          have HΦt := Lib.hid hΦt
          have KV : Hid (∀ W : World, Calls Try.prog 17 #[.agg #[.int .i64 m, .int .i64 (x : Nat)]] W fun e w' => e = .returned (.bool true) ∧ Below W.heap.size W w') := Lib.hid fun W => by have S := validField_any (m : Int) (x : Nat) (by omega) (by omega) W; rw [x1] at S; exact S
          have KI : Hid (∀ W : World, Calls Try.prog 18 #[.int .i64 (x : Nat)] W fun e w' => e = .returned (.bool true) ∧ Below W.heap.size W w') := Lib.hid fun W => by have S := isIrreducible_any ((x : Nat) : Int) (by omega) (by omega) W; rw [x2] at S; exact S
          have CS : Hid (∀ W : World, Below wr.heap.size wr W → W.cell? ⟨g, t * 2, none⟩ = some (.int .i64 m) ∧ W.cell? ⟨g, t * 2 + 1, none⟩ = some (.int .i64 (x : Nat)) ∧ W.cell? ⟨w1.heap.size, 0, none⟩ = some (.int .i64 m) ∧ Below wr.heap.size wr W) := Lib.hid fun W hb => ⟨((CL.out _ (SP.out _ _ HΦt.out hb) t (by omega)).1), by have := (CL.out _ (SP.out _ _ HΦt.out hb) t (by omega)).2; rw [HXT.out] at this; exact this, (CX.out _ (SP.out _ _ HΦt.out hb)).1, hb⟩
          clear hΦt hx x1 x2
          go_upto_region 35 with fail
          go_cut [34] from 236 to 275 (fun f wx => f = .bool (hasN L P (t + 1)) ∧ ∃ q, wx = wr.drewN q)
          case first => as_aux_lemma =>
            cases hf : hasN L P t with
            | true =>
              rw [hf] at HX
              go_quiet (fail)
              go_wp2_with fail
              go_meet
              exact ⟨by rw [HX.out]; first | rfl | (simp; done) | (simp; omega), nq, rfl⟩
            | false =>
              rw [hf] at HX
              by_cases hxp : x = P
              · subst hxp
                go_quiet (fail)
                go_wp2_with fail
                go_meet
                exact ⟨by rw [HX.out]; first | rfl | (simp; done) | (simp; omega), nq, rfl⟩
              · have hxi : ¬ (x : Int) = (P : Int) := by omega
                go_quiet (fail)
                go_wp2_with fail
                go_meet
                exact ⟨by rw [HX.out]; first | rfl | (simp; done) | (simp; omega), nq, rfl⟩
          case rest => as_aux_lemma =>
            obtain ⟨W7, rfl⟩ : ∃ x, x = wc := ⟨wc, rfl⟩
            obtain ⟨rfl, nq, rfl⟩ := hcut
            have hD : Below wr.heap.size wr (wr.drewN nq).drew := (below_drewN (Below.refl _ wr) nq).drew
            have hD1 : Below wr.heap.size wr (wr.drewN (nq + 1)) := below_drewN (Below.refl _ wr) (nq + 1)
            go_wp2_with fail
            go_region_held3 (fun w' => w'.cell? ⟨g, t * 2, none⟩ = some (.int .i64 m) ∧ w'.cell? ⟨g, t * 2 + 1, none⟩ = some (.int .i64 (x : Nat)) ∧ w'.cell? ⟨w1.heap.size, 0, none⟩ = some (.int .i64 m) ∧ Below wr.heap.size wr w') (first | exact CS.out _ (below_draws wr _ _) | exact CS.out _ (by assumption)) (first | (go_at_call 17; with_reducible refine (KV.out _).mono ?_; rintro e wa ⟨rfl, hr⟩; have GA : Below wr.heap.size wr wa := backF hr (by first | exact hD1 | exact hD | assumption); clear hr) | (go_at_call 18; with_reducible refine (KI.out _).mono ?_; rintro e wb ⟨rfl, hr⟩; have GB : Below wr.heap.size wr wb := backF hr (by assumption); clear hr))
            go_wp2_with fail
            go_roundw
            case rel => exact ⟨t + 1, by omega, by go_num, rfl, SP.out _ _ HΦt.out GB⟩
            case measure => simp [intOf]; omega
        · obtain rfl : t = L.length := by omega
          obtain ⟨j, hj, hjP⟩ := HM.out
          rw [hasN_yes hjP L.length hj]
          obtain ⟨d0, d1⟩ := CL.out _ hΦt 0 hn0
          rw [HQ0.out] at d1
          rw [Nat.zero_mul] at d0 d1
          rw [Nat.zero_add] at d1
          obtain ⟨q0c, q1c⟩ := CQ.out _ hΦt
          have HΦt := Lib.hid hΦt
          have hLi : (0 : Int) < (L.length : Int) := by omega
          clear hΦt hjP hj
          go_wp2_with fail
          go_quiet (fail)
          go_wp2_with fail
          go_ret
          exact ⟨rfl, CB.out _ (SD.out _ _ HΦt.out)⟩

set_option maxRecDepth 100000 in
theorem lifted (os : Os) (started : os.Started) (H : Type) (enc : TypeId × Value → H) :
    ReturnsInHanded {} Try.checked os 3 .any (Rows.fnFieldsSpec.pre6 enc Try.prog Try.f3 Rows.fnFieldsRow.domain false) (Rows.fnFieldsSpec.post enc Try.prog Try.f3 false true false false) := by
  refine returnsInHanded_of_change (C := Try.checked) own started (by kernel_rfl) Try.func3
    (ChangeSpec.witness6 (enc := enc) (C := Try.checked) false ⟨#[], #[.slice none 0 0, .slice none 0 0], []⟩ 8 (by kernel_rfl) (by kernel_rfl) (by kernel_rfl) (by kernel_rfl)) ?_
  intro W base args ds gs before hval0 hW hcnd _
  have hval : ∀ (j : Nat) t v, Try.f3.params[j]? = some t → args[j]? = some v → Value.okWide Try.prog W .any base t v := hval0
  have hW' := hW
  obtain ⟨p, q, hA0, hV, rfl, hfz, hnd⟩ := hW
  have hA : DataW.TrodAll enc Try.prog W 0 (fun _ => true) true Try.f3.params.toList args.toList ds p := hA0
  rw [Try.params3] at hA hval
  obtain ⟨v0, vs0, dd0, ds0, pp0, qq0, hargs, rfl, rfl, h0, r0⟩ := trodAll_cons hA
  obtain ⟨v1, vs1, dd1, ds1, pp1, qq1, rfl, rfl, rfl, h1, r1⟩ := trodAll_cons r0
  obtain ⟨rfl, rfl, rfl⟩ := trodAll_nil r1
  obtain rfl : args = #[v0, v1] := by cases args; simp_all
  obtain ⟨rfl, rfl⟩ := trodVars_none hV
  have k0 := h0
  have lt0 : ∀ x ∈ pp0, x.block < W.heap.size := by obtain ⟨m, hm⟩ := k0; exact DataW.trod_lt m _ _ _ hm
  obtain ⟨a0, n0, cap0, rfl⟩ := okWide_slice Try.underlying22 (hval 0 22 v0 rfl rfl)
  have w0 : Bys W W.heap.size a0 n0 := by
    obtain ⟨fuel, hf⟩ := h0
    obtain ⟨A, k, c, e, w⟩ := bytes_open (v := .slice a0 n0 cap0) hf
    injection e with e1 e2 e3
    subst e1 e2 e3
    exact w
  have k1 := h1
  have lt1 : ∀ x ∈ pp1, x.block < W.heap.size := by obtain ⟨m, hm⟩ := k1; exact DataW.trod_lt m _ _ _ hm
  obtain ⟨a1, n1, cap1, rfl⟩ := okWide_slice Try.underlying22 (hval 1 22 v1 rfl rfl)
  have w1 : Bys W W.heap.size a1 n1 := by
    obtain ⟨fuel, hf⟩ := h1
    obtain ⟨A, k, c, e, w⟩ := bytes_open (v := .slice a1 n1 cap1) hf
    injection e with e1 e2 e3
    subst e1 e2 e3
    exact w
  clear hA0 hval0
  refine (walk a0 n0 cap0 a1 n1 cap1 W w0 w1).mono fun e W' ⟨he, bel⟩ => ?_
  subst he
  exact ⟨_, rfl, _, _, _, [], _, [], hW', trodAll_mk1 (shut_bool Try.underlying4 _), (trodAll_cons_mk (Below.trod laidOut (by kernel_rfl) (of_decide_eq_true (by kernel_rfl)) k0 bel lt0) (trodAll_cons_mk (Below.trod laidOut (by kernel_rfl) (of_decide_eq_true (by kernel_rfl)) k1 bel lt1) trodAll_mk0)), rfl, bel.frame _, fun h => by cases h⟩

theorem over : Rows.fnFieldsRow.holds Try.pinned (OpenSpec.ofChange Rows.fnFieldsSpec) :=
  OpenClaim.holds_of_wide 3 Try.f3 rfl rfl rfl rfl rfl rfl rfl ⟨rfl, rfl, rfl, rfl, rfl⟩ rfl rfl rfl rfl rfl (by kernel_rfl) Try.func3 (by kernel_rfl)
    (of_decide_eq_true (by kernel_rfl)) (by unfold Func.isWrapper; first | (rw [if_pos (by decide +kernel)]; kernel_rfl) | (rw [if_neg (by decide +kernel)]; exact ⟨rfl, rfl⟩))
    (fun os started H enc _ => lifted os started H enc)

theorem proved : Rows.FnFieldsSaid :=
  over
#print axioms proved
end Go.Proofs.Ytlchelaohiojiaa.fnFields
