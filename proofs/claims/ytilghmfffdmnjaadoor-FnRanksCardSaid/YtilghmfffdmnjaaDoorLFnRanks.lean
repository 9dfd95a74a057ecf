/- FnRanks: for every input the law returns true, and every argument reads afterwards as it read before. No condition. -/
import Derived.Test.YtilghmfffdmnjaaDoorRows
import Derived.WalkKit
import Derived.ProofKit
import Derived.OpenShut
import Derived.ChangeOld
import Derived.Below
import Derived.Lib.SmallJoins
import Derived.Test.YtilghmfffdmnjaaDoorHeld2
import Derived.Test.YtilghmfffdmnjaaDoorDrawA
import Derived.Test.YtilghmfffdmnjaaDoorDim2
import Derived.Test.YtilghmfffdmnjaaDoorRankOf
import Derived.Test.YtilghmfffdmnjaaDoorEchelonOf
import Derived.Test.YtilghmfffdmnjaaDoorSpaceOf
import Derived.Test.YtilghmfffdmnjaaDoorTurnMatrix
import Derived.Test.YtilghmfffdmnjaaDoorMulMatrices
import Derived.Test.YtilghmfffdmnjaaDoorAddMatrices
import Derived.Test.YtilghmfffdmnjaaDoorSolveRows
import Derived.Test.YtilghmfffdmnjaaDoorSame
import Derived.Test.YtilghmfffdmnjaaDoorIsSpace
import Derived.Test.YtilghmfffdmnjaaDoorLaid
import Derived.Test.YtilghmfffdmnjaaDoorTie
import Derived.Test.YtilghmfffdmnjaaDoorCards
import Derived.SevenTiedAt
namespace Go.Proofs.YtilghmfffdmnjaaDoor.fnRanks
open Go.ChangeShapes Go.WideShapes Go.ChangeAt Go.RowKit Go.Joins
set_option linter.unusedVariables false

theorem own : ownKnob Tryd.prog.godebug = none := by kernel_rfl
theorem laidOut : laidOutB Tryd.prog = true := by kernel_rfl

set_option linter.unusedSimpArgs false
theorem fSolve_sp {C : Nat} {L : List Nat} (hO : OkM C L) {x : Nat} (hx : x < 2 ^ C) (h : Sp L x) : ∃ k, k < 2 ^ L.length ∧ tms k L L.length = x ∧ fSolveRows C (ints L) (x : Int) = ((k : Int), 0) := by
  obtain ⟨k, h1, h2, h3⟩ := sp_least h
  exact ⟨k, h1, h2, fSolve_some hO ⟨by omega, by exact_mod_cast hx⟩ h1 (fun j hj e => h3 j hj (by exact_mod_cast e)) (by rw [h2])⟩
theorem fSolve_nsp {C : Nat} {L : List Nat} (hO : OkM C L) {x : Nat} (hx : x < 2 ^ C) (h : ¬ Sp L x) : fSolveRows C (ints L) (x : Int) = (0, 6) :=
  fSolve_none hO ⟨by omega, by exact_mod_cast hx⟩ fun j hj e => h (by have e2 : tms j L L.length = x := by exact_mod_cast e
                                                                      rw [← e2]; exact tms_sp _ _ _)
theorem map_nth (f : Nat → Nat) (L : List Nat) : ((List.range L.length).map fun i => f (nth L i)) = L.map f := by
  refine List.ext_getElem (by simp) fun j h1 h2 => ?_
  have hj : j < L.length := by simpa using h2
  simp [nth, hj]
theorem mulL_dm (L B : List Nat) : dm (mulL L B L.length) ≤ dm L ∧ dm (mulL L B L.length) ≤ dm B := by
  have e : mulL L B L.length = L.map (fun r => tms r B B.length) := map_nth (fun r => tms r B B.length) L
  refine ⟨by rw [e]; exact dm_image (f := fun r => tms r B B.length) (fun x y => tms_xor B x y _) L, dm_le _ _ fun x hx => Sp.sub (fun r hr => ?_) hx⟩
  rw [e] at hr
  obtain ⟨s, _, rfl⟩ := List.mem_map.1 hr
  exact tms_sp _ _ _
theorem addL_dm {L B : List Nat} (hl : L.length = B.length) : dm (addL L B L.length) ≤ dm L + dm B := by
  refine Nat.le_trans (dm_le _ (L ++ B) fun x hx => Sp.sub (fun r hr => ?_) hx) (dm_app L B)
  obtain ⟨i, hi, rfl⟩ := List.mem_map.1 hr
  have hi' := List.mem_range.1 hi
  exact Sp.xor (Sp.mem (List.mem_append_left _ (nth_mem hi'))) (Sp.mem (List.mem_append_right _ (nth_mem (by omega))))
theorem mulL_lt' {C : Nat} {L B : List Nat} (hB : ∀ r ∈ B, r < 2 ^ C) (k : Nat) : ∀ r ∈ mulL L B k, r < 2 ^ C := by
  intro r hr
  obtain ⟨i, _, rfl⟩ := List.mem_map.1 hr
  exact tms_lt (nth_bound hB) _ _
theorem addL_lt' {C : Nat} {L B : List Nat} (hL : ∀ r ∈ L, r < 2 ^ C) (hB : ∀ r ∈ B, r < 2 ^ C) (k : Nat) : ∀ r ∈ addL L B k, r < 2 ^ C := by
  intro r hr
  obtain ⟨i, _, rfl⟩ := List.mem_map.1 hr
  exact Nat.xor_lt_two_pow (nth_bound hL i) (nth_bound hB i)

set_option maxRecDepth 100000 in
set_option maxHeartbeats 12800000 in
theorem walk (a0 : Option Addr) (n0 cap0 : Nat) (a1 : Option Addr) (n1 cap1 : Nat) (w : World) (hT : Tab w) (h0B : Bys w w.heap.size a0 n0) (h1B : Bys w w.heap.size a1 n1) :
    Calls Tryd.prog 7 #[.slice a0 n0 cap0, .slice a1 n1 cap1] w fun e w' => e = .returned (.bool true) ∧ Below w.heap.size w w' := by
  have hl0 := h0B.big; have hl1 := h1B.big
  by_cases hlong : 3000 < n0 ∨ 3000 < n1
  · have SL := a2Long_any a0 a1 n0 cap0 n1 cap1 hl0 hl1 w
    rw [show (decide (3000 < n0) || decide (3000 < n1)) = true by simpa using hlong] at SL
    have HSL := Lib.hid SL
    clear SL h0B h1B hlong
    go_enter Tryd.func7, Tryd.ntmps7
    go_wp2_with fail
    refine HSL.out.mono ?_
    rintro e w1 ⟨rfl, rfl⟩
    go_wp2_with fail
    go_ret
    exact ⟨rfl, Below.refl _ _⟩
  have SL := a2Long_any a0 a1 n0 cap0 n1 cap1 hl0 hl1 w
  rw [show (decide (3000 < n0) || decide (3000 < n1)) = false by simpa using hlong] at SL
  have HSL := Lib.hid SL
  have HE0 := Lib.hid h0B; have HE1 := Lib.hid h1B; have HT0 := Lib.hid hT
  clear SL h0B h1B hlong hT
  go_enter Tryd.func7, Tryd.ntmps7
  go_wp2_with fail
  refine HSL.out.mono ?_
  rintro e w1 ⟨rfl, rfl⟩
  clear HSL
  go_wp2_with fail
  have B0 := Lib.hid (Below.refl w.heap.size w); have T0 := Lib.hid HT0.out
  have HTW := Lib.hid HT0.out
  obtain ⟨i0, hi, hz0, hz1, hz2⟩ := info_parts Tryd.infoI
  obtain ⟨aa1, haa⟩ : ∃ x, x = a1 := ⟨_, rfl⟩
  subst haa
  refine (a2At_any _ aa1 n1 cap1 0 5 (by omega) (by omega) (by omega) _ HE1.out).mono ?_
  rintro e w1 ⟨vc, hvc, rfl, rfl⟩
  obtain ⟨C, hC⟩ : ∃ C, 1 + vc = C := ⟨_, rfl⟩
  have hC1 : 1 ≤ C := by omega
  have hC6 : C ≤ 5 := by omega
  have hCi : (1 : Int) + (vc : Int) = (C : Int) := by omega
  clear hC
  obtain ⟨N, hN⟩ : ∃ N, 2 ^ C = N := ⟨_, rfl⟩
  have hN64 : N ≤ 64 := by rw [← hN]; exact Nat.pow_le_pow_right (n := 2) (by omega) (show C ≤ 6 by omega)
  have hN1 : 1 ≤ N := by rw [← hN]; exact Nat.two_pow_pos C
  have hsh : (2 : Int) ^ C = (N : Int) := by rw [← hN]; simp
  have eu : (IntKind.u64.wrap (C : Int)).toNat = C := by rw [IntKind.wrap_u64]; omega
  have em : min C 64 = C := by omega
  have HN := Lib.hid hN; clear hN
  go_wp2_with fail
  refine (a2Matrix_any a0 n0 cap0 C hC1 (by omega) 5 (by omega) _ HE0.out).mono ?_
  rintro e w1 ⟨L, v, hL5, hLt, rfl, hR, hb⟩
  obtain ⟨Aa, na, pa, rfl, hRa⟩ := hR.rd
  have Hla := Lib.hid hRa.len
  rw [ints_length] at Hla
  have hba := below_alloc1 w1 (.cells #[.int .i64 C, .slice Aa na pa] 50)
  have hbt := (hb).trans (hba.mono (hb).size)
  have Sa := Lib.hid (SpR.new hRa C pa 50)
  have B1 := Lib.hid (B0.out.trans ((hbt).mono B0.out.size)); have T1 := Lib.hid (T0.out.below (hbt))
  clear B0 T0
  have c0a := Sa.out.m.c0; have c1a := Sa.out.m.c1
  clear hba hbt hb
  clear hR hRa HT0
  have hO : OkM C L := ⟨hC1, by omega, by omega, hLt⟩
  obtain ⟨E, hE⟩ : ∃ E, joined [] L = E := ⟨_, rfl⟩
  have hsp : ∀ x, Sp E x ↔ Sp L x := by rw [← hE]; exact (joined_nil L).2
  have hsj : Spc C E := by rw [← hE]; exact .of (joined_lt' hLt) (joined_nil L).1
  have hel : E.length ≤ L.length := by rw [← hE]; exact dm_len L
  have hOe : OkM C E := ⟨hC1, by omega, by omega, hsj.lt⟩
  obtain ⟨r, hr⟩ : ∃ r, E.length = r := ⟨_, rfl⟩
  have hdm : dm L = r := by rw [← hr, ← hE]; rfl
  have K1 : Hid (∀ W : World, Rd W W.heap.size Aa na (ints L) → Tab W → Calls Tryd.prog 32 #[.agg #[.int .i64 C, .slice Aa na pa]] W fun e w' => e = .returned (.tuple #[.int .i64 (r : Nat), .int .i64 0]) ∧ Below W.heap.size W w') := Lib.hid fun W ha hT => by
    have S := implRankOf_anyR C Aa na pa (ints L) W ha hT; rw [fRank_yes hO, hE, hr] at S; exact S
  have K2 : Hid (∀ W : World, Rd W W.heap.size Aa na (ints L) → Tab W → Calls Tryd.prog 42 #[.agg #[.int .i64 C, .slice Aa na pa]] W fun e w' => ∃ v, e = .returned (.tuple #[.agg #[.int .i64 C, v], .int .i64 0]) ∧ Below W.heap.size W w' ∧ Res w' W.heap.size w'.heap.size v (ints E)) := Lib.hid fun W ha hT => by
    have S := implEchelonOf_anyR C Aa na pa (ints L) W ha hT; rw [fEchelonOf, mk1_yes hO, hE] at S; exact S
  have K3 : Hid (∀ W : World, Rd W W.heap.size Aa na (ints L) → Tab W → Calls Tryd.prog 40 #[.agg #[.int .i64 C, .slice Aa na pa]] W fun e w' => ∃ v, e = .returned (.tuple #[.agg #[.int .i64 C, v], .int .i64 0]) ∧ Below W.heap.size W w' ∧ Res w' W.heap.size w'.heap.size v (ints E)) := Lib.hid fun W ha hT => by
    have S := implSpaceOf_anyR C Aa na pa (ints L) W ha hT; rw [fSpaceOf, fEchelonOf, mk1_yes hO, hE] at S; exact S
  have HO := Lib.hid hO; have HOe := Lib.hid hOe; have HSJ := Lib.hid hsj; have HSP := Lib.hid hsp; have HEL := Lib.hid hel; have HR := Lib.hid hr; have HDM := Lib.hid hdm; have HLt := Lib.hid hLt; have HL5 := Lib.hid hL5
  clear hO hOe hsj hsp hel hr hdm hLt hE hL5
  go_wp2_with fail
  refine (K1.out _ Sa.out.r T1.out).mono ?_
  rintro e w3 ⟨rfl, hb⟩
  have B2 := Lib.hid (B1.out.trans ((hb).mono B1.out.size)); have T2 := Lib.hid (T1.out.below (hb))
  have Sa' := Lib.hid (Sa.out.below (hb))
  clear Sa c0a c1a
  have Sa := Lib.hid Sa'.out; clear Sa'
  have c0a := Sa.out.m.c0; have c1a := Sa.out.m.c1
  clear B1 T1
  clear hb
  go_wp2_with fail
  refine (K2.out _ Sa.out.r T2.out).mono ?_
  rintro e w4 ⟨v, rfl, hb, hR⟩
  obtain ⟨Ae, ne, pe, rfl, hRe⟩ := hR.rd
  have Hle := Lib.hid hRe.len
  rw [ints_length] at Hle
  have hba := below_alloc1 w4 (.cells #[.int .i64 C, .slice Ae ne pe] 50)
  have hbt := (hb).trans (hba.mono (hb).size)
  have Se := Lib.hid (SpR.new hRe C pe 50)
  have B3 := Lib.hid (B2.out.trans ((hbt).mono B2.out.size)); have T3 := Lib.hid (T2.out.below (hbt))
  have Sa' := Lib.hid (Sa.out.below (hbt))
  clear Sa c0a c1a
  have Sa := Lib.hid Sa'.out; clear Sa'
  have c0a := Sa.out.m.c0; have c1a := Sa.out.m.c1
  clear B2 T2
  have c0e := Se.out.m.c0; have c1e := Se.out.m.c1
  clear hba hbt hb
  clear hR hRe
  go_wp2_with fail
  refine (K3.out _ Sa.out.r T3.out).mono ?_
  rintro e w5 ⟨v, rfl, hb, hR⟩
  obtain ⟨As, ns, ps, rfl, hRs⟩ := hR.rd
  have Hls := Lib.hid hRs.len
  rw [ints_length] at Hls
  have hba := below_alloc1 w5 (.cells #[.int .i64 C, .slice As ns ps] 50)
  have hbt := (hb).trans (hba.mono (hb).size)
  have Ss := Lib.hid (SpR.new hRs C ps 50)
  have B4 := Lib.hid (B3.out.trans ((hbt).mono B3.out.size)); have T4 := Lib.hid (T3.out.below (hbt))
  have Sa' := Lib.hid (Sa.out.below (hbt))
  clear Sa c0a c1a
  have Sa := Lib.hid Sa'.out; clear Sa'
  have c0a := Sa.out.m.c0; have c1a := Sa.out.m.c1
  have Se' := Lib.hid (Se.out.below (hbt))
  clear Se c0e c1e
  have Se := Lib.hid Se'.out; clear Se'
  have c0e := Se.out.m.c0; have c1e := Se.out.m.c1
  clear B3 T3
  have c0s := Ss.out.m.c0; have c1s := Ss.out.m.c1
  clear hba hbt hb
  clear hR hRs
  clear K1 K2 K3
  have K4 : Hid (∀ W : World, Rd W W.heap.size Ae ne (ints E) → Tab W → Calls Tryd.prog 43 #[.agg #[.int .i64 C, .slice Ae ne pe]] W fun e w' => e = .returned (.bool true) ∧ Below W.heap.size W w') := Lib.hid fun W he hT => by
    have S := implIsSpace_anyR C Ae ne pe (ints E) W he hT; rw [fIsSpace, isSp_mk HOe.out, decide_eq_true HSJ.out.own] at S; exact S
  go_wp2_with fail
  refine (K4.out _ Se.out.r T4.out).mono ?_
  rintro e w6 ⟨rfl, hb⟩
  have B5 := Lib.hid (B4.out.trans ((hb).mono B4.out.size)); have T5 := Lib.hid (T4.out.below (hb))
  have Sa' := Lib.hid (Sa.out.below (hb))
  clear Sa c0a c1a
  have Sa := Lib.hid Sa'.out; clear Sa'
  have c0a := Sa.out.m.c0; have c1a := Sa.out.m.c1
  have Se' := Lib.hid (Se.out.below (hb))
  clear Se c0e c1e
  have Se := Lib.hid Se'.out; clear Se'
  have c0e := Se.out.m.c0; have c1e := Se.out.m.c1
  have Ss' := Lib.hid (Ss.out.below (hb))
  clear Ss c0s c1s
  have Ss := Lib.hid Ss'.out; clear Ss'
  have c0s := Ss.out.m.c0; have c1s := Ss.out.m.c1
  clear B4 T4
  clear hb
  have K5 : Hid (∀ W : World, Rd W W.heap.size Ae ne (ints E) → Calls Tryd.prog 38 #[.agg #[.int .i64 C, .slice Ae ne pe]] W fun e w' => e = .returned (.bool true) ∧ Below W.heap.size W w') := Lib.hid fun W he => by
    have S := specIsSpace_anyR C Ae ne pe (ints E) W he; rw [fIsSpace, isSp_mk HOe.out, decide_eq_true HSJ.out.own] at S; exact S
  go_wp2_with fail
  refine (K5.out _ Se.out.r).mono ?_
  rintro e w7 ⟨rfl, hb⟩
  have B6 := Lib.hid (B5.out.trans ((hb).mono B5.out.size)); have T6 := Lib.hid (T5.out.below (hb))
  have Sa' := Lib.hid (Sa.out.below (hb))
  clear Sa c0a c1a
  have Sa := Lib.hid Sa'.out; clear Sa'
  have c0a := Sa.out.m.c0; have c1a := Sa.out.m.c1
  have Se' := Lib.hid (Se.out.below (hb))
  clear Se c0e c1e
  have Se := Lib.hid Se'.out; clear Se'
  have c0e := Se.out.m.c0; have c1e := Se.out.m.c1
  have Ss' := Lib.hid (Ss.out.below (hb))
  clear Ss c0s c1s
  have Ss := Lib.hid Ss'.out; clear Ss'
  have c0s := Ss.out.m.c0; have c1s := Ss.out.m.c1
  clear B5 T5
  clear hb
  have hb5 : na ≤ 5 ∧ ne ≤ 5 ∧ r ≤ 5 := by have h1 := HL5.out; have h2 := Hla.out; have h3 := Hle.out; have h4 := HEL.out; have h5 := HR.out; omega
  obtain ⟨hna5, hne5, hr5⟩ := hb5
  have hner : ((ne : Int) != (r : Int)) = false := by have h3 := Hle.out; have h5 := HR.out; simp; omega
  have K6 : Hid (∀ W : World, Rd W W.heap.size Ae ne (ints E) → Rd W W.heap.size As ns (ints E) → Calls Tryd.prog 35 #[.agg #[.int .i64 C, .slice Ae ne pe], .agg #[.int .i64 C, .slice As ns ps]] W fun e w' => e = .returned (.bool true) ∧ Below W.heap.size W w') := Lib.hid fun W he hs => by
    have S := specSameMatrix_anyR C Ae ne pe (ints E) C As ns ps (ints E) W he hs; simp only [fSameMatrix, decide_true, Bool.and_self] at S; exact S
  go_wp2_with fail
  refine (K6.out _ Se.out.r Ss.out.r).mono ?_
  rintro e w8 ⟨rfl, hb⟩
  have B7 := Lib.hid (B6.out.trans ((hb).mono B6.out.size)); have T7 := Lib.hid (T6.out.below (hb))
  have Sa' := Lib.hid (Sa.out.below (hb))
  clear Sa c0a c1a
  have Sa := Lib.hid Sa'.out; clear Sa'
  have c0a := Sa.out.m.c0; have c1a := Sa.out.m.c1
  have Se' := Lib.hid (Se.out.below (hb))
  clear Se c0e c1e
  have Se := Lib.hid Se'.out; clear Se'
  have c0e := Se.out.m.c0; have c1e := Se.out.m.c1
  have Ss' := Lib.hid (Ss.out.below (hb))
  clear Ss c0s c1s
  have Ss := Lib.hid Ss'.out; clear Ss'
  have c0s := Ss.out.m.c0; have c1s := Ss.out.m.c1
  clear B6 T6
  clear hb
  clear K4 K5 K6 hner
  go_wp2_with fail
  go_loopw [13] (fun i wr => ∃ j : Nat, j ≤ na ∧ i = .int .i64 j ∧ Below w.heap.size w wr ∧ Tab wr ∧ SpR wr w1.heap.size C Aa na pa (ints L) ∧ SpR wr w4.heap.size C Ae ne pe (ints E)) (fun i _ => na - (intOf i).toNat)
  case atStart => exact ⟨0, Nat.zero_le _, rfl, B7.out, T7.out, Sa.out, Se.out⟩
  case round =>
    obtain ⟨j, hj, rfl, hB, hT, ha, he⟩ := hrel
    clear B7 T7 Sa c0a c1a Se c0e c1e Ss c0s c1s
    have B8 := Lib.hid hB; have T8 := Lib.hid hT; have Sa := Lib.hid ha; have Se := Lib.hid he
    clear hB hT ha he
    have c0a := Sa.out.m.c0; have c1a := Sa.out.m.c1
    have c0e := Se.out.m.c0; have c1e := Se.out.m.c1
    by_cases hlt : j < na
    · have hjl : j < L.length := by have := Hla.out; omega
      obtain ⟨gm, hAe, hgm, hcm⟩ := Sa.out.r.cell j hlt
      rw [ints_get] at hcm
      have hrow : nth L j < 2 ^ C := nth_bound HLt.out j
      have hsj : Sp E (nth L j) := (HSP.out _).2 (Sp.mem (nth_mem hjl))
      obtain ⟨row, hrw⟩ : ∃ row, nth L j = row := ⟨_, rfl⟩
      rw [hrw] at hcm hrow hsj
      obtain ⟨k, hk, hkt, hks⟩ := fSolve_sp HOe.out hrow hsj
      have KS : Hid (∀ W : World, Rd W W.heap.size Ae ne (ints E) → Calls Tryd.prog 39 #[.agg #[.int .i64 C, .slice Ae ne pe], .int .i64 (row : Nat)] W fun e w' => e = .returned (.tuple #[.int .i64 (k : Nat), .int .i64 0]) ∧ Below W.heap.size W w') := Lib.hid fun W he => by
        have S := implSolveRows_anyR C Ae ne pe (ints E) (row : Int) W he; rw [hks] at S; exact S
      have hrowN : row < N := by rw [HN.out] at hrow; exact hrow
      have HK := Lib.hid (And.intro hk (And.intro hkt hrw))
      clear hk hkt hks hrow hsj hrw
      have HRD := Lib.hid (show Rd wr.drew wr.drew.heap.size Ae ne (ints E) from Se.out.r.drewN 1)
      subst hAe
      go_wp2_with fail
      go_cut [14, 15] (fun b f wx => b = .int .i64 (k : Nat) ∧ f = .int .i64 0 ∧ Below wr.heap.size wr wx)
      case first =>
        go_region_law (go_simp; go_wp2_with (go_at_call 39; refine (KS.out _ HRD.out).mono ?_; rintro e wn ⟨rfl, hb⟩; have HBn := Lib.hid ((Below.refl _ wr).drew.trans hb); clear hb))
        all_goals
          go_wp2_with fail
          go_meet
          exact ⟨rfl, rfl, HBn.out⟩
      case rest =>
        obtain ⟨W5, rfl⟩ : ∃ x, x = wc := ⟨wc, rfl⟩
        obtain ⟨rfl, rfl, hb⟩ := hcut
        have B9 := Lib.hid (B8.out.trans ((hb).mono B8.out.size)); have T9 := Lib.hid (T8.out.below (hb))
        have Sa' := Lib.hid (Sa.out.below (hb))
        clear Sa c0a c1a
        have Sa := Lib.hid Sa'.out; clear Sa'
        have c0a := Sa.out.m.c0; have c1a := Sa.out.m.c1
        have Se' := Lib.hid (Se.out.below (hb))
        clear Se c0e c1e
        have Se := Lib.hid Se'.out; clear Se'
        have c0e := Se.out.m.c0; have c1e := Se.out.m.c1
        clear B8 T8
        have hcm5 := (hb.cell (p := ⟨gm, j, none⟩) hgm).trans hcm
        clear hb hcm KS HRD
        obtain ⟨M, hM⟩ : ∃ M, 2 ^ ne = M := ⟨_, rfl⟩
        have hM32 : M ≤ 32 := by rw [← hM]; exact Nat.pow_le_pow_right (n := 2) (by omega) hne5
        have hkM : k < M := by have := HK.out.1; rw [Hle.out, hM] at this; exact this
        have hshe : (2 : Int) ^ ne = (M : Int) := by rw [← hM]; simp
        have eue : (IntKind.u64.wrap (ne : Int)).toNat = ne := by rw [IntKind.wrap_u64]; omega
        have eme : min ne 64 = ne := by omega
        clear hM
        go_wp2_with fail
        go_loop [16, 17] (fun t i => ∃ x : Nat, x ≤ ne ∧ i = .int .i64 x ∧ t = .int .i64 (tms k E x : Nat)) (fun _ i => ne - (intOf i).toNat)
        case atStart => exact ⟨0, Nat.zero_le _, rfl, rfl⟩
        case round =>
          obtain ⟨x, hx, rfl, rfl⟩ := hrel
          by_cases hxl : x < ne
          · obtain ⟨ge, hEe, -, hce⟩ := Se.out.r.cell x hxl
            rw [ints_get] at hce
            have hts : tms k E (x + 1) = if k.testBit x then tms k E x ^^^ nth E x else tms k E x := rfl
            have htl : tms k E x < N := by have := tms_lt (nth_bound HSJ.out.lt) k x; rwa [HN.out] at this
            have hnl : nth E x < N := by have := nth_bound HSJ.out.lt x; rwa [HN.out] at this
            have hb1 := bit_any k x (by omega)
            have eux : (IntKind.u64.wrap (x : Int)).toNat = x := by rw [IntKind.wrap_u64]; omega
            have emx : min x 64 = x := by omega
            subst hEe
            generalize tms k E x = t0 at hts htl ⊢
            generalize nth E x = y at hts hnl hce
            have hxo := i64_xor_nat t0 y (by omega) (by omega)
            by_cases hb : k.testBit x = true
            · have hb2 : k / 2 ^ x % 2 = 1 := bitN_one hb
              rw [hb2] at hb1; rw [if_pos hb] at hts
              have HTS := Lib.hid hts; have HXO := Lib.hid hxo; clear hts hb hb2 hxo
              go_wp2_with fail
              go_round
              case rel => exact ⟨x + 1, by omega, by go_num, by rw [HTS.out, HXO.out]⟩
              case measure => simp [intOf]; omega
            · have hb2 : k / 2 ^ x % 2 = 0 := bitN_zero hb
              rw [hb2] at hb1; rw [if_neg hb] at hts
              have HTS := Lib.hid hts; clear hts hb hb2 hxo
              go_wp2_with fail
              go_round
              case rel => exact ⟨x + 1, by omega, by go_num, by rw [HTS.out]⟩
              case measure => simp [intOf]; omega
          · obtain rfl : ne = x := by omega
            have hfin : tms k E ne = row := by have := HK.out.2.1; rwa [Hle.out] at this
            rw [hfin]
            clear hfin
            go_wp2_with fail
            go_roundw
            case rel => first | exact ⟨j + 1, by omega, by go_num, B9.out, T9.out, Sa.out, Se.out⟩ | ((repeat apply Exists.intro); exact ⟨⟨j + 1, by omega, by go_num, B9.out, T9.out, Sa.out, Se.out⟩, rfl⟩)
            case measure => simp [intOf]; omega
    · obtain rfl : na = j := by omega
      go_wp2_with fail
      go_loopw [18] (fun i wr => ∃ j : Nat, j ≤ ne ∧ i = .int .i64 j ∧ Below w.heap.size w wr ∧ Tab wr ∧ SpR wr w1.heap.size C Aa na pa (ints L) ∧ SpR wr w4.heap.size C Ae ne pe (ints E)) (fun i _ => ne - (intOf i).toNat)
      case atStart => exact ⟨0, Nat.zero_le _, rfl, B8.out, T8.out, Sa.out, Se.out⟩
      case round =>
        obtain ⟨j, hj, rfl, hB, hT, ha, he⟩ := hrel
        clear B8 T8 Sa c0a c1a Se c0e c1e
        have B9 := Lib.hid hB; have T9 := Lib.hid hT; have Sa := Lib.hid ha; have Se := Lib.hid he
        clear hB hT ha he
        have c0a := Sa.out.m.c0; have c1a := Sa.out.m.c1
        have c0e := Se.out.m.c0; have c1e := Se.out.m.c1
        by_cases hlt : j < ne
        · have hjl : j < E.length := by have := Hle.out; omega
          obtain ⟨gm, hAe, hgm, hcm⟩ := Se.out.r.cell j hlt
          rw [ints_get] at hcm
          have hrow : nth E j < 2 ^ C := nth_bound HSJ.out.lt j
          have hsj : Sp L (nth E j) := (HSP.out _).1 (Sp.mem (nth_mem hjl))
          obtain ⟨row, hrw⟩ : ∃ row, nth E j = row := ⟨_, rfl⟩
          rw [hrw] at hcm hrow hsj
          obtain ⟨k, hk, hkt, hks⟩ := fSolve_sp HO.out hrow hsj
          have KS : Hid (∀ W : World, Rd W W.heap.size Aa na (ints L) → Calls Tryd.prog 39 #[.agg #[.int .i64 C, .slice Aa na pa], .int .i64 (row : Nat)] W fun e w' => e = .returned (.tuple #[.int .i64 (k : Nat), .int .i64 0]) ∧ Below W.heap.size W w') := Lib.hid fun W ha => by
            have S := implSolveRows_anyR C Aa na pa (ints L) (row : Int) W ha; rw [hks] at S; exact S
          have hrowN : row < N := by rw [HN.out] at hrow; exact hrow
          have HK := Lib.hid (And.intro hk (And.intro hkt hrw))
          clear hk hkt hks hrow hsj hrw
          have HRD := Lib.hid (show Rd wr.drew wr.drew.heap.size Aa na (ints L) from Sa.out.r.drewN 1)
          subst hAe
          go_wp2_with fail
          go_cut [19, 20] (fun b f wx => b = .int .i64 (k : Nat) ∧ f = .int .i64 0 ∧ Below wr.heap.size wr wx)
          case first =>
            go_region_law (go_simp; go_wp2_with (go_at_call 39; refine (KS.out _ HRD.out).mono ?_; rintro e wn ⟨rfl, hb⟩; have HBn := Lib.hid ((Below.refl _ wr).drew.trans hb); clear hb))
            all_goals
              go_wp2_with fail
              go_meet
              exact ⟨rfl, rfl, HBn.out⟩
          case rest =>
            obtain ⟨W5, rfl⟩ : ∃ x, x = wc := ⟨wc, rfl⟩
            obtain ⟨rfl, rfl, hb⟩ := hcut
            have B10 := Lib.hid (B9.out.trans ((hb).mono B9.out.size)); have T10 := Lib.hid (T9.out.below (hb))
            have Sa' := Lib.hid (Sa.out.below (hb))
            clear Sa c0a c1a
            have Sa := Lib.hid Sa'.out; clear Sa'
            have c0a := Sa.out.m.c0; have c1a := Sa.out.m.c1
            have Se' := Lib.hid (Se.out.below (hb))
            clear Se c0e c1e
            have Se := Lib.hid Se'.out; clear Se'
            have c0e := Se.out.m.c0; have c1e := Se.out.m.c1
            clear B9 T9
            have hcm5 := (hb.cell (p := ⟨gm, j, none⟩) hgm).trans hcm
            clear hb hcm KS HRD
            go_wp2_with fail
            go_roundw
            case rel => first | exact ⟨j + 1, by omega, by go_num, B10.out, T10.out, Sa.out, Se.out⟩ | ((repeat apply Exists.intro); exact ⟨⟨j + 1, by omega, by go_num, B10.out, T10.out, Sa.out, Se.out⟩, rfl⟩)
            case measure => simp [intOf]; omega
        · obtain rfl : ne = j := by omega
          by_cases h0 : na = 0
          · have hr0 : r = 0 := by have h2 := Hla.out; have h4 := HEL.out; have h5 := HR.out; omega
            subst h0
            subst hr0
            go_wp2_with fail
            go_ret
            exact ⟨rfl, B9.out⟩
          · have h0i : ((na : Int) == 0) = false := by simp; omega
            have h0j : ¬ (na : Int) = 0 := by omega
            have hL0 : ¬ L.length = 0 := by have := Hla.out; omega
            have hOt : OkM na (tns L C) := ⟨by omega, by omega, by rw [tns_len]; omega, by intro x hx; have := tns_lt L C x hx; rwa [Hla.out] at this⟩
            have hdt : (joined [] (tns L C)).length = r := by have := dm_tns HLt.out; rw [HDM.out] at this; exact this
            have K7 : Hid (∀ W : World, Rd W W.heap.size Aa na (ints L) → Calls Tryd.prog 44 #[.agg #[.int .i64 C, .slice Aa na pa]] W fun e w' => ∃ v, e = .returned (.tuple #[.agg #[.int .i64 na, v], .int .i64 0]) ∧ Below W.heap.size W w' ∧ Res w' W.heap.size w'.heap.size v (ints (tns L C))) := Lib.hid fun W ha => by
              have S := implTurnMatrix_anyR C Aa na pa (ints L) W ha; rw [fTurnMatrix, mk1_yes HO.out, if_neg hL0, Hla.out] at S; exact S
            go_wp2_with fail
            refine (K7.out _ Sa.out.r).mono ?_
            rintro e w11 ⟨v, rfl, hb, hR⟩
            obtain ⟨At, nt, pt, rfl, hRt⟩ := hR.rd
            have Hlt := Lib.hid hRt.len
            rw [ints_length] at Hlt
            have hba := below_alloc1 w11 (.cells #[.int .i64 na, .slice At nt pt] 50)
            have hbt := (hb).trans (hba.mono (hb).size)
            have St := Lib.hid (SpR.new hRt na pt 50)
            have B10 := Lib.hid (B9.out.trans ((hbt).mono B9.out.size)); have T10 := Lib.hid (T9.out.below (hbt))
            have Sa' := Lib.hid (Sa.out.below (hbt))
            clear Sa c0a c1a
            have Sa := Lib.hid Sa'.out; clear Sa'
            have c0a := Sa.out.m.c0; have c1a := Sa.out.m.c1
            have Se' := Lib.hid (Se.out.below (hbt))
            clear Se c0e c1e
            have Se := Lib.hid Se'.out; clear Se'
            have c0e := Se.out.m.c0; have c1e := Se.out.m.c1
            clear B9 T9
            have c0t := St.out.m.c0; have c1t := St.out.m.c1
            clear hba hbt hb
            clear hR hRt
            have K8 : Hid (∀ W : World, Rd W W.heap.size At nt (ints (tns L C)) → Tab W → Calls Tryd.prog 32 #[.agg #[.int .i64 na, .slice At nt pt]] W fun e w' => e = .returned (.tuple #[.int .i64 (r : Nat), .int .i64 0]) ∧ Below W.heap.size W w') := Lib.hid fun W ht hT => by
              have S := implRankOf_anyR na At nt pt (ints (tns L C)) W ht hT; rw [fRank_yes hOt, hdt] at S; exact S
            have HHT := Lib.hid hdt; clear hdt hOt hL0
            go_wp2_with fail
            refine (K8.out _ St.out.r T10.out).mono ?_
            rintro e w12 ⟨rfl, hb⟩
            have B11 := Lib.hid (B10.out.trans ((hb).mono B10.out.size)); have T11 := Lib.hid (T10.out.below (hb))
            have Sa' := Lib.hid (Sa.out.below (hb))
            clear Sa c0a c1a
            have Sa := Lib.hid Sa'.out; clear Sa'
            have c0a := Sa.out.m.c0; have c1a := Sa.out.m.c1
            have Se' := Lib.hid (Se.out.below (hb))
            clear Se c0e c1e
            have Se := Lib.hid Se'.out; clear Se'
            have c0e := Se.out.m.c0; have c1e := Se.out.m.c1
            have St' := Lib.hid (St.out.below (hb))
            clear St c0t c1t
            have St := Lib.hid St'.out; clear St'
            have c0t := St.out.m.c0; have c1t := St.out.m.c1
            clear B10 T10
            clear hb
            clear K7 K8
            have hab := AB.start w12 (C : Int) 50
            have hba := below_alloc1 w12 (.cells #[.int .i64 C, .slice none 0 0] 50)
            have HAB := Lib.hid hab; have HHA := Lib.hid (Sa.out.hb.keep hba); have HBB := Lib.hid (B11.out.trans (hba.mono B11.out.size)); have hwq := B11.out.size
            clear hab hba B11 T11 Sa c0a c1a Se c0e c1e St c0t c1t
            go_wp2_with fail
            go_loopw [26] (fun i wr => ∃ (j : Nat) (Bl : List Nat) (v : Value), j ≤ C ∧ i = .int .i64 j ∧ (∀ x ∈ Bl, x < N) ∧ AB wr w12.heap.size (w12.heap.size + 1) C j v Bl ∧ Below w.heap.size w wr ∧ HB wr w12.heap.size w1.heap.size C Aa na pa (ints L)) (fun i _ => C - (intOf i).toNat)
            case atStart => exact ⟨0, [], _, Nat.zero_le _, rfl, by simp, HAB.out, HBB.out, HHA.out⟩
            case round =>
              obtain ⟨j, Bl, v, hj, rfl, hBl, hA, hB, hH⟩ := hrel
              clear HAB HBB HHA
              have HBl := Lib.hid hBl; have HA := Lib.hid hA; have HBB := Lib.hid hB; have HHA := Lib.hid hH; clear hBl hA hB hH
              obtain ⟨ao, m0, cp0, hv⟩ := HA.out.form
              subst hv
              by_cases hlt : j < C
              · have a1 := HA.out.a1; have f1 := HA.out.f1; have hoz := HA.out.z
                have HAD := Lib.hid (show AB wr.drew w12.heap.size (w12.heap.size + 1) C j (.slice ao m0 cp0) Bl from HA.out.drewN 1)
                have HBY := Lib.hid (show Bys wr.drew wr.drew.heap.size aa1 n1 from HE1.out.at (HBB.out.trans ((Below.refl wr.heap.size wr).drew.mono HBB.out.size)))
                have KA : Hid (∀ W, Bys W W.heap.size aa1 n1 → Calls Tryd.prog 28 #[.slice aa1 n1 cap1, .int .i64 ((1 : Int) + (j : Int)), .int .i64 (N : Int)] W fun e w' => ∃ x : Nat, x < N ∧ e = .returned (.int .i64 (x : Nat)) ∧ W = w') := Lib.hid fun W h => by
                  have S := a2At_any _ aa1 n1 cap1 (1 + j) N (by omega) (by omega) (by omega) W h
                  rw [Int.natCast_add] at S
                  exact S
                go_wp2_with fail
                obtain ⟨Φ, hΦ⟩ : ∃ Φ : World → Prop, Φ = fun W => W.cell? ⟨w12.heap.size, 1, none⟩ = some (.slice ao m0 cp0) := ⟨_, rfl⟩
                have CX : Hid (∀ W, Φ W → _) := Lib.hid fun W (h : Φ W) => (by rw [hΦ] at h; exact h : W.cell? ⟨w12.heap.size, 1, none⟩ = some (.slice ao m0 cp0))
                have CY : Hid (∀ W : World, W.cell? ⟨w12.heap.size, 1, none⟩ = some (.slice ao m0 cp0) → Φ W) := Lib.hid fun W h => by rw [hΦ]; exact h
                have F0 : Φ wr.drew := CY.out _ a1
                have F1 : Φ (wr.drew.alloc (.cells #[.int .i64 0] 2)) := CY.out _ (((below_alloc1 _ _).cell (p := ⟨w12.heap.size, 1, none⟩) (by show w12.heap.size < wr.heap.size; omega)).trans a1)
                clear hΦ F1
                refine wp_region_S (n := 12) (S := Φ) (by kernel_rfl) (by kernel_rfl) F0 (fun G inv hS => ?_)
                refine wpAnyS_take (i := 0) (v := ?_) G inv hS (by decide) rfl (by kernel_rfl) (by kernel_rfl) (fun _ _ _ h => h) (Or.inl ⟨by kernel_rfl, fun W hW => ?_⟩) (fun inv => ?_)
                rotate_left
                · have z3 := CX.out _ hW
                  go_simp
                  try with_reducible rfl
                try simp only [Act.put, List.setIfInBounds_toArray, List.set_cons_zero, List.set_cons_succ]
                refine wpAnyS_take (i := 1) (v := ?_) G inv hS (by decide) rfl (by kernel_rfl) (by kernel_rfl) (fun _ _ _ h => h) (Or.inl ⟨by kernel_rfl, fun W hW => ?_⟩) (fun inv => ?_)
                rotate_left
                · have z3 := CX.out _ hW
                  go_simp
                  try with_reducible rfl
                try simp only [Act.put, List.setIfInBounds_toArray, List.set_cons_zero, List.set_cons_succ]
                refine wpAnyS_take (i := 2) (v := ?_) G inv hS (by decide) rfl (by kernel_rfl) (by kernel_rfl) (fun _ _ _ h => h) (Or.inl ⟨by kernel_rfl, fun W hW => ?_⟩) (fun inv => ?_)
                rotate_left
                · have z3 := CX.out _ hW
                  go_simp
                  try with_reducible rfl
                try simp only [Act.put, List.setIfInBounds_toArray, List.set_cons_zero, List.set_cons_succ]
                refine wpAnyS_take (i := 3) (v := ?_) G inv hS (by decide) rfl (by kernel_rfl) (by kernel_rfl) (fun _ _ _ h => h) (Or.inl ⟨by kernel_rfl, fun W hW => ?_⟩) (fun inv => ?_)
                rotate_left
                · have z3 := CX.out _ hW
                  go_simp
                  try with_reducible rfl
                try simp only [Act.put, List.setIfInBounds_toArray, List.set_cons_zero, List.set_cons_succ]
                refine wpAnyS_take (i := 4) (v := ?_) G inv hS (by decide) rfl (by kernel_rfl) (by kernel_rfl) (fun _ _ _ h => h) (Or.inl ⟨by kernel_rfl, fun W hW => ?_⟩) (fun inv => ?_)
                rotate_left
                · have z3 := CX.out _ hW
                  go_simp
                  try with_reducible rfl
                try simp only [Act.put, List.setIfInBounds_toArray, List.set_cons_zero, List.set_cons_succ]
                refine wpAnyS_take (i := 5) (v := ?_) G inv hS (by decide) rfl (by kernel_rfl) (by kernel_rfl) (fun _ _ _ h => h) (Or.inl ⟨by kernel_rfl, fun W hW => ?_⟩) (fun inv => ?_)
                rotate_left
                · have z3 := CX.out _ hW
                  go_simp
                  try with_reducible rfl
                try simp only [Act.put, List.setIfInBounds_toArray, List.set_cons_zero, List.set_cons_succ]
                refine wpAnyS_take (i := 6) (v := ?_) G inv hS (by decide) rfl (by kernel_rfl) (by kernel_rfl) (fun _ _ _ h => h) (Or.inl ⟨by kernel_rfl, fun W hW => ?_⟩) (fun inv => ?_)
                rotate_left
                · have z3 := CX.out _ hW
                  go_simp
                  try with_reducible rfl
                try simp only [Act.put, List.setIfInBounds_toArray, List.set_cons_zero, List.set_cons_succ]
                refine wpAnyS_take (i := 7) (v := ?_) G inv hS (by decide) rfl (by kernel_rfl) (by kernel_rfl) (fun _ _ _ h => h) (Or.inl ⟨by kernel_rfl, fun W hW => ?_⟩) (fun inv => ?_)
                rotate_left
                · have z3 := CX.out _ hW
                  go_simp
                  try with_reducible rfl
                try simp only [Act.put, List.setIfInBounds_toArray, List.set_cons_zero, List.set_cons_succ]
                refine wpAnyS_step (i := 8) (by kernel_rfl) rfl ?_
                go_wp2_with (go_at_call 28; refine (KA.out _ HBY.out).mono ?_; rintro e wn ⟨x, hx, rfl, rfl⟩)
                change (8 ≠ 12 → Φ _) ∧ _
                refine ⟨fun _ => hS, ?_⟩
                refine wpAnyS_step (i := 9) (by kernel_rfl) rfl ?_
                go_wp2
                change (9 ≠ 12 → Φ _) ∧ _
                refine ⟨fun _ => CY.out _ (((below_alloc1 _ _).cell (p := ⟨w12.heap.size, 1, none⟩) (by show w12.heap.size < wr.heap.size; omega)).trans a1), ?_⟩
                refine wpAnyS_step (i := 10) (by kernel_rfl) rfl ?_
                refine wpList_append_own (w := wr.drew.alloc (.cells #[.int .i64 (x : Nat)] 2)) rfl _ _ 24 rfl (w12.heap.size + 1) 2 i0 (.int .i64 0) 1 8 Tryd.underlying24 hi hz0 hz1 hz2 rfl (by decide) (.slice ao m0 cp0) j _ (by simp [Act.eval]) (HAD.out.own.alloc _) ⟨wr.drew.heap.size, 0, none⟩ 1 1 [.int .i64 (x : Nat)] (by simp [Act.eval]) rfl (one_new wr.drew _ _) (one_one _ _) (by unfold maxLen; omega) (by omega) (by simp; omega) ?_
                intro v' w8 hown' hgrow _
                obtain ⟨g8, cp8, rfl, t1, t5, hD, hE⟩ := HAD.out.push hown' hgrow
                have HD8 := Lib.hid hD; have HE8 := Lib.hid ((Below.refl _ wr).drew.trans hE); clear hown' hgrow hD hE
                change (10 ≠ 12 → Φ w8) ∧ _
                refine ⟨fun _ => CY.out _ t1, ?_⟩
                refine wpAnyS_step (i := 11) (by kernel_rfl) rfl ?_
                go_wp2
                change (11 ≠ 12 → Φ w8) ∧ _
                refine ⟨fun _ => CY.out _ t1, ?_⟩
                refine wpAnyS_step (i := 12) (by kernel_rfl) rfl ?_
                go_wp2
                refine ⟨fun h => absurd rfl h, ?_⟩
                refine wpAnyS_done (by kernel_rfl) ?_ _
                go_wp2_with fail
                go_roundw
                case rel => exact ⟨j + 1, Bl ++ [x], _, by omega, by go_num, fun y hy => by
                  rcases List.mem_append.1 hy with hy | hy
                  · exact HBl.out y hy
                  · simp at hy; subst hy; exact hx, HD8.out, HBB.out.trans (HE8.out.mono (by omega)), HHA.out.keep HE8.out⟩
                case measure => simp [intOf]; omega
              · obtain rfl : C = j := by omega
                have hsb := HA.out.sp (by omega)
                obtain ⟨Ab, nb, pb, hve, hSb⟩ := hsb
                injection hve with he1 he2 he3
                subst he1
                subst he2
                subst he3
                have hnbb : C = m0 := by have h1 := hSb.r.len; have h2 := HA.out.len; rw [ints_length] at h1; omega
                subst hnbb
                obtain ⟨BB, hBB⟩ : ∃ x, x = Bl := ⟨_, rfl⟩
                subst hBB
                have Sb := Lib.hid hSb; have Sa := Lib.hid HHA.out.sp; have B12 := HBB; have T12 := Lib.hid (HTW.out.below HBB.out)
                have Hlb := Lib.hid HA.out.len; have HLb := Lib.hid (show ∀ y ∈ BB, y < 2 ^ C by rw [HN.out]; exact HBl.out)
                clear HA HBB HHA HBl hSb
                have c0a := Sa.out.m.c0; have c1a := Sa.out.m.c1
                have c0b := Sb.out.m.c0; have c1b := Sb.out.m.c1
                have hOb : OkM C BB := ⟨hC1, by omega, by have := Hlb.out; omega, HLb.out⟩
                have hOp : OkM C (mulL L BB L.length) := ⟨hC1, by omega, by rw [mulL_len, Hla.out]; omega, mulL_lt' HLb.out _⟩
                obtain ⟨m, hm⟩ : ∃ m, (joined [] (mulL L BB L.length)).length = m := ⟨_, rfl⟩
                obtain ⟨rb, hrb⟩ : ∃ m, (joined [] BB).length = m := ⟨_, rfl⟩
                have hmd := mulL_dm L BB
                have hm1 : m ≤ r := by rw [← hm, ← HDM.out]; exact hmd.1
                have hm2 : m ≤ rb := by rw [← hm, ← hrb]; exact hmd.2
                have hrb5 : rb ≤ 5 := by have h1 := dm_len BB; unfold dm at h1; have h2 := Hlb.out; omega
                have K9 : Hid (∀ W : World, Rd W W.heap.size Aa na (ints L) → Rd W W.heap.size ao C (ints BB) → Calls Tryd.prog 34 #[.agg #[.int .i64 C, .slice Aa na pa], .agg #[.int .i64 C, .slice ao C cp0]] W fun e w' => ∃ v, e = .returned (.tuple #[.agg #[.int .i64 C, v], .int .i64 0]) ∧ Below W.heap.size W w' ∧ Res w' W.heap.size w'.heap.size v (ints (mulL L BB L.length))) := Lib.hid fun W ha hb => by
                  have S := implMulMatrices_anyR C Aa na pa (ints L) C ao C cp0 (ints BB) W ha hb; rw [fMulMatrices, mk2_yes HO.out hOb, if_pos Hlb.out.symm] at S; exact S
                have K11 : Hid (∀ W : World, Rd W W.heap.size ao C (ints BB) → Tab W → Calls Tryd.prog 32 #[.agg #[.int .i64 C, .slice ao C cp0]] W fun e w' => e = .returned (.tuple #[.int .i64 (rb : Nat), .int .i64 0]) ∧ Below W.heap.size W w') := Lib.hid fun W hb hT => by
                  have S := implRankOf_anyR C ao C cp0 (ints BB) W hb hT; rw [fRank_yes hOb, hrb] at S; exact S
                have HOp := Lib.hid hOp; have HMM := Lib.hid hm; clear hOb hOp hm hrb hmd
                go_wp2_with fail
                refine (K9.out _ Sa.out.r Sb.out.r).mono ?_
                rintro e w14 ⟨v, rfl, hb, hR⟩
                obtain ⟨Ap, np, pp, rfl, hRp⟩ := hR.rd
                have Hlp := Lib.hid hRp.len
                rw [ints_length] at Hlp
                have hba := below_alloc1 w14 (.cells #[.int .i64 C, .slice Ap np pp] 50)
                have hbt := (hb).trans (hba.mono (hb).size)
                have Sp := Lib.hid (SpR.new hRp C pp 50)
                have B13 := Lib.hid (B12.out.trans ((hbt).mono B12.out.size)); have T13 := Lib.hid (T12.out.below (hbt))
                have Sa' := Lib.hid (Sa.out.below (hbt))
                clear Sa c0a c1a
                have Sa := Lib.hid Sa'.out; clear Sa'
                have c0a := Sa.out.m.c0; have c1a := Sa.out.m.c1
                have Sb' := Lib.hid (Sb.out.below (hbt))
                clear Sb c0b c1b
                have Sb := Lib.hid Sb'.out; clear Sb'
                have c0b := Sb.out.m.c0; have c1b := Sb.out.m.c1
                clear B12 T12
                have c0p := Sp.out.m.c0; have c1p := Sp.out.m.c1
                clear hba hbt hb
                clear hR hRp
                have K10 : Hid (∀ W : World, Rd W W.heap.size Ap np (ints (mulL L BB L.length)) → Tab W → Calls Tryd.prog 32 #[.agg #[.int .i64 C, .slice Ap np pp]] W fun e w' => e = .returned (.tuple #[.int .i64 (m : Nat), .int .i64 0]) ∧ Below W.heap.size W w') := Lib.hid fun W hp hT => by
                  have S := implRankOf_anyR C Ap np pp (ints (mulL L BB L.length)) W hp hT; rw [fRank_yes HOp.out, HMM.out] at S; exact S
                go_wp2_with fail
                refine (K10.out _ Sp.out.r T13.out).mono ?_
                rintro e w15 ⟨rfl, hb⟩
                have B14 := Lib.hid (B13.out.trans ((hb).mono B13.out.size)); have T14 := Lib.hid (T13.out.below (hb))
                have Sa' := Lib.hid (Sa.out.below (hb))
                clear Sa c0a c1a
                have Sa := Lib.hid Sa'.out; clear Sa'
                have c0a := Sa.out.m.c0; have c1a := Sa.out.m.c1
                have Sb' := Lib.hid (Sb.out.below (hb))
                clear Sb c0b c1b
                have Sb := Lib.hid Sb'.out; clear Sb'
                have c0b := Sb.out.m.c0; have c1b := Sb.out.m.c1
                have Sp' := Lib.hid (Sp.out.below (hb))
                clear Sp c0p c1p
                have Sp := Lib.hid Sp'.out; clear Sp'
                have c0p := Sp.out.m.c0; have c1p := Sp.out.m.c1
                clear B13 T13
                clear hb
                go_wp2_with fail
                refine (K11.out _ Sb.out.r T14.out).mono ?_
                rintro e w16 ⟨rfl, hb⟩
                have B15 := Lib.hid (B14.out.trans ((hb).mono B14.out.size)); have T15 := Lib.hid (T14.out.below (hb))
                have Sa' := Lib.hid (Sa.out.below (hb))
                clear Sa c0a c1a
                have Sa := Lib.hid Sa'.out; clear Sa'
                have c0a := Sa.out.m.c0; have c1a := Sa.out.m.c1
                have Sb' := Lib.hid (Sb.out.below (hb))
                clear Sb c0b c1b
                have Sb := Lib.hid Sb'.out; clear Sb'
                have c0b := Sb.out.m.c0; have c1b := Sb.out.m.c1
                have Sp' := Lib.hid (Sp.out.below (hb))
                clear Sp c0p c1p
                have Sp := Lib.hid Sp'.out; clear Sp'
                have c0p := Sp.out.m.c0; have c1p := Sp.out.m.c1
                clear B14 T14
                clear hb
                clear K9 K10 K11
                have hab := AB.start w16 (C : Int) 50
                have hba := below_alloc1 w16 (.cells #[.int .i64 C, .slice none 0 0] 50)
                have HAB := Lib.hid hab; have HHA := Lib.hid (Sa.out.hb.keep hba); have HBB := Lib.hid (B15.out.trans (hba.mono B15.out.size)); have hwq := B15.out.size
                clear hab hba B15 T15 Sa c0a c1a Sb c0b c1b Sp c0p c1p
                go_wp2_with fail
                go_loopw [34] (fun i wr => ∃ (j : Nat) (Bl : List Nat) (v : Value), j ≤ na ∧ i = .int .i64 j ∧ (∀ x ∈ Bl, x < N) ∧ AB wr w16.heap.size (w16.heap.size + 1) C j v Bl ∧ Below w.heap.size w wr ∧ HB wr w16.heap.size w1.heap.size C Aa na pa (ints L)) (fun i _ => na - (intOf i).toNat)
                case atStart => exact ⟨0, [], _, Nat.zero_le _, rfl, by simp, HAB.out, HBB.out, HHA.out⟩
                case round =>
                  obtain ⟨j, Bl, v, hj, rfl, hBl, hA, hB, hH⟩ := hrel
                  clear HAB HBB HHA
                  have HBl := Lib.hid hBl; have HA := Lib.hid hA; have HBB := Lib.hid hB; have HHA := Lib.hid hH; clear hBl hA hB hH
                  obtain ⟨ao, m0, cp0, hv⟩ := HA.out.form
                  subst hv
                  have c1a := HHA.out.m.c1
                  by_cases hlt : j < na
                  · have a1 := HA.out.a1; have f1 := HA.out.f1; have hoz := HA.out.z
                    have HAD := Lib.hid (show AB wr.drew w16.heap.size (w16.heap.size + 1) C j (.slice ao m0 cp0) Bl from HA.out.drewN 1)
                    have HBY := Lib.hid (show Bys wr.drew wr.drew.heap.size aa1 n1 from HE1.out.at (HBB.out.trans ((Below.refl wr.heap.size wr).drew.mono HBB.out.size)))
                    have KA : Hid (∀ W, Bys W W.heap.size aa1 n1 → Calls Tryd.prog 28 #[.slice aa1 n1 cap1, .int .i64 ((9 : Int) + (j : Int)), .int .i64 (N : Int)] W fun e w' => ∃ x : Nat, x < N ∧ e = .returned (.int .i64 (x : Nat)) ∧ W = w') := Lib.hid fun W h => by
                      have S := a2At_any _ aa1 n1 cap1 (9 + j) N (by omega) (by omega) (by omega) W h
                      rw [Int.natCast_add] at S
                      exact S
                    go_wp2_with fail
                    obtain ⟨Φ, hΦ⟩ : ∃ Φ : World → Prop, Φ = fun W => W.cell? ⟨w16.heap.size, 1, none⟩ = some (.slice ao m0 cp0) := ⟨_, rfl⟩
                    have CX : Hid (∀ W, Φ W → _) := Lib.hid fun W (h : Φ W) => (by rw [hΦ] at h; exact h : W.cell? ⟨w16.heap.size, 1, none⟩ = some (.slice ao m0 cp0))
                    have CY : Hid (∀ W : World, W.cell? ⟨w16.heap.size, 1, none⟩ = some (.slice ao m0 cp0) → Φ W) := Lib.hid fun W h => by rw [hΦ]; exact h
                    have F0 : Φ wr.drew := CY.out _ a1
                    have F1 : Φ (wr.drew.alloc (.cells #[.int .i64 0] 2)) := CY.out _ (((below_alloc1 _ _).cell (p := ⟨w16.heap.size, 1, none⟩) (by show w16.heap.size < wr.heap.size; omega)).trans a1)
                    clear hΦ F1
                    refine wp_region_S (n := 12) (S := Φ) (by kernel_rfl) (by kernel_rfl) F0 (fun G inv hS => ?_)
                    refine wpAnyS_take (i := 0) (v := ?_) G inv hS (by decide) rfl (by kernel_rfl) (by kernel_rfl) (fun _ _ _ h => h) (Or.inl ⟨by kernel_rfl, fun W hW => ?_⟩) (fun inv => ?_)
                    rotate_left
                    · have z3 := CX.out _ hW
                      go_simp
                      try with_reducible rfl
                    try simp only [Act.put, List.setIfInBounds_toArray, List.set_cons_zero, List.set_cons_succ]
                    refine wpAnyS_take (i := 1) (v := ?_) G inv hS (by decide) rfl (by kernel_rfl) (by kernel_rfl) (fun _ _ _ h => h) (Or.inl ⟨by kernel_rfl, fun W hW => ?_⟩) (fun inv => ?_)
                    rotate_left
                    · have z3 := CX.out _ hW
                      go_simp
                      try with_reducible rfl
                    try simp only [Act.put, List.setIfInBounds_toArray, List.set_cons_zero, List.set_cons_succ]
                    refine wpAnyS_take (i := 2) (v := ?_) G inv hS (by decide) rfl (by kernel_rfl) (by kernel_rfl) (fun _ _ _ h => h) (Or.inl ⟨by kernel_rfl, fun W hW => ?_⟩) (fun inv => ?_)
                    rotate_left
                    · have z3 := CX.out _ hW
                      go_simp
                      try with_reducible rfl
                    try simp only [Act.put, List.setIfInBounds_toArray, List.set_cons_zero, List.set_cons_succ]
                    refine wpAnyS_take (i := 3) (v := ?_) G inv hS (by decide) rfl (by kernel_rfl) (by kernel_rfl) (fun _ _ _ h => h) (Or.inl ⟨by kernel_rfl, fun W hW => ?_⟩) (fun inv => ?_)
                    rotate_left
                    · have z3 := CX.out _ hW
                      go_simp
                      try with_reducible rfl
                    try simp only [Act.put, List.setIfInBounds_toArray, List.set_cons_zero, List.set_cons_succ]
                    refine wpAnyS_take (i := 4) (v := ?_) G inv hS (by decide) rfl (by kernel_rfl) (by kernel_rfl) (fun _ _ _ h => h) (Or.inl ⟨by kernel_rfl, fun W hW => ?_⟩) (fun inv => ?_)
                    rotate_left
                    · have z3 := CX.out _ hW
                      go_simp
                      try with_reducible rfl
                    try simp only [Act.put, List.setIfInBounds_toArray, List.set_cons_zero, List.set_cons_succ]
                    refine wpAnyS_take (i := 5) (v := ?_) G inv hS (by decide) rfl (by kernel_rfl) (by kernel_rfl) (fun _ _ _ h => h) (Or.inl ⟨by kernel_rfl, fun W hW => ?_⟩) (fun inv => ?_)
                    rotate_left
                    · have z3 := CX.out _ hW
                      go_simp
                      try with_reducible rfl
                    try simp only [Act.put, List.setIfInBounds_toArray, List.set_cons_zero, List.set_cons_succ]
                    refine wpAnyS_take (i := 6) (v := ?_) G inv hS (by decide) rfl (by kernel_rfl) (by kernel_rfl) (fun _ _ _ h => h) (Or.inl ⟨by kernel_rfl, fun W hW => ?_⟩) (fun inv => ?_)
                    rotate_left
                    · have z3 := CX.out _ hW
                      go_simp
                      try with_reducible rfl
                    try simp only [Act.put, List.setIfInBounds_toArray, List.set_cons_zero, List.set_cons_succ]
                    refine wpAnyS_take (i := 7) (v := ?_) G inv hS (by decide) rfl (by kernel_rfl) (by kernel_rfl) (fun _ _ _ h => h) (Or.inl ⟨by kernel_rfl, fun W hW => ?_⟩) (fun inv => ?_)
                    rotate_left
                    · have z3 := CX.out _ hW
                      go_simp
                      try with_reducible rfl
                    try simp only [Act.put, List.setIfInBounds_toArray, List.set_cons_zero, List.set_cons_succ]
                    refine wpAnyS_step (i := 8) (by kernel_rfl) rfl ?_
                    go_wp2_with (go_at_call 28; refine (KA.out _ HBY.out).mono ?_; rintro e wn ⟨x, hx, rfl, rfl⟩)
                    change (8 ≠ 12 → Φ _) ∧ _
                    refine ⟨fun _ => hS, ?_⟩
                    refine wpAnyS_step (i := 9) (by kernel_rfl) rfl ?_
                    go_wp2
                    change (9 ≠ 12 → Φ _) ∧ _
                    refine ⟨fun _ => CY.out _ (((below_alloc1 _ _).cell (p := ⟨w16.heap.size, 1, none⟩) (by show w16.heap.size < wr.heap.size; omega)).trans a1), ?_⟩
                    refine wpAnyS_step (i := 10) (by kernel_rfl) rfl ?_
                    refine wpList_append_own (w := wr.drew.alloc (.cells #[.int .i64 (x : Nat)] 2)) rfl _ _ 24 rfl (w16.heap.size + 1) 2 i0 (.int .i64 0) 1 8 Tryd.underlying24 hi hz0 hz1 hz2 rfl (by decide) (.slice ao m0 cp0) j _ (by simp [Act.eval]) (HAD.out.own.alloc _) ⟨wr.drew.heap.size, 0, none⟩ 1 1 [.int .i64 (x : Nat)] (by simp [Act.eval]) rfl (one_new wr.drew _ _) (one_one _ _) (by unfold maxLen; omega) (by omega) (by simp; omega) ?_
                    intro v' w8 hown' hgrow _
                    obtain ⟨g8, cp8, rfl, t1, t5, hD, hE⟩ := HAD.out.push hown' hgrow
                    have HD8 := Lib.hid hD; have HE8 := Lib.hid ((Below.refl _ wr).drew.trans hE); clear hown' hgrow hD hE
                    change (10 ≠ 12 → Φ w8) ∧ _
                    refine ⟨fun _ => CY.out _ t1, ?_⟩
                    refine wpAnyS_step (i := 11) (by kernel_rfl) rfl ?_
                    go_wp2
                    change (11 ≠ 12 → Φ w8) ∧ _
                    refine ⟨fun _ => CY.out _ t1, ?_⟩
                    refine wpAnyS_step (i := 12) (by kernel_rfl) rfl ?_
                    go_wp2
                    refine ⟨fun h => absurd rfl h, ?_⟩
                    refine wpAnyS_done (by kernel_rfl) ?_ _
                    go_wp2_with fail
                    go_roundw
                    case rel => exact ⟨j + 1, Bl ++ [x], _, by omega, by go_num, fun y hy => by
                      rcases List.mem_append.1 hy with hy | hy
                      · exact HBl.out y hy
                      · simp at hy; subst hy; exact hx, HD8.out, HBB.out.trans (HE8.out.mono (by omega)), HHA.out.keep HE8.out⟩
                    case measure => simp [intOf]; omega
                  · obtain rfl : na = j := by omega
                    have hsb := HA.out.sp (by omega)
                    obtain ⟨Ac, nc, pc, hve, hSc⟩ := hsb
                    injection hve with he1 he2 he3
                    subst he1
                    subst he2
                    subst he3
                    have hnbc : na = m0 := by have h1 := hSc.r.len; have h2 := HA.out.len; rw [ints_length] at h1; omega
                    subst hnbc
                    obtain ⟨CC, hCC⟩ : ∃ x, x = Bl := ⟨_, rfl⟩
                    subst hCC
                    have Sc := Lib.hid hSc; have Sa := Lib.hid HHA.out.sp; have B16 := HBB; have T16 := Lib.hid (HTW.out.below HBB.out)
                    have Hlc := Lib.hid HA.out.len; have HLc := Lib.hid (show ∀ y ∈ CC, y < 2 ^ C by rw [HN.out]; exact HBl.out)
                    clear HA HBB HHA HBl hSc c1a
                    have c0a := Sa.out.m.c0; have c1a := Sa.out.m.c1
                    have c0c := Sc.out.m.c0; have c1c := Sc.out.m.c1
                    have hOc : OkM C CC := ⟨hC1, by omega, by have := Hlc.out; omega, HLc.out⟩
                    have hlac : L.length = CC.length := by rw [Hla.out, Hlc.out]
                    have hOd : OkM C (addL L CC L.length) := ⟨hC1, by omega, by rw [show (addL L CC L.length).length = L.length by simp [addL], Hla.out]; omega, addL_lt' HLt.out HLc.out _⟩
                    obtain ⟨x, hx⟩ : ∃ m, (joined [] (addL L CC L.length)).length = m := ⟨_, rfl⟩
                    obtain ⟨y, hy⟩ : ∃ m, (joined [] CC).length = m := ⟨_, rfl⟩
                    have hxy : x ≤ r + y := by rw [← hx, ← hy, ← HDM.out]; exact addL_dm hlac
                    have hy5 : y ≤ 5 := by have h1 := dm_len CC; unfold dm at h1; have h2 := Hlc.out; omega
                    have K12 : Hid (∀ W : World, Rd W W.heap.size Aa na (ints L) → Rd W W.heap.size ao na (ints CC) → Calls Tryd.prog 45 #[.agg #[.int .i64 C, .slice Aa na pa], .agg #[.int .i64 C, .slice ao na cp0]] W fun e w' => ∃ v, e = .returned (.tuple #[.agg #[.int .i64 C, v], .int .i64 0]) ∧ Below W.heap.size W w' ∧ Res w' W.heap.size w'.heap.size v (ints (addL L CC L.length))) := Lib.hid fun W ha hc => by
                      have S := implAddMatrices_anyR C Aa na pa (ints L) C ao na cp0 (ints CC) W ha hc; rw [fAddMatrices, mk2_yes HO.out hOc, if_pos ⟨rfl, hlac⟩] at S; exact S
                    have K14 : Hid (∀ W : World, Rd W W.heap.size ao na (ints CC) → Tab W → Calls Tryd.prog 32 #[.agg #[.int .i64 C, .slice ao na cp0]] W fun e w' => e = .returned (.tuple #[.int .i64 (y : Nat), .int .i64 0]) ∧ Below W.heap.size W w') := Lib.hid fun W hc hT => by
                      have S := implRankOf_anyR C ao na cp0 (ints CC) W hc hT; rw [fRank_yes hOc, hy] at S; exact S
                    have HOd := Lib.hid hOd; have HXX := Lib.hid hx; clear hOc hOd hx hy hlac
                    go_wp2_with fail
                    refine (K12.out _ Sa.out.r Sc.out.r).mono ?_
                    rintro e w18 ⟨v, rfl, hb, hR⟩
                    obtain ⟨Ad, nd, pd, rfl, hRd⟩ := hR.rd
                    have Hld := Lib.hid hRd.len
                    rw [ints_length] at Hld
                    have hba := below_alloc1 w18 (.cells #[.int .i64 C, .slice Ad nd pd] 50)
                    have hbt := (hb).trans (hba.mono (hb).size)
                    have Sd := Lib.hid (SpR.new hRd C pd 50)
                    have B17 := Lib.hid (B16.out.trans ((hbt).mono B16.out.size)); have T17 := Lib.hid (T16.out.below (hbt))
                    have Sa' := Lib.hid (Sa.out.below (hbt))
                    clear Sa c0a c1a
                    have Sa := Lib.hid Sa'.out; clear Sa'
                    have c0a := Sa.out.m.c0; have c1a := Sa.out.m.c1
                    have Sc' := Lib.hid (Sc.out.below (hbt))
                    clear Sc c0c c1c
                    have Sc := Lib.hid Sc'.out; clear Sc'
                    have c0c := Sc.out.m.c0; have c1c := Sc.out.m.c1
                    clear B16 T16
                    have c0d := Sd.out.m.c0; have c1d := Sd.out.m.c1
                    clear hba hbt hb
                    clear hR hRd
                    have K13 : Hid (∀ W : World, Rd W W.heap.size Ad nd (ints (addL L CC L.length)) → Tab W → Calls Tryd.prog 32 #[.agg #[.int .i64 C, .slice Ad nd pd]] W fun e w' => e = .returned (.tuple #[.int .i64 (x : Nat), .int .i64 0]) ∧ Below W.heap.size W w') := Lib.hid fun W hd hT => by
                      have S := implRankOf_anyR C Ad nd pd (ints (addL L CC L.length)) W hd hT; rw [fRank_yes HOd.out, HXX.out] at S; exact S
                    go_wp2_with fail
                    refine (K13.out _ Sd.out.r T17.out).mono ?_
                    rintro e w19 ⟨rfl, hb⟩
                    have B18 := Lib.hid (B17.out.trans ((hb).mono B17.out.size)); have T18 := Lib.hid (T17.out.below (hb))
                    have Sa' := Lib.hid (Sa.out.below (hb))
                    clear Sa c0a c1a
                    have Sa := Lib.hid Sa'.out; clear Sa'
                    have c0a := Sa.out.m.c0; have c1a := Sa.out.m.c1
                    have Sc' := Lib.hid (Sc.out.below (hb))
                    clear Sc c0c c1c
                    have Sc := Lib.hid Sc'.out; clear Sc'
                    have c0c := Sc.out.m.c0; have c1c := Sc.out.m.c1
                    have Sd' := Lib.hid (Sd.out.below (hb))
                    clear Sd c0d c1d
                    have Sd := Lib.hid Sd'.out; clear Sd'
                    have c0d := Sd.out.m.c0; have c1d := Sd.out.m.c1
                    clear B17 T17
                    clear hb
                    go_wp2_with fail
                    refine (K14.out _ Sc.out.r T18.out).mono ?_
                    rintro e w20 ⟨rfl, hb⟩
                    have B19 := Lib.hid (B18.out.trans ((hb).mono B18.out.size)); have T19 := Lib.hid (T18.out.below (hb))
                    have Sa' := Lib.hid (Sa.out.below (hb))
                    clear Sa c0a c1a
                    have Sa := Lib.hid Sa'.out; clear Sa'
                    have c0a := Sa.out.m.c0; have c1a := Sa.out.m.c1
                    have Sc' := Lib.hid (Sc.out.below (hb))
                    clear Sc c0c c1c
                    have Sc := Lib.hid Sc'.out; clear Sc'
                    have c0c := Sc.out.m.c0; have c1c := Sc.out.m.c1
                    have Sd' := Lib.hid (Sd.out.below (hb))
                    clear Sd c0d c1d
                    have Sd := Lib.hid Sd'.out; clear Sd'
                    have c0d := Sd.out.m.c0; have c1d := Sd.out.m.c1
                    clear B18 T18
                    clear hb
                    clear K12 K13 K14
                    have q1 : (m : Int) ≤ (r : Int) := by omega
                    have q2 : (m : Int) ≤ (rb : Int) := by omega
                    have q3 : (x : Int) ≤ (r : Int) + (y : Int) := by omega
                    go_wp2_with fail
                    go_ret
                    exact ⟨rfl, B19.out⟩

set_option maxRecDepth 100000 in
theorem lifted (os : Os) (started : os.Started) (H : Type) (enc : TypeId × Value → H) :
    ReturnsInHanded {} Tryd.checked os 7 .any (fun w args => (Rows.fnRanksSpec.pre enc Tryd.prog Tryd.f7 [] false w args ∧ laidMetH Tryd.prog listed w) ∧ sizedMet enc Tryd.prog Tryd.f7 (OpenSpec.ofChange Rows.fnRanksSpec) false w args)
      (Rows.fnRanksSpec.post enc Tryd.prog Tryd.f7 false true false false) := by
  refine returnsInHanded_of_change_and (C := Tryd.checked) (X := fun w _ => laidMetH Tryd.prog listed w) (fun _ _ _ hh h => h.of_heap hh) own started (by kernel_rfl) Tryd.func7
    (ChangeSpec.witness_shaped (enc := enc) (C := Tryd.checked) (os := os) (X := fun w _ => laidMetH Tryd.prog listed w) false (World.doorLaid Tryd.prog 400 os) #[.slice none 0 0, .slice none 0 0] 8 rfl (World.shaped_of_RefB (by kernel_rfl) (by kernel_rfl)) (by kernel_rfl) (by kernel_rfl) (by kernel_rfl) (door_met os _)) ?_
  intro W base args ds gs before hval0 hW _ _ hL _
  have hval : ∀ (j : Nat) t v, Tryd.f7.params[j]? = some t → args[j]? = some v → Value.okWide Tryd.prog W .any base t v := hval0
  have hT := tab_of_laid hL
  have hW' := hW
  obtain ⟨p, q, hA0, hV, rfl, hfz, hnd⟩ := hW
  have hA : DataW.TrodAll enc Tryd.prog W 0 (fun _ => true) true Tryd.f7.params.toList args.toList ds p := hA0
  rw [Tryd.params7] at hA hval
  obtain ⟨v0, vs0, dd0, ds0, pp0, qq0, hargs, rfl, rfl, h0, r0⟩ := trodAll_cons hA
  obtain ⟨v1, vs1, dd1, ds1, pp1, qq1, rfl, rfl, rfl, h1, r1⟩ := trodAll_cons r0
  obtain ⟨rfl, rfl, rfl⟩ := trodAll_nil r1
  obtain rfl : args = #[v0, v1] := by cases args; simp_all
  obtain ⟨rfl, rfl⟩ := trodVars_none hV
  have k0 := h0
  have lt0 : ∀ x ∈ pp0, x.block < W.heap.size := by obtain ⟨m, hm⟩ := k0; exact DataW.trod_lt m _ _ _ hm
  obtain ⟨a0, n0, cap0, rfl⟩ := okWide_slice Tryd.underlying33 (hval 0 33 v0 rfl rfl)
  have w0 : Bys W W.heap.size a0 n0 := by
    obtain ⟨fuel, hf⟩ := h0
    obtain ⟨A, k, c, e, w⟩ := bytes_open (v := .slice a0 n0 cap0) hf
    injection e with e1 e2 e3
    subst e1 e2 e3
    exact w
  have k1 := h1
  have lt1 : ∀ x ∈ pp1, x.block < W.heap.size := by obtain ⟨m, hm⟩ := k1; exact DataW.trod_lt m _ _ _ hm
  obtain ⟨a1, n1, cap1, rfl⟩ := okWide_slice Tryd.underlying33 (hval 1 33 v1 rfl rfl)
  have w1 : Bys W W.heap.size a1 n1 := by
    obtain ⟨fuel, hf⟩ := h1
    obtain ⟨A, k, c, e, w⟩ := bytes_open (v := .slice a1 n1 cap1) hf
    injection e with e1 e2 e3
    subst e1 e2 e3
    exact w
  clear hA0 hval0
  refine (walk a0 n0 cap0 a1 n1 cap1 W hT w0 w1).mono fun e W' ⟨he, bel⟩ => ?_
  subst he
  exact ⟨_, rfl, _, _, _, [], _, [], hW', trodAll_mk1 (shut_bool Tryd.underlying4 _), (trodAll_cons_mk (Below.trod laidOut (by kernel_rfl) (of_decide_eq_true (by kernel_rfl)) k0 bel lt0) (trodAll_cons_mk (Below.trod laidOut (by kernel_rfl) (of_decide_eq_true (by kernel_rfl)) k1 bel lt1) trodAll_mk0)), rfl, bel.frame _, fun h => by cases h⟩

theorem over : Rows.fnRanksRow.holds Tryd.pinned (OpenSpec.ofChange Rows.fnRanksSpec) :=
  OpenClaim.holds_of_wide 7 Tryd.f7 rfl rfl rfl rfl rfl rfl rfl ⟨rfl, rfl, rfl, rfl, rfl⟩ rfl rfl rfl rfl rfl (by kernel_rfl) Tryd.func7 (by kernel_rfl)
    (of_decide_eq_true (by kernel_rfl)) (by unfold Func.isWrapper; first | (rw [if_pos (by decide +kernel)]; kernel_rfl) | (rw [if_neg (by decide +kernel)]; exact ⟨rfl, rfl⟩))
    (fun os started H enc _ => lifted os started H enc)

theorem proved : Rows.FnRanksCardSaid :=
  Claim7.holds_tied_plain_at .later [] [.data] true Rows.fnRanksCard.stood.harness false
    over (fun _ h => by cases h) (by kernel_rfl) (fun _ h => by cases h) fnRanks_row_tie rfl ⟨rfl, rfl⟩ (by kernel_rfl) rfl
    (fun f fn hf hfn => by
      obtain rfl : f = 7 := Option.some.inj ((show Tryd.prog.funcNamed "loop.example/g01144/laws.FnRanks" = some 7 by kernel_rfl).symm.trans hf) |>.symm
      obtain rfl : fn = Tryd.f7 := (Option.some.inj (Tryd.func7.symm.trans hfn)).symm
      exact ⟨by kernel_rfl, fun j t ht => by
        rw [Tryd.params7] at ht
        have hm : t ∈ [33, 33] := by simpa using Array.mem_of_getElem? ht
        have hall : ([33, 33].all fun u => !Tryd.prog.wantsStandIn u) = true := by kernel_rfl
        exact (show Tryd.prog.wantsStandIn t = false by simpa using List.all_eq_true.1 hall t hm)⟩)
    (by kernel_rfl)
#print axioms proved
end Go.Proofs.YtilghmfffdmnjaaDoor.fnRanks
