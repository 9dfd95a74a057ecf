/- FnKernels: for every input the law returns true, and every argument reads afterwards as it read before. No condition. -/
import Derived.Test.YtilghmfffdmnjaaDoorRows
import Derived.WalkKit
import Derived.ProofKit
import Derived.OpenShut
import Derived.ChangeOld
import Derived.Below
import Derived.Lib.SmallJoins
import Derived.Test.YtilghmfffdmnjaaDoorDrawA
import Derived.Test.YtilghmfffdmnjaaDoorDim2
import Derived.Test.YtilghmfffdmnjaaDoorRankOf
import Derived.Test.YtilghmfffdmnjaaDoorKernelOf
import Derived.Test.YtilghmfffdmnjaaDoorSpaceOf
import Derived.Test.YtilghmfffdmnjaaDoorDualSpace
import Derived.Test.YtilghmfffdmnjaaDoorSolveRows
import Derived.Test.YtilghmfffdmnjaaDoorSame
import Derived.Test.YtilghmfffdmnjaaDoorIsSpace
import Derived.Test.YtilghmfffdmnjaaDoorLaid
import Derived.Test.YtilghmfffdmnjaaDoorTie
import Derived.Test.YtilghmfffdmnjaaDoorCards
import Derived.SevenTiedAt
namespace Go.Proofs.YtilghmfffdmnjaaDoor.fnKernels
open Go.ChangeShapes Go.WideShapes Go.ChangeAt Go.RowKit Go.Joins
set_option linter.unusedVariables false

theorem own : ownKnob Tryd.prog.godebug = none := by kernel_rfl
theorem laidOut : laidOutB Tryd.prog = true := by kernel_rfl

theorem fSolve_sp {C : Nat} {L : List Nat} (hO : OkM C L) {x : Nat} (hx : x < 2 ^ C) (h : Sp L x) : ∃ k, k < 2 ^ L.length ∧ tms k L L.length = x ∧ fSolveRows C (ints L) (x : Int) = ((k : Int), 0) := by
  obtain ⟨k, h1, h2, h3⟩ := sp_least h
  exact ⟨k, h1, h2, fSolve_some hO ⟨by omega, by exact_mod_cast hx⟩ h1 (fun j hj e => h3 j hj (by exact_mod_cast e)) (by rw [h2])⟩
theorem fSolve_nsp {C : Nat} {L : List Nat} (hO : OkM C L) {x : Nat} (hx : x < 2 ^ C) (h : ¬ Sp L x) : fSolveRows C (ints L) (x : Int) = (0, 6) :=
  fSolve_none hO ⟨by omega, by exact_mod_cast hx⟩ fun j hj e => h (by have e2 : tms j L L.length = x := by exact_mod_cast e
                                                                      rw [← e2]; exact tms_sp _ _ _)
def allz (L : List Nat) (x C : Nat) : Nat → Bool
  | 0 => true
  | i + 1 => allz L x C i && !podd (nth L i &&& x) C
theorem allz_to {C x : Nat} {L : List Nat} (hx : x < 2 ^ C) : ∀ i, allz L x C i = true ↔ ∀ j, j < i → prd (nth L j) x = false
  | 0 => by simp [allz]
  | i + 1 => by
    have h1 : podd (nth L i &&& x) C = prd (nth L i) x := podd_par C _ (Nat.lt_of_le_of_lt Nat.and_le_right hx)
    simp only [allz, Bool.and_eq_true, allz_to hx i, h1, Bool.not_eq_true']
    exact ⟨fun h j hj => by
      by_cases e : j = i
      · subst e; exact h.2
      · exact h.1 j (by omega), fun h => ⟨fun j hj => h j (by omega), h i (by omega)⟩⟩
theorem allz_iff {C x : Nat} {L : List Nat} (hx : x < 2 ^ C) : allz L x C L.length = true ↔ ∀ r ∈ L, prd r x = false := by
  rw [allz_to hx]
  exact ⟨fun h r hr => by obtain ⟨j, hj, rfl⟩ := nth_of_mem hr; exact h j hj, fun h j hj => h _ (nth_mem hj)⟩

set_option maxRecDepth 100000 in
set_option maxHeartbeats 12800000 in
theorem walk (a0 : Option Addr) (n0 cap0 : Nat) (a1 : Option Addr) (n1 cap1 : Nat) (w : World) (hT : Tab w) (h0B : Bys w w.heap.size a0 n0) (h1B : Bys w w.heap.size a1 n1) :
    Calls Tryd.prog 6 #[.slice a0 n0 cap0, .slice a1 n1 cap1] w fun e w' => e = .returned (.bool true) ∧ Below w.heap.size w w' := by
  have hl0 := h0B.big; have hl1 := h1B.big
  by_cases hlong : 3000 < n0 ∨ 3000 < n1
  · have SL := a2Long_any a0 a1 n0 cap0 n1 cap1 hl0 hl1 w
    rw [show (decide (3000 < n0) || decide (3000 < n1)) = true by simpa using hlong] at SL
    have HSL := Lib.hid SL
    clear SL h0B h1B hlong
    go_enter Tryd.func6, Tryd.ntmps6
    go_wp2_with fail
    refine HSL.out.mono ?_
    rintro e w1 ⟨rfl, rfl⟩
    go_wp2_with fail
    go_ret
    exact ⟨rfl, Below.refl _ _⟩
  have SL := a2Long_any a0 a1 n0 cap0 n1 cap1 hl0 hl1 w
  rw [show (decide (3000 < n0) || decide (3000 < n1)) = false by simpa using hlong] at SL
  have HSL := Lib.hid SL
  have HE0 := Lib.hid h0B; have HE1 := Lib.hid h1B; have HT0 := Lib.hid hT
  clear SL h0B h1B hlong hT
  go_enter Tryd.func6, Tryd.ntmps6
  go_wp2_with fail
  refine HSL.out.mono ?_
  rintro e w1 ⟨rfl, rfl⟩
  clear HSL
  go_wp2_with fail
  have B0 := Lib.hid (Below.refl w.heap.size w); have T0 := Lib.hid HT0.out
  refine (a2At_any _ a1 n1 cap1 0 6 (by omega) (by omega) (by omega) _ HE1.out).mono ?_
  rintro e w1 ⟨vc, hvc, rfl, rfl⟩
  obtain ⟨C, hC⟩ : ∃ C, 1 + vc = C := ⟨_, rfl⟩
  have hC1 : 1 ≤ C := by omega
  have hC6 : C ≤ 6 := by omega
  have hCi : (1 : Int) + (vc : Int) = (C : Int) := by omega
  clear hC
  obtain ⟨N, hN⟩ : ∃ N, 2 ^ C = N := ⟨_, rfl⟩
  have hN64 : N ≤ 64 := by rw [← hN]; exact Nat.pow_le_pow_right (n := 2) (by omega) hC6
  have hN1 : 1 ≤ N := by rw [← hN]; exact Nat.two_pow_pos C
  have hsh : (2 : Int) ^ C = (N : Int) := by rw [← hN]; simp
  have eu : (IntKind.u64.wrap (C : Int)).toNat = C := by rw [IntKind.wrap_u64]; omega
  have em : min C 64 = C := by omega
  have HN := Lib.hid hN; clear hN
  go_wp2_with fail
  refine (a2Matrix_any a0 n0 cap0 C hC1 hC6 5 (by omega) _ HE0.out).mono ?_
  rintro e w1 ⟨L, v, hL5, hLt, rfl, hR, hb⟩
  obtain ⟨Aa, na, pa, rfl, hRa⟩ := hR.rd
  have Hla := Lib.hid hRa.len
  rw [ints_length] at Hla
  have hba := below_alloc1 w1 (.cells #[.int .i64 C, .slice Aa na pa] 50)
  have hbt := (hb).trans (hba.mono (hb).size)
  have Sa := Lib.hid (SpR.new hRa C pa 50)
  have B1 := Lib.hid (B0.out.trans ((hbt).mono B0.out.size)); have T1 := Lib.hid (T0.out.below (hbt))
  clear B0 T0
  have c0a := Sa.out.m.c0; have c1a := Sa.out.m.c1
  clear hba hbt hb
  clear hR hRa HT0
  have hO : OkM C L := ⟨hC1, by omega, by omega, hLt⟩
  have hkl := kernel_rank hLt; have hsk := Spc.kernel hLt; have hsj : Spc C (joined [] L) := .of (joined_lt' hLt) (joined_nil L).1
  have hOk : OkM C (kernel C L) := ⟨hC1, by omega, by omega, hsk.lt⟩
  have hOj : OkM C (joined [] L) := ⟨hC1, by omega, by have := dm_len L; unfold dm at this; omega, hsj.lt⟩
  have hkk := kernel_kernel hLt; have hkj : kernel C (joined [] L) = kernel C L := kernel_same hsj.lt hLt (joined_nil L).2
  obtain ⟨r, hr⟩ : ∃ r, (joined [] L).length = r := ⟨_, rfl⟩
  have K1 : Hid (∀ W : World, Rd W W.heap.size Aa na (ints L) → Tab W → Calls Tryd.prog 37 #[.agg #[.int .i64 C, .slice Aa na pa]] W fun e w' => ∃ v, e = .returned (.tuple #[.agg #[.int .i64 C, v], .int .i64 0]) ∧ Below W.heap.size W w' ∧ Res w' W.heap.size w'.heap.size v (ints (kernel C L))) := Lib.hid fun W ha hT => by
    have S := implKernelOf_anyR C Aa na pa (ints L) W ha hT; rw [fKernelOf, mk1_yes hO] at S; exact S
  have K2 : Hid (∀ W : World, Rd W W.heap.size Aa na (ints L) → Tab W → Calls Tryd.prog 32 #[.agg #[.int .i64 C, .slice Aa na pa]] W fun e w' => e = .returned (.tuple #[.int .i64 (r : Nat), .int .i64 0]) ∧ Below W.heap.size W w') := Lib.hid fun W ha hT => by
    have S := implRankOf_anyR C Aa na pa (ints L) W ha hT; rw [fRank_yes hO, hr] at S; exact S
  have K5 : Hid (∀ W : World, Rd W W.heap.size Aa na (ints L) → Tab W → Calls Tryd.prog 40 #[.agg #[.int .i64 C, .slice Aa na pa]] W fun e w' => ∃ v, e = .returned (.tuple #[.agg #[.int .i64 C, v], .int .i64 0]) ∧ Below W.heap.size W w' ∧ Res w' W.heap.size w'.heap.size v (ints (joined [] L))) := Lib.hid fun W ha hT => by
    have S := implSpaceOf_anyR C Aa na pa (ints L) W ha hT; rw [fSpaceOf, fEchelonOf, mk1_yes hO] at S; exact S
  have hkr : (kernel C L).length + r = C := by rw [← hr]; exact hkl
  have HO := Lib.hid hO; have HOk := Lib.hid hOk; have HOj := Lib.hid hOj; have HKK := Lib.hid hkk; have HKJ := Lib.hid hkj; have HSK := Lib.hid hsk; have HSJ := Lib.hid hsj; have HKR := Lib.hid hkr; have HLt := Lib.hid hLt
  clear hO hOk hOj hkk hkj hsk hsj hkr hLt hkl hr
  go_wp2_with fail
  refine (K1.out _ Sa.out.r T1.out).mono ?_
  rintro e w3 ⟨v, rfl, hb, hR⟩
  obtain ⟨Ak, nk, pk, rfl, hRk⟩ := hR.rd
  have Hlk := Lib.hid hRk.len
  rw [ints_length] at Hlk
  have hba := below_alloc1 w3 (.cells #[.int .i64 C, .slice Ak nk pk] 50)
  have hbt := (hb).trans (hba.mono (hb).size)
  have Sk := Lib.hid (SpR.new hRk C pk 50)
  have B2 := Lib.hid (B1.out.trans ((hbt).mono B1.out.size)); have T2 := Lib.hid (T1.out.below (hbt))
  have Sa' := Lib.hid (Sa.out.below (hbt))
  clear Sa c0a c1a
  have Sa := Lib.hid Sa'.out; clear Sa'
  have c0a := Sa.out.m.c0; have c1a := Sa.out.m.c1
  clear B1 T1
  have c0k := Sk.out.m.c0; have c1k := Sk.out.m.c1
  clear hba hbt hb
  clear hR hRk
  go_wp2_with fail
  refine (K2.out _ Sa.out.r T2.out).mono ?_
  rintro e w4 ⟨rfl, hb⟩
  have B3 := Lib.hid (B2.out.trans ((hb).mono B2.out.size)); have T3 := Lib.hid (T2.out.below (hb))
  have Sa' := Lib.hid (Sa.out.below (hb))
  clear Sa c0a c1a
  have Sa := Lib.hid Sa'.out; clear Sa'
  have c0a := Sa.out.m.c0; have c1a := Sa.out.m.c1
  have Sk' := Lib.hid (Sk.out.below (hb))
  clear Sk c0k c1k
  have Sk := Lib.hid Sk'.out; clear Sk'
  have c0k := Sk.out.m.c0; have c1k := Sk.out.m.c1
  clear B2 T2
  clear hb
  clear K1 K2
  have hnk : (((nk : Int) + (r : Int)) != (C : Int)) = false := by have h1 := HKR.out; have h2 := Hlk.out; simp; omega
  have hnki : (nk : Int) + (r : Int) = (C : Int) := by have h1 := HKR.out; have h2 := Hlk.out; omega
  have HNKI := Lib.hid hnki; clear hnki
  have hnb : nk ≤ 10 ∧ r ≤ 10 := by have h1 := HKR.out; have h2 := Hlk.out; omega
  obtain ⟨hnb1, hnb2⟩ := hnb
  have K3 : Hid (∀ W : World, Rd W W.heap.size Ak nk (ints (kernel C L)) → Calls Tryd.prog 38 #[.agg #[.int .i64 C, .slice Ak nk pk]] W fun e w' => e = .returned (.bool true) ∧ Below W.heap.size W w') := Lib.hid fun W hk => by
    have S := specIsSpace_anyR C Ak nk pk (ints (kernel C L)) W hk; rw [fIsSpace, isSp_mk HOk.out, decide_eq_true HSK.out.own] at S; exact S
  go_wp2_with fail
  refine (K3.out _ Sk.out.r).mono ?_
  rintro e w5 ⟨rfl, hb⟩
  have B4 := Lib.hid (B3.out.trans ((hb).mono B3.out.size)); have T4 := Lib.hid (T3.out.below (hb))
  have Sa' := Lib.hid (Sa.out.below (hb))
  clear Sa c0a c1a
  have Sa := Lib.hid Sa'.out; clear Sa'
  have c0a := Sa.out.m.c0; have c1a := Sa.out.m.c1
  have Sk' := Lib.hid (Sk.out.below (hb))
  clear Sk c0k c1k
  have Sk := Lib.hid Sk'.out; clear Sk'
  have c0k := Sk.out.m.c0; have c1k := Sk.out.m.c1
  clear B3 T3
  clear hb
  clear K3
  go_wp2_with fail
  refine (a2At_any _ a1 n1 cap1 1 N (by omega) (by omega) (by omega) _ (HE1.out.at B4.out)).mono ?_
  rintro e w6 ⟨vx, hvx, rfl, rfl⟩
  have hx : vx < 2 ^ C := by rw [HN.out]; exact hvx
  have HX := Lib.hid hx; clear hx hnk
  go_wp2_with fail
  go_loop [12, 13] (fun z i => ∃ j : Nat, j ≤ na ∧ i = .int .i64 j ∧ z = .bool (allz L vx C j)) (fun _ i => na - (intOf i).toNat)
  case atStart => exact ⟨0, Nat.zero_le _, rfl, rfl⟩
  case round =>
    obtain ⟨j, hj, rfl, rfl⟩ := hrel
    by_cases hlt : j < na
    · obtain ⟨ga, hAe, -, hca⟩ := Sa.out.r.cell j hlt
      have hlen : na ≤ 10 := by have := Hla.out; omega
      subst hAe
      rw [ints_get] at hca
      have hrow : nth L j < N := by have := nth_bound HLt.out j; rwa [HN.out] at this
      have hstep : allz L vx C (j + 1) = (allz L vx C j && !podd (nth L j &&& vx) C) := rfl
      generalize nth L j = row at hca hrow hstep
      have hand := i64_and_nat row vx (by omega) (by omega)
      have hal : row &&& vx < N := Nat.lt_of_le_of_lt Nat.and_le_left hrow
      obtain ⟨y, hy⟩ : ∃ y, row &&& vx = y := ⟨_, rfl⟩
      rw [hy] at hand hal hstep
      have HST := Lib.hid hstep
      clear hstep hy
      generalize allz L vx C j = zz at HST ⊢
      go_wp2_with fail
      go_loop [14, 15] (fun o c => ∃ k : Nat, k ≤ C ∧ c = .int .i64 k ∧ o = .bool (podd y k)) (fun _ c => C - (intOf c).toNat)
      case atStart => exact ⟨0, Nat.zero_le _, rfl, rfl⟩
      case round =>
        obtain ⟨k, hk, rfl, rfl⟩ := hrel
        by_cases hkC : k < C
        · have euk : (IntKind.u64.wrap (k : Int)).toNat = k := by rw [IntKind.wrap_u64]; omega
          have emk : min k 64 = k := by omega
          have hps : podd y (k + 1) = (podd y k != y.testBit k) := rfl
          have hb1 := bit_any y k (by omega)
          by_cases hb : y.testBit k = true
          · have hb2 : y / 2 ^ k % 2 = 1 := bitN_one hb
            rw [hb2] at hb1; rw [hb] at hps
            have HPS := Lib.hid hps; clear hps hb hb2
            generalize podd y k = pp at HPS ⊢
            go_wp2_with fail
            go_round
            case rel => exact ⟨k + 1, by omega, by go_num, by rw [HPS.out]; cases pp <;> rfl⟩
            case measure => simp [intOf]; omega
          · have hb2 : y / 2 ^ k % 2 = 0 := bitN_zero hb
            have hb3 : y.testBit k = false := by simpa using hb
            rw [hb2] at hb1; rw [hb3] at hps
            have HPS := Lib.hid hps; clear hps hb hb2 hb3
            generalize podd y k = pp at HPS ⊢
            go_wp2_with fail
            go_round
            case rel => exact ⟨k + 1, by omega, by go_num, by rw [HPS.out]; cases pp <;> rfl⟩
            case measure => simp [intOf]; omega
        · obtain rfl : C = k := by omega
          generalize podd y C = pp at HST ⊢
          cases zz with
          | true =>
            go_wp2_with fail
            go_round
            case rel => exact ⟨j + 1, by omega, by go_num, by rw [HST.out]; first | rfl | simp⟩
            case measure => simp [intOf]; omega
          | false =>
            go_wp2_with fail
            go_round
            case rel => exact ⟨j + 1, by omega, by go_num, by rw [HST.out]; first | rfl | simp⟩
            case measure => simp [intOf]; omega
    · obtain rfl : na = j := by omega
      have hz : allz L vx C na = true ↔ Sp (kernel C L) vx := by rw [← Hla.out, allz_iff HX.out, kernel_span HLt.out]; exact ⟨fun h => ⟨HX.out, h⟩, fun h => h.2⟩
      have HZ := Lib.hid hz
      clear hz
      generalize allz L vx C na = zz at HZ ⊢
      have hsv : ∃ (b c : Int), fSolveRows C (ints (kernel C L)) (vx : Int) = (b, c) ∧ (c == 0) = zz := by
        cases zz with
        | true => obtain ⟨k, -, -, h⟩ := fSolve_sp HOk.out HX.out (HZ.out.1 rfl); exact ⟨_, _, h, rfl⟩
        | false => exact ⟨0, 6, fSolve_nsp HOk.out HX.out (fun h => by have := HZ.out.2 h; simp at this), rfl⟩
      obtain ⟨sb, sc, hse, hsz⟩ := hsv
      have K4 : Hid (∀ W : World, Rd W W.heap.size Ak nk (ints (kernel C L)) → Calls Tryd.prog 39 #[.agg #[.int .i64 C, .slice Ak nk pk], .int .i64 (vx : Nat)] W fun e w' => e = .returned (.tuple #[.int .i64 sb, .int .i64 sc]) ∧ Below W.heap.size W w') := Lib.hid fun W hk => by
        have S := implSolveRows_anyR C Ak nk pk (ints (kernel C L)) (vx : Int) W hk; rw [hse] at S; exact S
      have HSZ := Lib.hid hsz; clear hse hsz HZ
      go_wp2_with fail
      refine (K4.out _ Sk.out.r).mono ?_
      rintro e w6 ⟨rfl, hb⟩
      have B5 := Lib.hid (B4.out.trans ((hb).mono B4.out.size)); have T5 := Lib.hid (T4.out.below (hb))
      have Sa' := Lib.hid (Sa.out.below (hb))
      clear Sa c0a c1a
      have Sa := Lib.hid Sa'.out; clear Sa'
      have c0a := Sa.out.m.c0; have c1a := Sa.out.m.c1
      have Sk' := Lib.hid (Sk.out.below (hb))
      clear Sk c0k c1k
      have Sk := Lib.hid Sk'.out; clear Sk'
      have c0k := Sk.out.m.c0; have c1k := Sk.out.m.c1
      clear B4 T4
      clear hb
      clear K4
      go_wp2_with fail
      refine (K5.out _ Sa.out.r T5.out).mono ?_
      rintro e w7 ⟨v, rfl, hb, hR⟩
      obtain ⟨As, ns, ps, rfl, hRs⟩ := hR.rd
      have Hls := Lib.hid hRs.len
      rw [ints_length] at Hls
      have hba := below_alloc1 w7 (.cells #[.int .i64 C, .slice As ns ps] 50)
      have hbt := (hb).trans (hba.mono (hb).size)
      have Ss := Lib.hid (SpR.new hRs C ps 50)
      have B6 := Lib.hid (B5.out.trans ((hbt).mono B5.out.size)); have T6 := Lib.hid (T5.out.below (hbt))
      have Sa' := Lib.hid (Sa.out.below (hbt))
      clear Sa c0a c1a
      have Sa := Lib.hid Sa'.out; clear Sa'
      have c0a := Sa.out.m.c0; have c1a := Sa.out.m.c1
      have Sk' := Lib.hid (Sk.out.below (hbt))
      clear Sk c0k c1k
      have Sk := Lib.hid Sk'.out; clear Sk'
      have c0k := Sk.out.m.c0; have c1k := Sk.out.m.c1
      clear B5 T5
      have c0s := Ss.out.m.c0; have c1s := Ss.out.m.c1
      clear hba hbt hb
      clear hR hRs
      clear K5
      have K6 : Hid (∀ W : World, Rd W W.heap.size As ns (ints (joined [] L)) → Tab W → Calls Tryd.prog 41 #[.agg #[.int .i64 C, .slice As ns ps]] W fun e w' => ∃ v, e = .returned (.tuple #[.agg #[.int .i64 C, v], .int .i64 0]) ∧ Below W.heap.size W w' ∧ Res w' W.heap.size w'.heap.size v (ints (kernel C L))) := Lib.hid fun W hs hT => by
        have S := implDualSpace_anyR C As ns ps (ints (joined [] L)) W hs hT; rw [fDualSpace, mkS_yes HOj.out HSJ.out.own, HKJ.out] at S; exact S
      go_wp2_with fail
      refine (K6.out _ Ss.out.r T6.out).mono ?_
      rintro e w8 ⟨v, rfl, hb, hR⟩
      obtain ⟨Ad, nd, pd, rfl, hRd⟩ := hR.rd
      have Hld := Lib.hid hRd.len
      rw [ints_length] at Hld
      have hba := below_alloc1 w8 (.cells #[.int .i64 C, .slice Ad nd pd] 50)
      have hbt := (hb).trans (hba.mono (hb).size)
      have Sd := Lib.hid (SpR.new hRd C pd 50)
      have B7 := Lib.hid (B6.out.trans ((hbt).mono B6.out.size)); have T7 := Lib.hid (T6.out.below (hbt))
      have Sa' := Lib.hid (Sa.out.below (hbt))
      clear Sa c0a c1a
      have Sa := Lib.hid Sa'.out; clear Sa'
      have c0a := Sa.out.m.c0; have c1a := Sa.out.m.c1
      have Sk' := Lib.hid (Sk.out.below (hbt))
      clear Sk c0k c1k
      have Sk := Lib.hid Sk'.out; clear Sk'
      have c0k := Sk.out.m.c0; have c1k := Sk.out.m.c1
      have Ss' := Lib.hid (Ss.out.below (hbt))
      clear Ss c0s c1s
      have Ss := Lib.hid Ss'.out; clear Ss'
      have c0s := Ss.out.m.c0; have c1s := Ss.out.m.c1
      clear B6 T6
      have c0d := Sd.out.m.c0; have c1d := Sd.out.m.c1
      clear hba hbt hb
      clear hR hRd
      clear K6
      have K7 : Hid (∀ W : World, Rd W W.heap.size Ad nd (ints (kernel C L)) → Tab W → Calls Tryd.prog 41 #[.agg #[.int .i64 C, .slice Ad nd pd]] W fun e w' => ∃ v, e = .returned (.tuple #[.agg #[.int .i64 C, v], .int .i64 0]) ∧ Below W.heap.size W w' ∧ Res w' W.heap.size w'.heap.size v (ints (joined [] L))) := Lib.hid fun W hd hT => by
        have S := implDualSpace_anyR C Ad nd pd (ints (kernel C L)) W hd hT; rw [fDualSpace, mkS_yes HOk.out HSK.out.own, HKK.out] at S; exact S
      go_wp2_with fail
      refine (K7.out _ Sd.out.r T7.out).mono ?_
      rintro e w9 ⟨v, rfl, hb, hR⟩
      obtain ⟨Ab, nb, pb, rfl, hRb⟩ := hR.rd
      have Hlb := Lib.hid hRb.len
      rw [ints_length] at Hlb
      have hba := below_alloc1 w9 (.cells #[.int .i64 C, .slice Ab nb pb] 50)
      have hbt := (hb).trans (hba.mono (hb).size)
      have Sb := Lib.hid (SpR.new hRb C pb 50)
      have B8 := Lib.hid (B7.out.trans ((hbt).mono B7.out.size)); have T8 := Lib.hid (T7.out.below (hbt))
      have Sa' := Lib.hid (Sa.out.below (hbt))
      clear Sa c0a c1a
      have Sa := Lib.hid Sa'.out; clear Sa'
      have c0a := Sa.out.m.c0; have c1a := Sa.out.m.c1
      have Sk' := Lib.hid (Sk.out.below (hbt))
      clear Sk c0k c1k
      have Sk := Lib.hid Sk'.out; clear Sk'
      have c0k := Sk.out.m.c0; have c1k := Sk.out.m.c1
      have Ss' := Lib.hid (Ss.out.below (hbt))
      clear Ss c0s c1s
      have Ss := Lib.hid Ss'.out; clear Ss'
      have c0s := Ss.out.m.c0; have c1s := Ss.out.m.c1
      have Sd' := Lib.hid (Sd.out.below (hbt))
      clear Sd c0d c1d
      have Sd := Lib.hid Sd'.out; clear Sd'
      have c0d := Sd.out.m.c0; have c1d := Sd.out.m.c1
      clear B7 T7
      have c0b := Sb.out.m.c0; have c1b := Sb.out.m.c1
      clear hba hbt hb
      clear hR hRb
      clear K7
      have K8 : Hid (∀ W : World, Rd W W.heap.size Ad nd (ints (kernel C L)) → Rd W W.heap.size Ak nk (ints (kernel C L)) → Calls Tryd.prog 35 #[.agg #[.int .i64 C, .slice Ad nd pd], .agg #[.int .i64 C, .slice Ak nk pk]] W fun e w' => e = .returned (.bool true) ∧ Below W.heap.size W w') := Lib.hid fun W hd hk => by
        have S := specSameMatrix_anyR C Ad nd pd (ints (kernel C L)) C Ak nk pk (ints (kernel C L)) W hd hk; simp only [fSameMatrix, decide_true, Bool.and_self] at S; exact S
      have K9 : Hid (∀ W : World, Rd W W.heap.size Ab nb (ints (joined [] L)) → Rd W W.heap.size As ns (ints (joined [] L)) → Calls Tryd.prog 35 #[.agg #[.int .i64 C, .slice Ab nb pb], .agg #[.int .i64 C, .slice As ns ps]] W fun e w' => e = .returned (.bool true) ∧ Below W.heap.size W w') := Lib.hid fun W hb hs => by
        have S := specSameMatrix_anyR C Ab nb pb (ints (joined [] L)) C As ns ps (ints (joined [] L)) W hb hs; simp only [fSameMatrix, decide_true, Bool.and_self] at S; exact S
      cases zz with
      | true =>
        have hs1 := HSZ.out
        have hs2 : sc = 0 := by simpa using hs1
        subst hs2
        go_wp2_with fail
        refine (K8.out _ Sd.out.r Sk.out.r).mono ?_
        rintro e w10 ⟨rfl, hb⟩
        have B9 := Lib.hid (B8.out.trans ((hb).mono B8.out.size)); have T9 := Lib.hid (T8.out.below (hb))
        have Sa' := Lib.hid (Sa.out.below (hb))
        clear Sa c0a c1a
        have Sa := Lib.hid Sa'.out; clear Sa'
        have c0a := Sa.out.m.c0; have c1a := Sa.out.m.c1
        have Sk' := Lib.hid (Sk.out.below (hb))
        clear Sk c0k c1k
        have Sk := Lib.hid Sk'.out; clear Sk'
        have c0k := Sk.out.m.c0; have c1k := Sk.out.m.c1
        have Ss' := Lib.hid (Ss.out.below (hb))
        clear Ss c0s c1s
        have Ss := Lib.hid Ss'.out; clear Ss'
        have c0s := Ss.out.m.c0; have c1s := Ss.out.m.c1
        have Sd' := Lib.hid (Sd.out.below (hb))
        clear Sd c0d c1d
        have Sd := Lib.hid Sd'.out; clear Sd'
        have c0d := Sd.out.m.c0; have c1d := Sd.out.m.c1
        have Sb' := Lib.hid (Sb.out.below (hb))
        clear Sb c0b c1b
        have Sb := Lib.hid Sb'.out; clear Sb'
        have c0b := Sb.out.m.c0; have c1b := Sb.out.m.c1
        clear B8 T8
        clear hb
        go_wp2_with fail
        refine (K9.out _ Sb.out.r Ss.out.r).mono ?_
        rintro e w11 ⟨rfl, hb⟩
        have B10 := Lib.hid (B9.out.trans ((hb).mono B9.out.size)); have T10 := Lib.hid (T9.out.below (hb))
        have Sa' := Lib.hid (Sa.out.below (hb))
        clear Sa c0a c1a
        have Sa := Lib.hid Sa'.out; clear Sa'
        have c0a := Sa.out.m.c0; have c1a := Sa.out.m.c1
        have Sk' := Lib.hid (Sk.out.below (hb))
        clear Sk c0k c1k
        have Sk := Lib.hid Sk'.out; clear Sk'
        have c0k := Sk.out.m.c0; have c1k := Sk.out.m.c1
        have Ss' := Lib.hid (Ss.out.below (hb))
        clear Ss c0s c1s
        have Ss := Lib.hid Ss'.out; clear Ss'
        have c0s := Ss.out.m.c0; have c1s := Ss.out.m.c1
        have Sd' := Lib.hid (Sd.out.below (hb))
        clear Sd c0d c1d
        have Sd := Lib.hid Sd'.out; clear Sd'
        have c0d := Sd.out.m.c0; have c1d := Sd.out.m.c1
        have Sb' := Lib.hid (Sb.out.below (hb))
        clear Sb c0b c1b
        have Sb := Lib.hid Sb'.out; clear Sb'
        have c0b := Sb.out.m.c0; have c1b := Sb.out.m.c1
        clear B9 T9
        clear hb
        go_wp2_with fail
        go_ret
        exact ⟨rfl, B10.out⟩
      | false =>
        have hs1 := HSZ.out
        have hs2 : ¬ sc = 0 := by simpa using hs1
        go_wp2_with fail
        refine (K8.out _ Sd.out.r Sk.out.r).mono ?_
        rintro e w10 ⟨rfl, hb⟩
        have B9 := Lib.hid (B8.out.trans ((hb).mono B8.out.size)); have T9 := Lib.hid (T8.out.below (hb))
        have Sa' := Lib.hid (Sa.out.below (hb))
        clear Sa c0a c1a
        have Sa := Lib.hid Sa'.out; clear Sa'
        have c0a := Sa.out.m.c0; have c1a := Sa.out.m.c1
        have Sk' := Lib.hid (Sk.out.below (hb))
        clear Sk c0k c1k
        have Sk := Lib.hid Sk'.out; clear Sk'
        have c0k := Sk.out.m.c0; have c1k := Sk.out.m.c1
        have Ss' := Lib.hid (Ss.out.below (hb))
        clear Ss c0s c1s
        have Ss := Lib.hid Ss'.out; clear Ss'
        have c0s := Ss.out.m.c0; have c1s := Ss.out.m.c1
        have Sd' := Lib.hid (Sd.out.below (hb))
        clear Sd c0d c1d
        have Sd := Lib.hid Sd'.out; clear Sd'
        have c0d := Sd.out.m.c0; have c1d := Sd.out.m.c1
        have Sb' := Lib.hid (Sb.out.below (hb))
        clear Sb c0b c1b
        have Sb := Lib.hid Sb'.out; clear Sb'
        have c0b := Sb.out.m.c0; have c1b := Sb.out.m.c1
        clear B8 T8
        clear hb
        go_wp2_with fail
        refine (K9.out _ Sb.out.r Ss.out.r).mono ?_
        rintro e w11 ⟨rfl, hb⟩
        have B10 := Lib.hid (B9.out.trans ((hb).mono B9.out.size)); have T10 := Lib.hid (T9.out.below (hb))
        have Sa' := Lib.hid (Sa.out.below (hb))
        clear Sa c0a c1a
        have Sa := Lib.hid Sa'.out; clear Sa'
        have c0a := Sa.out.m.c0; have c1a := Sa.out.m.c1
        have Sk' := Lib.hid (Sk.out.below (hb))
        clear Sk c0k c1k
        have Sk := Lib.hid Sk'.out; clear Sk'
        have c0k := Sk.out.m.c0; have c1k := Sk.out.m.c1
        have Ss' := Lib.hid (Ss.out.below (hb))
        clear Ss c0s c1s
        have Ss := Lib.hid Ss'.out; clear Ss'
        have c0s := Ss.out.m.c0; have c1s := Ss.out.m.c1
        have Sd' := Lib.hid (Sd.out.below (hb))
        clear Sd c0d c1d
        have Sd := Lib.hid Sd'.out; clear Sd'
        have c0d := Sd.out.m.c0; have c1d := Sd.out.m.c1
        have Sb' := Lib.hid (Sb.out.below (hb))
        clear Sb c0b c1b
        have Sb := Lib.hid Sb'.out; clear Sb'
        have c0b := Sb.out.m.c0; have c1b := Sb.out.m.c1
        clear B9 T9
        clear hb
        go_wp2_with fail
        go_ret
        exact ⟨rfl, B10.out⟩

set_option maxRecDepth 100000 in
theorem lifted (os : Os) (started : os.Started) (H : Type) (enc : TypeId × Value → H) :
    ReturnsInHanded {} Tryd.checked os 6 .any (fun w args => (Rows.fnKernelsSpec.pre enc Tryd.prog Tryd.f6 [] false w args ∧ laidMetH Tryd.prog listed w) ∧ sizedMet enc Tryd.prog Tryd.f6 (OpenSpec.ofChange Rows.fnKernelsSpec) false w args)
      (Rows.fnKernelsSpec.post enc Tryd.prog Tryd.f6 false true false false) := by
  refine returnsInHanded_of_change_and (C := Tryd.checked) (X := fun w _ => laidMetH Tryd.prog listed w) (fun _ _ _ hh h => h.of_heap hh) own started (by kernel_rfl) Tryd.func6
    (ChangeSpec.witness_shaped (enc := enc) (C := Tryd.checked) (os := os) (X := fun w _ => laidMetH Tryd.prog listed w) false (World.doorLaid Tryd.prog 400 os) #[.slice none 0 0, .slice none 0 0] 8 rfl (World.shaped_of_RefB (by kernel_rfl) (by kernel_rfl)) (by kernel_rfl) (by kernel_rfl) (by kernel_rfl) (door_met os _)) ?_
  intro W base args ds gs before hval0 hW _ _ hL _
  have hval : ∀ (j : Nat) t v, Tryd.f6.params[j]? = some t → args[j]? = some v → Value.okWide Tryd.prog W .any base t v := hval0
  have hT := tab_of_laid hL
  have hW' := hW
  obtain ⟨p, q, hA0, hV, rfl, hfz, hnd⟩ := hW
  have hA : DataW.TrodAll enc Tryd.prog W 0 (fun _ => true) true Tryd.f6.params.toList args.toList ds p := hA0
  rw [Tryd.params6] at hA hval
  obtain ⟨v0, vs0, dd0, ds0, pp0, qq0, hargs, rfl, rfl, h0, r0⟩ := trodAll_cons hA
  obtain ⟨v1, vs1, dd1, ds1, pp1, qq1, rfl, rfl, rfl, h1, r1⟩ := trodAll_cons r0
  obtain ⟨rfl, rfl, rfl⟩ := trodAll_nil r1
  obtain rfl : args = #[v0, v1] := by cases args; simp_all
  obtain ⟨rfl, rfl⟩ := trodVars_none hV
  have k0 := h0
  have lt0 : ∀ x ∈ pp0, x.block < W.heap.size := by obtain ⟨m, hm⟩ := k0; exact DataW.trod_lt m _ _ _ hm
  obtain ⟨a0, n0, cap0, rfl⟩ := okWide_slice Tryd.underlying33 (hval 0 33 v0 rfl rfl)
  have w0 : Bys W W.heap.size a0 n0 := by
    obtain ⟨fuel, hf⟩ := h0
    obtain ⟨A, k, c, e, w⟩ := bytes_open (v := .slice a0 n0 cap0) hf
    injection e with e1 e2 e3
    subst e1 e2 e3
    exact w
  have k1 := h1
  have lt1 : ∀ x ∈ pp1, x.block < W.heap.size := by obtain ⟨m, hm⟩ := k1; exact DataW.trod_lt m _ _ _ hm
  obtain ⟨a1, n1, cap1, rfl⟩ := okWide_slice Tryd.underlying33 (hval 1 33 v1 rfl rfl)
  have w1 : Bys W W.heap.size a1 n1 := by
    obtain ⟨fuel, hf⟩ := h1
    obtain ⟨A, k, c, e, w⟩ := bytes_open (v := .slice a1 n1 cap1) hf
    injection e with e1 e2 e3
    subst e1 e2 e3
    exact w
  clear hA0 hval0
  refine (walk a0 n0 cap0 a1 n1 cap1 W hT w0 w1).mono fun e W' ⟨he, bel⟩ => ?_
  subst he
  exact ⟨_, rfl, _, _, _, [], _, [], hW', trodAll_mk1 (shut_bool Tryd.underlying4 _), (trodAll_cons_mk (Below.trod laidOut (by kernel_rfl) (of_decide_eq_true (by kernel_rfl)) k0 bel lt0) (trodAll_cons_mk (Below.trod laidOut (by kernel_rfl) (of_decide_eq_true (by kernel_rfl)) k1 bel lt1) trodAll_mk0)), rfl, bel.frame _, fun h => by cases h⟩

theorem over : Rows.fnKernelsRow.holds Tryd.pinned (OpenSpec.ofChange Rows.fnKernelsSpec) :=
  OpenClaim.holds_of_wide 6 Tryd.f6 rfl rfl rfl rfl rfl rfl rfl ⟨rfl, rfl, rfl, rfl, rfl⟩ rfl rfl rfl rfl rfl (by kernel_rfl) Tryd.func6 (by kernel_rfl)
    (of_decide_eq_true (by kernel_rfl)) (by unfold Func.isWrapper; first | (rw [if_pos (by decide +kernel)]; kernel_rfl) | (rw [if_neg (by decide +kernel)]; exact ⟨rfl, rfl⟩))
    (fun os started H enc _ => lifted os started H enc)

theorem proved : Rows.FnKernelsCardSaid :=
  Claim7.holds_tied_plain_at .later [] [.data] true Rows.fnKernelsCard.stood.harness false
    over (fun _ h => by cases h) (by kernel_rfl) (fun _ h => by cases h) fnKernels_row_tie rfl ⟨rfl, rfl⟩ (by kernel_rfl) rfl
    (fun f fn hf hfn => by
      obtain rfl : f = 6 := Option.some.inj ((show Tryd.prog.funcNamed "loop.example/g01144/laws.FnKernels" = some 6 by kernel_rfl).symm.trans hf) |>.symm
      obtain rfl : fn = Tryd.f6 := (Option.some.inj (Tryd.func6.symm.trans hfn)).symm
      exact ⟨by kernel_rfl, fun j t ht => by
        rw [Tryd.params6] at ht
        have hm : t ∈ [33, 33] := by simpa using Array.mem_of_getElem? ht
        have hall : ([33, 33].all fun u => !Tryd.prog.wantsStandIn u) = true := by kernel_rfl
        exact (show Tryd.prog.wantsStandIn t = false by simpa using List.all_eq_true.1 hall t hm)⟩)
    (by kernel_rfl)
#print axioms proved
end Go.Proofs.YtilghmfffdmnjaaDoor.fnKernels
