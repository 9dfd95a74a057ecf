/- FnInverses: for every input the law returns true, and every argument reads afterwards as it read before. No condition. -/
import Derived.Test.YtilghmfffdmnjaaDoorRows
import Derived.WalkKit
import Derived.ProofKit
import Derived.OpenShut
import Derived.ChangeOld
import Derived.Below
import Derived.Lib.SmallJoins
import Derived.Test.YtilghmfffdmnjaaDoorDrawM
import Derived.Test.YtilghmfffdmnjaaDoorDim2
import Derived.Test.YtilghmfffdmnjaaDoorRankOf
import Derived.Test.YtilghmfffdmnjaaDoorInverseMatrix
import Derived.Test.YtilghmfffdmnjaaDoorMulMatrices
import Derived.Test.YtilghmfffdmnjaaDoorSame
import Derived.Test.YtilghmfffdmnjaaDoorLaid
import Derived.Test.YtilghmfffdmnjaaDoorTie
import Derived.Test.YtilghmfffdmnjaaDoorCards
import Derived.SevenTiedAt
namespace Go.Proofs.YtilghmfffdmnjaaDoor.fnInverses
open Go.ChangeShapes Go.WideShapes Go.ChangeAt Go.RowKit Go.Joins
set_option linter.unusedVariables false

theorem own : ownKnob Tryd.prog.godebug = none := by kernel_rfl
theorem laidOut : laidOutB Tryd.prog = true := by kernel_rfl

set_option maxRecDepth 100000 in
set_option maxHeartbeats 12800000 in
theorem walk (a0 : Option Addr) (n0 cap0 : Nat) (a1 : Option Addr) (n1 cap1 : Nat) (w : World) (hT : Tab w) (h0B : Bys w w.heap.size a0 n0) (h1B : Bys w w.heap.size a1 n1) :
    Calls Tryd.prog 5 #[.slice a0 n0 cap0, .slice a1 n1 cap1] w fun e w' => e = .returned (.bool true) ∧ Below w.heap.size w w' := by
  have hl0 := h0B.big; have hl1 := h1B.big
  by_cases hlong : 3000 < n0 ∨ 3000 < n1
  · have SL := a2Long_any a0 a1 n0 cap0 n1 cap1 hl0 hl1 w
    rw [show (decide (3000 < n0) || decide (3000 < n1)) = true by simpa using hlong] at SL
    have HSL := Lib.hid SL
    clear SL h0B h1B hlong
    go_enter Tryd.func5, Tryd.ntmps5
    go_wp2_with fail
    refine HSL.out.mono ?_
    rintro e w1 ⟨rfl, rfl⟩
    go_wp2_with fail
    go_ret
    exact ⟨rfl, Below.refl _ _⟩
  have SL := a2Long_any a0 a1 n0 cap0 n1 cap1 hl0 hl1 w
  rw [show (decide (3000 < n0) || decide (3000 < n1)) = false by simpa using hlong] at SL
  have HSL := Lib.hid SL
  have HE0 := Lib.hid h0B; have HE1 := Lib.hid h1B; have HT0 := Lib.hid hT
  clear SL h0B h1B hlong hT
  go_enter Tryd.func5, Tryd.ntmps5
  go_wp2_with fail
  refine HSL.out.mono ?_
  rintro e w1 ⟨rfl, rfl⟩
  clear HSL
  go_wp2_with fail
  refine (a2Square_any a0 n0 cap0 _ HE0.out).mono ?_
  rintro e w1 ⟨C, L, v, hC1, hC5, hLC, hLt, rfl, hR, hb⟩
  obtain ⟨Aa, na, pa, rfl, hRa⟩ := hR.rd
  have B0 := Lib.hid (Below.refl w.heap.size w); have T0 := Lib.hid HT0.out
  have Hla := Lib.hid hRa.len
  rw [ints_length] at Hla
  have hba := below_alloc1 w1 (.cells #[.int .i64 C, .slice Aa na pa] 50)
  have hbt := (hb).trans (hba.mono (hb).size)
  have Sa := Lib.hid (SpR.new hRa C pa 50)
  have B1 := Lib.hid (B0.out.trans ((hbt).mono B0.out.size)); have T1 := Lib.hid (T0.out.below (hbt))
  clear B0 T0
  have c0a := Sa.out.m.c0; have c1a := Sa.out.m.c1
  clear hba hbt hb
  clear hR hRa HE0 HE1 HT0
  have hO : OkM C L := ⟨hC1, by omega, by omega, hLt⟩
  have K1 : Hid (∀ W : World, Rd W W.heap.size Aa na (ints L) → Tab W → Calls Tryd.prog 32 #[.agg #[.int .i64 C, .slice Aa na pa]] W fun e w' => e = .returned (.tuple #[.int .i64 ((joined [] L).length : Nat), .int .i64 0]) ∧ Below W.heap.size W w') := Lib.hid fun W ha hT => by
    have S := implRankOf_anyR C Aa na pa (ints L) W ha hT; rw [fRank_yes hO] at S; exact S
  by_cases hr : (joined [] L).length = C
  · have eI : fInverseMatrix (C : Int) (ints L) = ((C : Int), ints (ivr C L), 0) := by rw [fInverseMatrix, mk1_yes hO, if_pos hLC, if_pos hr]; rfl
    have hOi : OkM C (ivr C L) := ⟨hC1, by omega, by rw [ivr_len]; omega, ivr_lt hLt hC1 hLC hr⟩
    have hrI := ivr_rank hLt hC1 hLC hr
    have eB : fInverseMatrix (C : Int) (ints (ivr C L)) = ((C : Int), ints L, 0) := by rw [fInverseMatrix, mk1_yes hOi, if_pos (ivr_len C L), if_pos hrI]; exact congrArg (fun x => ((C : Int), ints x, (0 : Int))) (ivr_back hLt hC1 hLC hr)
    have eX : fMulMatrices (C : Int) (ints L) (C : Int) (ints (ivr C L)) = ((C : Int), ints (units C), 0) := by
      rw [fMulMatrices, mk2_yes hO hOi, if_pos (ivr_len C L).symm]
      refine congrArg (fun x => ((C : Int), ints x, (0 : Int))) ?_
      rw [mulL, hLC]
      exact List.map_congr_left fun i hi => by rw [ivr_len]; exact ivr_right hLt hC1 hLC hr (List.mem_range.1 hi)
    have eY : fMulMatrices (C : Int) (ints (ivr C L)) (C : Int) (ints L) = ((C : Int), ints (units C), 0) := by
      rw [fMulMatrices, mk2_yes hOi hO, if_pos hLC.symm]
      refine congrArg (fun x => ((C : Int), ints x, (0 : Int))) ?_
      rw [mulL, ivr_len]
      exact List.map_congr_left fun i hi => by rw [hLC]; exact ivr_left hLt hC1 hLC hr (List.mem_range.1 hi)
    rw [hr] at K1
    have K2 : Hid (∀ W : World, Rd W W.heap.size Aa na (ints L) → Tab W → Calls Tryd.prog 33 #[.agg #[.int .i64 C, .slice Aa na pa]] W fun e w' => ∃ v, e = .returned (.tuple #[.agg #[.int .i64 C, v], .int .i64 0]) ∧ Below W.heap.size W w' ∧ Res w' W.heap.size w'.heap.size v (ints (ivr C L))) := Lib.hid fun W ha hT => by
      have S := implInverseMatrix_anyR C Aa na pa (ints L) W ha hT; rw [eI] at S; exact S
    have HLt := Lib.hid hLt; have HLC := Lib.hid hLC; have HeX := Lib.hid eX; have HeY := Lib.hid eY; have HeB := Lib.hid eB; clear hLt hr hLC hrI eI eB eX eY
    go_wp2_with fail
    refine (K1.out _ Sa.out.r T1.out).mono ?_
    rintro e w3 ⟨rfl, hb⟩
    have B2 := Lib.hid (B1.out.trans ((hb).mono B1.out.size)); have T2 := Lib.hid (T1.out.below (hb))
    have Sa' := Lib.hid (Sa.out.below (hb))
    clear Sa c0a c1a
    have Sa := Lib.hid Sa'.out; clear Sa'
    have c0a := Sa.out.m.c0; have c1a := Sa.out.m.c1
    clear B1 T1
    clear hb
    go_wp2_with fail
    refine (K2.out _ Sa.out.r T2.out).mono ?_
    rintro e w4 ⟨v, rfl, hb, hR⟩
    obtain ⟨Ai, ni, pi, rfl, hRi⟩ := hR.rd
    have Hli := Lib.hid hRi.len
    rw [ints_length] at Hli
    have hba := below_alloc1 w4 (.cells #[.int .i64 C, .slice Ai ni pi] 50)
    have hbt := (hb).trans (hba.mono (hb).size)
    have Si := Lib.hid (SpR.new hRi C pi 50)
    have B3 := Lib.hid (B2.out.trans ((hbt).mono B2.out.size)); have T3 := Lib.hid (T2.out.below (hbt))
    have Sa' := Lib.hid (Sa.out.below (hbt))
    clear Sa c0a c1a
    have Sa := Lib.hid Sa'.out; clear Sa'
    have c0a := Sa.out.m.c0; have c1a := Sa.out.m.c1
    clear B2 T2
    have c0i := Si.out.m.c0; have c1i := Si.out.m.c1
    clear hba hbt hb
    clear hR hRi
    clear K1 K2
    have K3 : Hid (∀ W : World, Rd W W.heap.size Aa na (ints L) → Rd W W.heap.size Ai ni (ints (ivr C L)) → Calls Tryd.prog 34 #[.agg #[.int .i64 C, .slice Aa na pa], .agg #[.int .i64 C, .slice Ai ni pi]] W fun e w' => ∃ v, e = .returned (.tuple #[.agg #[.int .i64 C, v], .int .i64 0]) ∧ Below W.heap.size W w' ∧ Res w' W.heap.size w'.heap.size v (ints (units C))) := Lib.hid fun W ha hi => by
      have S := implMulMatrices_anyR C Aa na pa (ints L) C Ai ni pi (ints (ivr C L)) W ha hi; rw [HeX.out] at S; exact S
    have K4 : Hid (∀ W : World, Rd W W.heap.size Ai ni (ints (ivr C L)) → Rd W W.heap.size Aa na (ints L) → Calls Tryd.prog 34 #[.agg #[.int .i64 C, .slice Ai ni pi], .agg #[.int .i64 C, .slice Aa na pa]] W fun e w' => ∃ v, e = .returned (.tuple #[.agg #[.int .i64 C, v], .int .i64 0]) ∧ Below W.heap.size W w' ∧ Res w' W.heap.size w'.heap.size v (ints (units C))) := Lib.hid fun W hi ha => by
      have S := implMulMatrices_anyR C Ai ni pi (ints (ivr C L)) C Aa na pa (ints L) W hi ha; rw [HeY.out] at S; exact S
    go_wp2_with fail
    refine (K3.out _ Sa.out.r Si.out.r).mono ?_
    rintro e w5 ⟨v, rfl, hb, hR⟩
    obtain ⟨Ax, nx, px, rfl, hRx⟩ := hR.rd
    have Hlx := Lib.hid hRx.len
    rw [ints_length] at Hlx
    have hba := below_alloc1 w5 (.cells #[.int .i64 C, .slice Ax nx px] 50)
    have hbt := (hb).trans (hba.mono (hb).size)
    have Sx := Lib.hid (SpR.new hRx C px 50)
    have B4 := Lib.hid (B3.out.trans ((hbt).mono B3.out.size)); have T4 := Lib.hid (T3.out.below (hbt))
    have Sa' := Lib.hid (Sa.out.below (hbt))
    clear Sa c0a c1a
    have Sa := Lib.hid Sa'.out; clear Sa'
    have c0a := Sa.out.m.c0; have c1a := Sa.out.m.c1
    have Si' := Lib.hid (Si.out.below (hbt))
    clear Si c0i c1i
    have Si := Lib.hid Si'.out; clear Si'
    have c0i := Si.out.m.c0; have c1i := Si.out.m.c1
    clear B3 T3
    have c0x := Sx.out.m.c0; have c1x := Sx.out.m.c1
    clear hba hbt hb
    clear hR hRx
    go_wp2_with fail
    refine (K4.out _ Si.out.r Sa.out.r).mono ?_
    rintro e w6 ⟨v, rfl, hb, hR⟩
    obtain ⟨Ay, ny, py, rfl, hRy⟩ := hR.rd
    have Hly := Lib.hid hRy.len
    rw [ints_length] at Hly
    have hba := below_alloc1 w6 (.cells #[.int .i64 C, .slice Ay ny py] 50)
    have hbt := (hb).trans (hba.mono (hb).size)
    have Sy := Lib.hid (SpR.new hRy C py 50)
    have B5 := Lib.hid (B4.out.trans ((hbt).mono B4.out.size)); have T5 := Lib.hid (T4.out.below (hbt))
    have Sa' := Lib.hid (Sa.out.below (hbt))
    clear Sa c0a c1a
    have Sa := Lib.hid Sa'.out; clear Sa'
    have c0a := Sa.out.m.c0; have c1a := Sa.out.m.c1
    have Si' := Lib.hid (Si.out.below (hbt))
    clear Si c0i c1i
    have Si := Lib.hid Si'.out; clear Si'
    have c0i := Si.out.m.c0; have c1i := Si.out.m.c1
    have Sx' := Lib.hid (Sx.out.below (hbt))
    clear Sx c0x c1x
    have Sx := Lib.hid Sx'.out; clear Sx'
    have c0x := Sx.out.m.c0; have c1x := Sx.out.m.c1
    clear B4 T4
    have c0y := Sy.out.m.c0; have c1y := Sy.out.m.c1
    clear hba hbt hb
    clear hR hRy
    clear K3 K4
    have hxi : ((nx : Int) != (C : Int)) = false := by have := Hlx.out; simp [units] at this; simp; omega
    have K5 : Hid (∀ W : World, Rd W W.heap.size Ax nx (ints (units C)) → Rd W W.heap.size Ay ny (ints (units C)) → Calls Tryd.prog 35 #[.agg #[.int .i64 C, .slice Ax nx px], .agg #[.int .i64 C, .slice Ay ny py]] W fun e w' => e = .returned (.bool true) ∧ Below W.heap.size W w') := Lib.hid fun W hx hy => by
      have S := specSameMatrix_anyR C Ax nx px (ints (units C)) C Ay ny py (ints (units C)) W hx hy; simp only [fSameMatrix, decide_true, Bool.and_self] at S; exact S
    go_wp2_with fail
    refine (K5.out _ Sx.out.r Sy.out.r).mono ?_
    rintro e w7 ⟨rfl, hb⟩
    have B6 := Lib.hid (B5.out.trans ((hb).mono B5.out.size)); have T6 := Lib.hid (T5.out.below (hb))
    have Sa' := Lib.hid (Sa.out.below (hb))
    clear Sa c0a c1a
    have Sa := Lib.hid Sa'.out; clear Sa'
    have c0a := Sa.out.m.c0; have c1a := Sa.out.m.c1
    have Si' := Lib.hid (Si.out.below (hb))
    clear Si c0i c1i
    have Si := Lib.hid Si'.out; clear Si'
    have c0i := Si.out.m.c0; have c1i := Si.out.m.c1
    have Sx' := Lib.hid (Sx.out.below (hb))
    clear Sx c0x c1x
    have Sx := Lib.hid Sx'.out; clear Sx'
    have c0x := Sx.out.m.c0; have c1x := Sx.out.m.c1
    have Sy' := Lib.hid (Sy.out.below (hb))
    clear Sy c0y c1y
    have Sy := Lib.hid Sy'.out; clear Sy'
    have c0y := Sy.out.m.c0; have c1y := Sy.out.m.c1
    clear B5 T5
    clear hb
    clear K5
    have K6 : Hid (∀ W : World, Rd W W.heap.size Ai ni (ints (ivr C L)) → Tab W → Calls Tryd.prog 33 #[.agg #[.int .i64 C, .slice Ai ni pi]] W fun e w' => ∃ v, e = .returned (.tuple #[.agg #[.int .i64 C, v], .int .i64 0]) ∧ Below W.heap.size W w' ∧ Res w' W.heap.size w'.heap.size v (ints L)) := Lib.hid fun W hi hT => by
      have S := implInverseMatrix_anyR C Ai ni pi (ints (ivr C L)) W hi hT; rw [HeB.out] at S; exact S
    go_wp2_with fail
    go_loop [14] (fun i => ∃ j : Nat, j ≤ C ∧ i = .int .i64 j) (fun i => C - (intOf i).toNat)
    case atStart => exact ⟨0, Nat.zero_le _, rfl⟩
    case round =>
      obtain ⟨j, hj, rfl⟩ := hrel
      by_cases hlt : j < C
      · have hjn : j < nx := by have := Hlx.out; simp [units] at this; omega
        obtain ⟨gx, hAe, -, hcx⟩ := Sx.out.r.cell j hjn
        subst hAe
        rw [ints_get, show nth (units C) j = 2 ^ j from range_nth hlt] at hcx
        have eu : (IntKind.u64.wrap (j : Int)).toNat = j := by rw [IntKind.wrap_u64]; omega
        have em : min j 64 = j := by omega
        obtain ⟨N, hN⟩ : ∃ N, 2 ^ j = N := ⟨_, rfl⟩
        have hN32 : N ≤ 32 := by rw [← hN]; exact Nat.pow_le_pow_right (n := 2) (by omega) (show j ≤ 5 by omega)
        have hsh : (2 : Int) ^ j = (N : Int) := by rw [← hN]; simp
        rw [hN] at hcx
        clear hN
        go_wp2_with fail
        go_round
        case rel => exact ⟨j + 1, by omega, by go_num⟩
        case measure => simp [intOf]; omega
      · obtain rfl : C = j := by omega
        have hjn : ¬ (C : Int) < (nx : Int) := by have := Hlx.out; simp [units] at this; omega
        go_wp2_with fail
        refine (K6.out _ Si.out.r T6.out).mono ?_
        rintro e w8 ⟨v, rfl, hb, hR⟩
        obtain ⟨Az, nz, pz, rfl, hRz⟩ := hR.rd
        have Hlz := Lib.hid hRz.len
        rw [ints_length] at Hlz
        have hba := below_alloc1 w8 (.cells #[.int .i64 C, .slice Az nz pz] 50)
        have hbt := (hb).trans (hba.mono (hb).size)
        have Sz := Lib.hid (SpR.new hRz C pz 50)
        have B7 := Lib.hid (B6.out.trans ((hbt).mono B6.out.size)); have T7 := Lib.hid (T6.out.below (hbt))
        have Sa' := Lib.hid (Sa.out.below (hbt))
        clear Sa c0a c1a
        have Sa := Lib.hid Sa'.out; clear Sa'
        have c0a := Sa.out.m.c0; have c1a := Sa.out.m.c1
        have Si' := Lib.hid (Si.out.below (hbt))
        clear Si c0i c1i
        have Si := Lib.hid Si'.out; clear Si'
        have c0i := Si.out.m.c0; have c1i := Si.out.m.c1
        have Sx' := Lib.hid (Sx.out.below (hbt))
        clear Sx c0x c1x
        have Sx := Lib.hid Sx'.out; clear Sx'
        have c0x := Sx.out.m.c0; have c1x := Sx.out.m.c1
        have Sy' := Lib.hid (Sy.out.below (hbt))
        clear Sy c0y c1y
        have Sy := Lib.hid Sy'.out; clear Sy'
        have c0y := Sy.out.m.c0; have c1y := Sy.out.m.c1
        clear B6 T6
        have c0z := Sz.out.m.c0; have c1z := Sz.out.m.c1
        clear hba hbt hb
        clear hR hRz
        clear K6
        have K7 : Hid (∀ W : World, Rd W W.heap.size Az nz (ints L) → Rd W W.heap.size Aa na (ints L) → Calls Tryd.prog 35 #[.agg #[.int .i64 C, .slice Az nz pz], .agg #[.int .i64 C, .slice Aa na pa]] W fun e w' => e = .returned (.bool true) ∧ Below W.heap.size W w') := Lib.hid fun W hz ha => by
          have S := specSameMatrix_anyR C Az nz pz (ints L) C Aa na pa (ints L) W hz ha; simp only [fSameMatrix, decide_true, Bool.and_self] at S; exact S
        go_wp2_with fail
        refine (K7.out _ Sz.out.r Sa.out.r).mono ?_
        rintro e w9 ⟨rfl, hb⟩
        have B8 := Lib.hid (B7.out.trans ((hb).mono B7.out.size)); have T8 := Lib.hid (T7.out.below (hb))
        have Sa' := Lib.hid (Sa.out.below (hb))
        clear Sa c0a c1a
        have Sa := Lib.hid Sa'.out; clear Sa'
        have c0a := Sa.out.m.c0; have c1a := Sa.out.m.c1
        have Si' := Lib.hid (Si.out.below (hb))
        clear Si c0i c1i
        have Si := Lib.hid Si'.out; clear Si'
        have c0i := Si.out.m.c0; have c1i := Si.out.m.c1
        have Sx' := Lib.hid (Sx.out.below (hb))
        clear Sx c0x c1x
        have Sx := Lib.hid Sx'.out; clear Sx'
        have c0x := Sx.out.m.c0; have c1x := Sx.out.m.c1
        have Sy' := Lib.hid (Sy.out.below (hb))
        clear Sy c0y c1y
        have Sy := Lib.hid Sy'.out; clear Sy'
        have c0y := Sy.out.m.c0; have c1y := Sy.out.m.c1
        have Sz' := Lib.hid (Sz.out.below (hb))
        clear Sz c0z c1z
        have Sz := Lib.hid Sz'.out; clear Sz'
        have c0z := Sz.out.m.c0; have c1z := Sz.out.m.c1
        clear B7 T7
        clear hb
        go_wp2_with fail
        go_ret
        exact ⟨rfl, B8.out⟩
  · have eI : fInverseMatrix (C : Int) (ints L) = (0, [], 4) := by rw [fInverseMatrix, mk1_yes hO, if_pos hLC, if_neg hr]
    have hrC : (((joined [] L).length : Nat) : Int) ≠ (C : Int) := by omega
    obtain ⟨r, hre⟩ : ∃ r, (joined [] L).length = r := ⟨_, rfl⟩
    rw [hre] at K1 hrC
    have hrB : ((r : Int) == (C : Int)) = false := by simp; omega
    have K2 : Hid (∀ W : World, Rd W W.heap.size Aa na (ints L) → Tab W → Calls Tryd.prog 33 #[.agg #[.int .i64 C, .slice Aa na pa]] W fun e w' => ∃ v, e = .returned (.tuple #[.agg #[.int .i64 (0 : Int), v], .int .i64 4]) ∧ Below W.heap.size W w' ∧ Res w' W.heap.size w'.heap.size v (ints [])) := Lib.hid fun W ha hT => by
      have S := implInverseMatrix_anyR C Aa na pa (ints L) W ha hT; rw [eI] at S; exact S
    clear hLt hr hLC eI hre hrC
    go_wp2_with fail
    refine (K1.out _ Sa.out.r T1.out).mono ?_
    rintro e w3 ⟨rfl, hb⟩
    have B2 := Lib.hid (B1.out.trans ((hb).mono B1.out.size)); have T2 := Lib.hid (T1.out.below (hb))
    have Sa' := Lib.hid (Sa.out.below (hb))
    clear Sa c0a c1a
    have Sa := Lib.hid Sa'.out; clear Sa'
    have c0a := Sa.out.m.c0; have c1a := Sa.out.m.c1
    clear B1 T1
    clear hb
    go_wp2_with fail
    refine (K2.out _ Sa.out.r T2.out).mono ?_
    rintro e w4 ⟨v, rfl, hb, hR⟩
    obtain ⟨Ai, ni, pi, rfl, hRi⟩ := hR.rd
    have Hli := Lib.hid hRi.len
    rw [ints_length] at Hli
    have hba := below_alloc1 w4 (.cells #[.int .i64 (0 : Int), .slice Ai ni pi] 50)
    have hbt := (hb).trans (hba.mono (hb).size)
    have Si := Lib.hid (SpR.new hRi (0 : Int) pi 50)
    have B3 := Lib.hid (B2.out.trans ((hbt).mono B2.out.size)); have T3 := Lib.hid (T2.out.below (hbt))
    have Sa' := Lib.hid (Sa.out.below (hbt))
    clear Sa c0a c1a
    have Sa := Lib.hid Sa'.out; clear Sa'
    have c0a := Sa.out.m.c0; have c1a := Sa.out.m.c1
    clear B2 T2
    have c0i := Si.out.m.c0; have c1i := Si.out.m.c1
    clear hba hbt hb
    clear hR hRi
    go_wp2_with fail
    go_ret
    exact ⟨rfl, B3.out⟩

set_option maxRecDepth 100000 in
theorem lifted (os : Os) (started : os.Started) (H : Type) (enc : TypeId × Value → H) :
    ReturnsInHanded {} Tryd.checked os 5 .any (fun w args => (Rows.fnInversesSpec.pre enc Tryd.prog Tryd.f5 [] false w args ∧ laidMetH Tryd.prog listed w) ∧ sizedMet enc Tryd.prog Tryd.f5 (OpenSpec.ofChange Rows.fnInversesSpec) false w args)
      (Rows.fnInversesSpec.post enc Tryd.prog Tryd.f5 false true false false) := by
  refine returnsInHanded_of_change_and (C := Tryd.checked) (X := fun w _ => laidMetH Tryd.prog listed w) (fun _ _ _ hh h => h.of_heap hh) own started (by kernel_rfl) Tryd.func5
    (ChangeSpec.witness_shaped (enc := enc) (C := Tryd.checked) (os := os) (X := fun w _ => laidMetH Tryd.prog listed w) false (World.doorLaid Tryd.prog 400 os) #[.slice none 0 0, .slice none 0 0] 8 rfl (World.shaped_of_RefB (by kernel_rfl) (by kernel_rfl)) (by kernel_rfl) (by kernel_rfl) (by kernel_rfl) (door_met os _)) ?_
  intro W base args ds gs before hval0 hW _ _ hL _
  have hval : ∀ (j : Nat) t v, Tryd.f5.params[j]? = some t → args[j]? = some v → Value.okWide Tryd.prog W .any base t v := hval0
  have hT := tab_of_laid hL
  have hW' := hW
  obtain ⟨p, q, hA0, hV, rfl, hfz, hnd⟩ := hW
  have hA : DataW.TrodAll enc Tryd.prog W 0 (fun _ => true) true Tryd.f5.params.toList args.toList ds p := hA0
  rw [Tryd.params5] at hA hval
  obtain ⟨v0, vs0, dd0, ds0, pp0, qq0, hargs, rfl, rfl, h0, r0⟩ := trodAll_cons hA
  obtain ⟨v1, vs1, dd1, ds1, pp1, qq1, rfl, rfl, rfl, h1, r1⟩ := trodAll_cons r0
  obtain ⟨rfl, rfl, rfl⟩ := trodAll_nil r1
  obtain rfl : args = #[v0, v1] := by cases args; simp_all
  obtain ⟨rfl, rfl⟩ := trodVars_none hV
  have k0 := h0
  have lt0 : ∀ x ∈ pp0, x.block < W.heap.size := by obtain ⟨m, hm⟩ := k0; exact DataW.trod_lt m _ _ _ hm
  obtain ⟨a0, n0, cap0, rfl⟩ := okWide_slice Tryd.underlying33 (hval 0 33 v0 rfl rfl)
  have w0 : Bys W W.heap.size a0 n0 := by
    obtain ⟨fuel, hf⟩ := h0
    obtain ⟨A, k, c, e, w⟩ := bytes_open (v := .slice a0 n0 cap0) hf
    injection e with e1 e2 e3
    subst e1 e2 e3
    exact w
  have k1 := h1
  have lt1 : ∀ x ∈ pp1, x.block < W.heap.size := by obtain ⟨m, hm⟩ := k1; exact DataW.trod_lt m _ _ _ hm
  obtain ⟨a1, n1, cap1, rfl⟩ := okWide_slice Tryd.underlying33 (hval 1 33 v1 rfl rfl)
  have w1 : Bys W W.heap.size a1 n1 := by
    obtain ⟨fuel, hf⟩ := h1
    obtain ⟨A, k, c, e, w⟩ := bytes_open (v := .slice a1 n1 cap1) hf
    injection e with e1 e2 e3
    subst e1 e2 e3
    exact w
  clear hA0 hval0
  refine (walk a0 n0 cap0 a1 n1 cap1 W hT w0 w1).mono fun e W' ⟨he, bel⟩ => ?_
  subst he
  exact ⟨_, rfl, _, _, _, [], _, [], hW', trodAll_mk1 (shut_bool Tryd.underlying4 _), (trodAll_cons_mk (Below.trod laidOut (by kernel_rfl) (of_decide_eq_true (by kernel_rfl)) k0 bel lt0) (trodAll_cons_mk (Below.trod laidOut (by kernel_rfl) (of_decide_eq_true (by kernel_rfl)) k1 bel lt1) trodAll_mk0)), rfl, bel.frame _, fun h => by cases h⟩

theorem over : Rows.fnInversesRow.holds Tryd.pinned (OpenSpec.ofChange Rows.fnInversesSpec) :=
  OpenClaim.holds_of_wide 5 Tryd.f5 rfl rfl rfl rfl rfl rfl rfl ⟨rfl, rfl, rfl, rfl, rfl⟩ rfl rfl rfl rfl rfl (by kernel_rfl) Tryd.func5 (by kernel_rfl)
    (of_decide_eq_true (by kernel_rfl)) (by unfold Func.isWrapper; first | (rw [if_pos (by decide +kernel)]; kernel_rfl) | (rw [if_neg (by decide +kernel)]; exact ⟨rfl, rfl⟩))
    (fun os started H enc _ => lifted os started H enc)

theorem proved : Rows.FnInversesCardSaid :=
  Claim7.holds_tied_plain_at .later [] [.data] true Rows.fnInversesCard.stood.harness false
    over (fun _ h => by cases h) (by kernel_rfl) (fun _ h => by cases h) fnInverses_row_tie rfl ⟨rfl, rfl⟩ (by kernel_rfl) rfl
    (fun f fn hf hfn => by
      obtain rfl : f = 5 := Option.some.inj ((show Tryd.prog.funcNamed "loop.example/g01144/laws.FnInverses" = some 5 by kernel_rfl).symm.trans hf) |>.symm
      obtain rfl : fn = Tryd.f5 := (Option.some.inj (Tryd.func5.symm.trans hfn)).symm
      exact ⟨by kernel_rfl, fun j t ht => by
        rw [Tryd.params5] at ht
        have hm : t ∈ [33, 33] := by simpa using Array.mem_of_getElem? ht
        have hall : ([33, 33].all fun u => !Tryd.prog.wantsStandIn u) = true := by kernel_rfl
        exact (show Tryd.prog.wantsStandIn t = false by simpa using List.all_eq_true.1 hall t hm)⟩)
    (by kernel_rfl)
#print axioms proved
end Go.Proofs.YtilghmfffdmnjaaDoor.fnInverses
