/- FnSumsAndMeets: for every input the law returns true, and every argument reads afterwards as it read before. No condition. -/
import Derived.Test.YtilghmfffdmnjaaDoorRows
import Derived.WalkKit
import Derived.ProofKit
import Derived.OpenShut
import Derived.ChangeOld
import Derived.Below
import Derived.Lib.SmallJoins
import Derived.Test.YtilghmfffdmnjaaDoorDrawA
import Derived.Test.YtilghmfffdmnjaaDoorDim2
import Derived.Test.YtilghmfffdmnjaaDoorSumOf
import Derived.Test.YtilghmfffdmnjaaDoorMeetOf
import Derived.Test.YtilghmfffdmnjaaDoorContains
import Derived.Test.YtilghmfffdmnjaaDoorDualSpace
import Derived.Test.YtilghmfffdmnjaaDoorDistanceOf
import Derived.Test.YtilghmfffdmnjaaDoorSame
import Derived.Test.YtilghmfffdmnjaaDoorIsSpace
import Derived.Test.YtilghmfffdmnjaaDoorLaid
import Derived.Test.YtilghmfffdmnjaaDoorTie
import Derived.Test.YtilghmfffdmnjaaDoorCards
import Derived.SevenTiedAt
namespace Go.Proofs.YtilghmfffdmnjaaDoor.fnSumsAndMeets
open Go.ChangeShapes Go.WideShapes Go.ChangeAt Go.RowKit Go.Joins
set_option linter.unusedVariables false

theorem own : ownKnob Tryd.prog.godebug = none := by kernel_rfl
theorem laidOut : laidOutB Tryd.prog = true := by kernel_rfl

set_option maxRecDepth 100000 in
set_option maxHeartbeats 12800000 in
theorem walk (a0 : Option Addr) (n0 cap0 : Nat) (a1 : Option Addr) (n1 cap1 : Nat) (w : World) (hT : Tab w) (h0B : Bys w w.heap.size a0 n0) (h1B : Bys w w.heap.size a1 n1) :
    Calls Tryd.prog 8 #[.slice a0 n0 cap0, .slice a1 n1 cap1] w fun e w' => e = .returned (.bool true) ∧ Below w.heap.size w w' := by
  have hl0 := h0B.big; have hl1 := h1B.big
  by_cases hlong : 3000 < n0 ∨ 3000 < n1
  · have SL := a2Long_any a0 a1 n0 cap0 n1 cap1 hl0 hl1 w
    rw [show (decide (3000 < n0) || decide (3000 < n1)) = true by simpa using hlong] at SL
    have HSL := Lib.hid SL
    clear SL h0B h1B hlong
    go_enter Tryd.func8, Tryd.ntmps8
    go_wp2_with fail
    refine HSL.out.mono ?_
    rintro e w1 ⟨rfl, rfl⟩
    go_wp2_with fail
    go_ret
    exact ⟨rfl, Below.refl _ _⟩
  have hn0 : n0 ≤ 3000 := by omega
  have SL := a2Long_any a0 a1 n0 cap0 n1 cap1 hl0 hl1 w
  rw [show (decide (3000 < n0) || decide (3000 < n1)) = false by simpa using hlong] at SL
  have HSL := Lib.hid SL
  have HE0 := Lib.hid h0B; have HE1 := Lib.hid h1B; have HT0 := Lib.hid hT
  clear SL h0B h1B hlong hT
  go_enter Tryd.func8, Tryd.ntmps8
  go_wp2_with fail
  refine HSL.out.mono ?_
  rintro e w1 ⟨rfl, rfl⟩
  clear HSL
  go_wp2_with fail
  have B0 := Lib.hid (Below.refl w.heap.size w); have T0 := Lib.hid HT0.out
  refine (a2At_any _ a1 n1 cap1 0 6 (by omega) (by omega) (by omega) _ HE1.out).mono ?_
  rintro e w1 ⟨vc, hvc, rfl, rfl⟩
  obtain ⟨C, hC⟩ : ∃ C, 1 + vc = C := ⟨_, rfl⟩
  have hC1 : 1 ≤ C := by omega
  have hC6 : C ≤ 6 := by omega
  have hCi : (1 : Int) + (vc : Int) = (C : Int) := by omega
  clear hC
  obtain ⟨N, hN⟩ : ∃ N, 2 ^ C = N := ⟨_, rfl⟩
  have hN64 : N ≤ 64 := by rw [← hN]; exact Nat.pow_le_pow_right (n := 2) (by omega) hC6
  have hN1 : 1 ≤ N := by rw [← hN]; exact Nat.two_pow_pos C
  have hsh : (2 : Int) ^ C = (N : Int) := by rw [← hN]; simp
  have eu : (IntKind.u64.wrap (C : Int)).toNat = C := by rw [IntKind.wrap_u64]; omega
  have em : min C 64 = C := by omega
  have HN := Lib.hid hN; clear hN
  go_wp2_with fail
  refine (a2Space_any a0 n0 cap0 C hC1 hC6 _ HE0.out).mono ?_
  rintro e w1 ⟨U, v, hU, hUt, rfl, hR, hb⟩
  obtain ⟨Au, nu, pu, rfl, hRu⟩ := hR.rd
  have Hlu := Lib.hid hRu.len
  rw [ints_length] at Hlu
  have hba := below_alloc1 w1 (.cells #[.int .i64 C, .slice Au nu pu] 50)
  have hbt := (hb).trans (hba.mono (hb).size)
  have Su := Lib.hid (SpR.new hRu C pu 50)
  have B1 := Lib.hid (B0.out.trans ((hbt).mono B0.out.size)); have T1 := Lib.hid (T0.out.below (hbt))
  clear B0 T0
  have c0u := Su.out.m.c0; have c1u := Su.out.m.c1
  clear hba hbt hb
  clear hR hRu HT0
  go_wp2_with fail
  refine (a2Space_any a1 n1 cap1 C hC1 hC6 _ (HE1.out.at B1.out)).mono ?_
  rintro e w2 ⟨V, v, hV, hVt, rfl, hR, hb⟩
  obtain ⟨Av, nv, pv, rfl, hRv⟩ := hR.rd
  have Hlv := Lib.hid hRv.len
  rw [ints_length] at Hlv
  have hba := below_alloc1 w2 (.cells #[.int .i64 C, .slice Av nv pv] 50)
  have hbt := (hb).trans (hba.mono (hb).size)
  have Sv := Lib.hid (SpR.new hRv C pv 50)
  have B2 := Lib.hid (B1.out.trans ((hbt).mono B1.out.size)); have T2 := Lib.hid (T1.out.below (hbt))
  have Su' := Lib.hid (Su.out.below (hbt))
  clear Su c0u c1u
  have Su := Lib.hid Su'.out; clear Su'
  have c0u := Su.out.m.c0; have c1u := Su.out.m.c1
  clear B1 T1
  have c0v := Sv.out.m.c0; have c1v := Sv.out.m.c1
  clear hba hbt hb
  clear hR hRv
  go_upto_region 6 with fail
  have hwz : w2.heap.size < (w2.alloc (.cells #[.int .i64 C, .slice Av nv pv] 50)).heap.size := by simp
  have HB0 := Lib.hid (HE0.out.at B2.out)
  clear HE0
  go_cut [8] (fun p wx => ∃ (q8 : Nat) (X : List Nat) (Ax : Option Addr) (nx px : Nat), p = .pointer (some ⟨q8, 0, none⟩) ∧ joined [] X = X ∧ (∀ r ∈ X, r < 2 ^ C) ∧ SpR wx q8 C Ax nx px (ints X) ∧ Below (w2.heap.size + 1) (w2.alloc (.cells #[.int .i64 C, .slice Av nv pv] 50)) wx)
  case first =>
    have hown0 := World.ownsRow_lit (base := (w2.alloc (.cells #[.int .i64 C, .slice Av nv pv] 50)).heap.size) (e := 5) (size := 1) (w2.alloc (.cells #[.int .i64 C, .slice Av nv pv] 50)) #[.int .u8 3] 1 (Nat.le_refl _) (by unfold maxLen; omega) rfl
    rw [World.size_alloc] at hown0
    have hba := below_alloc1 (w2.alloc (.cells #[.int .i64 C, .slice Av nv pv] 50)) (.cells #[.int .u8 3] 5)
    have hba2 : Below (w2.heap.size + 1) (w2.alloc (.cells #[.int .i64 C, .slice Av nv pv] 50)) ((w2.alloc (.cells #[.int .i64 C, .slice Av nv pv] 50)).alloc (.cells #[.int .u8 3] 5)) := by have := hba; rwa [World.size_alloc] at this
    obtain ⟨bl, hbl, hb256, hbc⟩ := (HB0.out.below hba).list
    obtain ⟨i0, hi, hz0, hz1, hz2⟩ := info_parts Tryd.infoB
    by_cases h0 : n0 = 0
    · subst h0
      have hBy := Lib.hid (Bys.of_own (n := 1) (L := [3]) (by omega) hown0 (by simp))
      have HBA := Lib.hid hba2; clear hown0 hba hba2 hbc hb256 hbl
      go_wp2_with (at_builtin; refine wpList_append_zero rfl _ _ 33 rfl 5 i0 Tryd.underlying33 hi (some ⟨w2.heap.size + 1, 0, none⟩) 1 1 (Nat.le_refl _) (by simp [Act.eval]) a0 cap0 (by simp [Act.eval]) ?_)
      go_wp2_with fail
      refine (a2Space_any _ 1 1 C hC1 hC6 _ hBy.out).mono ?_
      rintro e w6 ⟨X, v, hX, hXt, rfl, hR, hb⟩
      obtain ⟨Ax, nx, px, rfl, hRx⟩ := hR.rd
      have hSX := Lib.hid (SpR.new hRx C px 50)
      have hBX := Lib.hid ((HBA.out.trans (hb.mono (Nat.le_trans (Nat.le_of_eq (World.size_alloc _ _).symm) HBA.out.size))).trans ((below_alloc1 w6 (.cells #[.int .i64 C, .slice Ax nx px] 50)).mono (Nat.le_trans (Nat.le_trans (Nat.le_of_eq (World.size_alloc _ _).symm) HBA.out.size) hb.size)))
      clear hR hRx hb
      go_wp2_with fail
      go_meet
      exact ⟨_, X, Ax, nx, px, rfl, hX, hXt, hSX.out, hBX.out⟩
    · obtain ⟨ad, rfl, -, hnews⟩ := hbc (by omega)
      have HBL := Lib.hid hb256; have HL2 := Lib.hid hbl; clear hba hba2 hb256 hbl hbc
      go_wp2_with (at_builtin; refine wpList_append_own _ rfl _ _ 33 rfl (w2.heap.size + 1) 5 i0 (.int .u8 0) 1 1 Tryd.underlying33 hi hz0 hz1 hz2 rfl (by decide) _ _ _ rfl hown0 ad n0 cap0 (bl.map fun (b : Nat) => Value.int .u8 (b : Int)) rfl (by simp [HL2.out]) hnews (by simp [Value.oneCell']) (by unfold maxLen; omega) (by omega) (by simp) ?_; intro v' w5 hown' hgrow _; obtain ⟨g5, c5, rfl, hby⟩ := Bys.of_app hn0 HBL.out hown'; have hBy := Lib.hid hby; clear hby; have HBA := Lib.hid (Below.grown ((Below.refl (w2.heap.size + 1) (w2.alloc (.cells #[.int .i64 C, .slice Av nv pv] 50))).alloc (by simp) (.cells #[.int .u8 3] 5)) hgrow (by simp) (fun g hg => (hown0.lt g hg).1)); clear hown' hgrow)
      clear hown0 hnews
      go_wp2_with fail
      refine (a2Space_any _ (1 + n0) c5 C hC1 hC6 _ hBy.out).mono ?_
      rintro e w6 ⟨X, v, hX, hXt, rfl, hR, hb⟩
      obtain ⟨Ax, nx, px, rfl, hRx⟩ := hR.rd
      have hSX := Lib.hid (SpR.new hRx C px 50)
      have hBX := Lib.hid ((HBA.out.trans (hb.mono (Nat.le_trans (Nat.le_of_eq (World.size_alloc _ _).symm) HBA.out.size))).trans ((below_alloc1 w6 (.cells #[.int .i64 C, .slice Ax nx px] 50)).mono (Nat.le_trans (Nat.le_trans (Nat.le_of_eq (World.size_alloc _ _).symm) HBA.out.size) hb.size)))
      clear hR hRx hb
      go_wp2_with fail
      go_meet
      exact ⟨_, X, Ax, nx, px, rfl, hX, hXt, hSX.out, hBX.out⟩
  case rest =>
    obtain ⟨W5, rfl⟩ : ∃ x, x = wc := ⟨wc, rfl⟩
    obtain ⟨q8, X, Ax, nx, px, rfl, hX, hXt, hSX, hBX⟩ := hcut
    have Sx := Lib.hid hSX; clear hSX HB0
    have hBX2 : Below (w2.alloc (.cells #[.int .i64 C, .slice Av nv pv] 50)).heap.size (w2.alloc (.cells #[.int .i64 C, .slice Av nv pv] 50)) W5 := by rw [World.size_alloc]; exact hBX
    have B3 := Lib.hid (B2.out.trans ((hBX2).mono B2.out.size)); have T3 := Lib.hid (T2.out.below (hBX2))
    have Su' := Lib.hid (Su.out.below (hBX2))
    clear Su c0u c1u
    have Su := Lib.hid Su'.out; clear Su'
    have c0u := Su.out.m.c0; have c1u := Su.out.m.c1
    have Sv' := Lib.hid (Sv.out.below (hBX2))
    clear Sv c0v c1v
    have Sv := Lib.hid Sv'.out; clear Sv'
    have c0v := Sv.out.m.c0; have c1v := Sv.out.m.c1
    clear B2 T2
    have c0x := Sx.out.m.c0; have c1x := Sx.out.m.c1
    clear hBX hBX2 hwz
    have hu : Spc C U := ⟨hUt, hU⟩; have hv : Spc C V := ⟨hVt, hV⟩; have hx : Spc C X := ⟨hXt, hX⟩
    have hs := hu.sum hv; have hm := hu.meet hv; have hku := Spc.kernel hu.lt; have hkv := Spc.kernel hv.lt; have hks := Spc.kernel hs.lt
    have ok : ∀ {A : List Nat}, Spc C A → OkM C A := fun {A} h => ⟨hC1, by omega, by have := h.dm; have := dm_lt h.lt; omega, h.lt⟩
    have sp : ∀ {A : List Nat}, Spc C A → isSp (C : Int) (ints A) = true := fun {A} h => by rw [isSp_mk (ok h), decide_eq_true h.own]
    have bo : ∀ {A B : List Nat}, Spc C A → Spc C B → both (C : Int) (ints A) (C : Int) (ints B) = 0 := fun h k => both_ok (sp h) (sp k) rfl
    have dist_b : ∀ {A B : List Nat}, Spc C A → Spc C B → 0 ≤ dist A B ∧ dist A B ≤ 12 := fun {A B} h k => by have h1 := h.le_sum k; have h2 := (ok (h.sum k)).n10; have h3 := (h.sum k).dm; have h4 := dm_lt (h.sum k).lt; unfold dist; omega
    obtain ⟨dx, edx⟩ : ∃ d, dist U V = d := ⟨_, rfl⟩; obtain ⟨dy, edy⟩ : ∃ d, dist V X = d := ⟨_, rfl⟩; obtain ⟨dz, edz⟩ : ∃ d, dist U X = d := ⟨_, rfl⟩
    have edb : dist V U = dx := by rw [← edx]; exact hv.sdist_comm hu
    have edd : dist (kernel C U) (kernel C V) = dx := by rw [← edx]; exact hu.sdist_dual hv
    have bx := dist_b hu hv; have by' := dist_b hv hx; have bz := dist_b hu hx; rw [edx] at bx; rw [edy] at by'; rw [edz] at bz
    have htri : dz ≤ dx + dy := by rw [← edx, ← edy, ← edz]; exact hu.sdist_tri hv hx
    have hz0 : dx = 0 ↔ U = V := by rw [← edx]; exact hu.sdist_zero hv
    have hdm : dx = ((joined U V).length : Int) - ((meet C U V).length : Int) := by rw [← edx]; exact hu.sdist_meet hv
    have hdim := hu.dims hv; have hdual := hu.dual_sum hv
    have in1 : joined (joined U V) U = joined U V := hs.inside hu fun y hy => (hu.sumS y).2 (sp_app.2 ⟨y, 0, hy, Sp.zero _, by simp⟩)
    have in2 : joined U (meet C U V) = U := hu.inside hm fun y hy => ((hu.meetS hv y).1 hy).1
    have in3 : joined V (meet C U V) = V := hv.inside hm fun y hy => ((hu.meetS hv y).1 hy).2
    have HF := Lib.hid (And.intro hu (And.intro hv (And.intro hx (And.intro hs (And.intro hm (And.intro hku (And.intro hkv hks)))))))
    have HBO : Hid (∀ A B : List Nat, Spc C A → Spc C B → both (C : Int) (ints A) (C : Int) (ints B) = 0) := Lib.hid fun A B h k => bo h k; have HSP : Hid (∀ A : List Nat, Spc C A → isSp (C : Int) (ints A) = true) := Lib.hid fun A h => sp h; have HIN := Lib.hid (And.intro in1 (And.intro in2 in3)); have HDU := Lib.hid hdual; have HED := Lib.hid (And.intro edx (And.intro edy (And.intro edz (And.intro edb edd)))); have HDIM := Lib.hid (And.intro hdim (And.intro hdm hz0)); have HOK : Hid (∀ A : List Nat, Spc C A → OkM C A) := Lib.hid fun A h => ok h
    clear hu hv hx hs hm hku hkv hks bo sp ok dist_b in1 in2 in3 hdual edx edy edz edb edd hdim hdm hz0 hU hUt hV hVt hX hXt
    have K1 : Hid (∀ W : World, Rd W W.heap.size Au nu (ints U) → Rd W W.heap.size Av nv (ints V) → Tab W → Calls Tryd.prog 47 #[.agg #[.int .i64 C, .slice Au nu pu], .agg #[.int .i64 C, .slice Av nv pv]] W fun e w' => ∃ v, e = .returned (.tuple #[.agg #[.int .i64 C, v], .int .i64 0]) ∧ Below W.heap.size W w' ∧ Res w' W.heap.size w'.heap.size v (ints (joined U V))) := Lib.hid fun W hu hv hT => by
      have S := implSumOf_anyR C Au nu pu (ints U) C Av nv pv (ints V) W hu hv hT; obtain ⟨hu, hv, hx, hs, hm, hku, hkv, hks⟩ := HF.out; obtain ⟨in1, in2, in3⟩ := HIN.out; obtain ⟨edx, edy, edz, edb, edd⟩ := HED.out; rw [fSumOf, mkB_yes (HBO.out _ _ hu hv)] at S; exact S
    go_wp2_with fail
    refine (K1.out _ Su.out.r Sv.out.r T3.out).mono ?_
    rintro e w5 ⟨v, rfl, hb, hR⟩
    obtain ⟨As, ns, ps, rfl, hRs⟩ := hR.rd
    have Hls := Lib.hid hRs.len
    rw [ints_length] at Hls
    have hba := below_alloc1 w5 (.cells #[.int .i64 C, .slice As ns ps] 50)
    have hbt := (hb).trans (hba.mono (hb).size)
    have Ss := Lib.hid (SpR.new hRs C ps 50)
    have B4 := Lib.hid (B3.out.trans ((hbt).mono B3.out.size)); have T4 := Lib.hid (T3.out.below (hbt))
    have Su' := Lib.hid (Su.out.below (hbt))
    clear Su c0u c1u
    have Su := Lib.hid Su'.out; clear Su'
    have c0u := Su.out.m.c0; have c1u := Su.out.m.c1
    have Sv' := Lib.hid (Sv.out.below (hbt))
    clear Sv c0v c1v
    have Sv := Lib.hid Sv'.out; clear Sv'
    have c0v := Sv.out.m.c0; have c1v := Sv.out.m.c1
    have Sx' := Lib.hid (Sx.out.below (hbt))
    clear Sx c0x c1x
    have Sx := Lib.hid Sx'.out; clear Sx'
    have c0x := Sx.out.m.c0; have c1x := Sx.out.m.c1
    clear B3 T3
    have c0s := Ss.out.m.c0; have c1s := Ss.out.m.c1
    clear hba hbt hb
    clear hR hRs
    clear K1
    have K2 : Hid (∀ W : World, Rd W W.heap.size Au nu (ints U) → Rd W W.heap.size Av nv (ints V) → Tab W → Calls Tryd.prog 48 #[.agg #[.int .i64 C, .slice Au nu pu], .agg #[.int .i64 C, .slice Av nv pv]] W fun e w' => ∃ v, e = .returned (.tuple #[.agg #[.int .i64 C, v], .int .i64 0]) ∧ Below W.heap.size W w' ∧ Res w' W.heap.size w'.heap.size v (ints (meet C U V))) := Lib.hid fun W hu hv hT => by
      have S := implMeetOf_anyR C Au nu pu (ints U) C Av nv pv (ints V) W hu hv hT; obtain ⟨hu, hv, hx, hs, hm, hku, hkv, hks⟩ := HF.out; obtain ⟨in1, in2, in3⟩ := HIN.out; obtain ⟨edx, edy, edz, edb, edd⟩ := HED.out; rw [fMeetOf, mkB_yes (HBO.out _ _ hu hv)] at S; exact S
    go_wp2_with fail
    refine (K2.out _ Su.out.r Sv.out.r T4.out).mono ?_
    rintro e w6 ⟨v, rfl, hb, hR⟩
    obtain ⟨Am, nm, pm, rfl, hRm⟩ := hR.rd
    have Hlm := Lib.hid hRm.len
    rw [ints_length] at Hlm
    have hba := below_alloc1 w6 (.cells #[.int .i64 C, .slice Am nm pm] 50)
    have hbt := (hb).trans (hba.mono (hb).size)
    have Sm := Lib.hid (SpR.new hRm C pm 50)
    have B5 := Lib.hid (B4.out.trans ((hbt).mono B4.out.size)); have T5 := Lib.hid (T4.out.below (hbt))
    have Su' := Lib.hid (Su.out.below (hbt))
    clear Su c0u c1u
    have Su := Lib.hid Su'.out; clear Su'
    have c0u := Su.out.m.c0; have c1u := Su.out.m.c1
    have Sv' := Lib.hid (Sv.out.below (hbt))
    clear Sv c0v c1v
    have Sv := Lib.hid Sv'.out; clear Sv'
    have c0v := Sv.out.m.c0; have c1v := Sv.out.m.c1
    have Sx' := Lib.hid (Sx.out.below (hbt))
    clear Sx c0x c1x
    have Sx := Lib.hid Sx'.out; clear Sx'
    have c0x := Sx.out.m.c0; have c1x := Sx.out.m.c1
    have Ss' := Lib.hid (Ss.out.below (hbt))
    clear Ss c0s c1s
    have Ss := Lib.hid Ss'.out; clear Ss'
    have c0s := Ss.out.m.c0; have c1s := Ss.out.m.c1
    clear B4 T4
    have c0m := Sm.out.m.c0; have c1m := Sm.out.m.c1
    clear hba hbt hb
    clear hR hRm
    clear K2
    have hnn : nu ≤ 10 ∧ nv ≤ 10 ∧ ns ≤ 10 ∧ nm ≤ 10 := by obtain ⟨hu, hv, hx, hs, hm, hku, hkv, hks⟩ := HF.out; have h1 := (HOK.out _ hu).n10; have h2 := (HOK.out _ hv).n10; have h3 := (HOK.out _ hs).n10; have h4 := (HOK.out _ hm).n10; have := Hlu.out; have := Hlv.out; have := Hls.out; have := Hlm.out; omega
    obtain ⟨hn1, hn2, hn3, hn4⟩ := hnn
    have hd1 : (((ns : Int) + (nm : Int)) != ((nu : Int) + (nv : Int))) = false := by have h := HDIM.out.1; have := Hlu.out; have := Hlv.out; have := Hls.out; have := Hlm.out; simp; omega
    have hd2 : (dx == ((ns : Int) - (nm : Int))) = true := by have h := HDIM.out.2.1; have := Hls.out; have := Hlm.out; simp; omega
    have HD2 := Lib.hid hd2; clear hd2
    have K3 : Hid (∀ W : World, Rd W W.heap.size As ns (ints (joined U V)) → Calls Tryd.prog 38 #[.agg #[.int .i64 C, .slice As ns ps]] W fun e w' => e = .returned (.bool true) ∧ Below W.heap.size W w') := Lib.hid fun W hs => by
      have S := specIsSpace_anyR C As ns ps (ints (joined U V)) W hs; obtain ⟨hu, hv, hx, hs, hm, hku, hkv, hks⟩ := HF.out; rw [fIsSpace, HSP.out _ hs] at S; exact S
    go_wp2_with fail
    refine (K3.out _ Ss.out.r).mono ?_
    rintro e w7 ⟨rfl, hb⟩
    have B6 := Lib.hid (B5.out.trans ((hb).mono B5.out.size)); have T6 := Lib.hid (T5.out.below (hb))
    have Su' := Lib.hid (Su.out.below (hb))
    clear Su c0u c1u
    have Su := Lib.hid Su'.out; clear Su'
    have c0u := Su.out.m.c0; have c1u := Su.out.m.c1
    have Sv' := Lib.hid (Sv.out.below (hb))
    clear Sv c0v c1v
    have Sv := Lib.hid Sv'.out; clear Sv'
    have c0v := Sv.out.m.c0; have c1v := Sv.out.m.c1
    have Sx' := Lib.hid (Sx.out.below (hb))
    clear Sx c0x c1x
    have Sx := Lib.hid Sx'.out; clear Sx'
    have c0x := Sx.out.m.c0; have c1x := Sx.out.m.c1
    have Ss' := Lib.hid (Ss.out.below (hb))
    clear Ss c0s c1s
    have Ss := Lib.hid Ss'.out; clear Ss'
    have c0s := Ss.out.m.c0; have c1s := Ss.out.m.c1
    have Sm' := Lib.hid (Sm.out.below (hb))
    clear Sm c0m c1m
    have Sm := Lib.hid Sm'.out; clear Sm'
    have c0m := Sm.out.m.c0; have c1m := Sm.out.m.c1
    clear B5 T5
    clear hb
    have K4 : Hid (∀ W : World, Rd W W.heap.size Am nm (ints (meet C U V)) → Calls Tryd.prog 38 #[.agg #[.int .i64 C, .slice Am nm pm]] W fun e w' => e = .returned (.bool true) ∧ Below W.heap.size W w') := Lib.hid fun W hm => by
      have S := specIsSpace_anyR C Am nm pm (ints (meet C U V)) W hm; obtain ⟨hu, hv, hx, hs, hm, hku, hkv, hks⟩ := HF.out; rw [fIsSpace, HSP.out _ hm] at S; exact S
    go_wp2_with fail
    refine (K4.out _ Sm.out.r).mono ?_
    rintro e w8 ⟨rfl, hb⟩
    have B7 := Lib.hid (B6.out.trans ((hb).mono B6.out.size)); have T7 := Lib.hid (T6.out.below (hb))
    have Su' := Lib.hid (Su.out.below (hb))
    clear Su c0u c1u
    have Su := Lib.hid Su'.out; clear Su'
    have c0u := Su.out.m.c0; have c1u := Su.out.m.c1
    have Sv' := Lib.hid (Sv.out.below (hb))
    clear Sv c0v c1v
    have Sv := Lib.hid Sv'.out; clear Sv'
    have c0v := Sv.out.m.c0; have c1v := Sv.out.m.c1
    have Sx' := Lib.hid (Sx.out.below (hb))
    clear Sx c0x c1x
    have Sx := Lib.hid Sx'.out; clear Sx'
    have c0x := Sx.out.m.c0; have c1x := Sx.out.m.c1
    have Ss' := Lib.hid (Ss.out.below (hb))
    clear Ss c0s c1s
    have Ss := Lib.hid Ss'.out; clear Ss'
    have c0s := Ss.out.m.c0; have c1s := Ss.out.m.c1
    have Sm' := Lib.hid (Sm.out.below (hb))
    clear Sm c0m c1m
    have Sm := Lib.hid Sm'.out; clear Sm'
    have c0m := Sm.out.m.c0; have c1m := Sm.out.m.c1
    clear B6 T6
    clear hb
    clear K3 K4
    have K5 : Hid (∀ W : World, Rd W W.heap.size As ns (ints (joined U V)) → Rd W W.heap.size Au nu (ints U) → Tab W → Calls Tryd.prog 49 #[.agg #[.int .i64 C, .slice As ns ps], .agg #[.int .i64 C, .slice Au nu pu]] W fun e w' => e = .returned (.tuple #[.bool true, .int .i64 0]) ∧ Below W.heap.size W w') := Lib.hid fun W hs hu hT => by
      have S := implContains_anyR C As ns ps (ints (joined U V)) C Au nu pu (ints U) W hs hu hT; obtain ⟨hu, hv, hx, hs, hm, hku, hkv, hks⟩ := HF.out; obtain ⟨in1, in2, in3⟩ := HIN.out; obtain ⟨edx, edy, edz, edb, edd⟩ := HED.out; rw [fContains_yes (HBO.out _ _ hs hu), in1, decide_eq_true rfl] at S; exact S
    go_wp2_with fail
    refine (K5.out _ Ss.out.r Su.out.r T7.out).mono ?_
    rintro e w9 ⟨rfl, hb⟩
    have B8 := Lib.hid (B7.out.trans ((hb).mono B7.out.size)); have T8 := Lib.hid (T7.out.below (hb))
    have Su' := Lib.hid (Su.out.below (hb))
    clear Su c0u c1u
    have Su := Lib.hid Su'.out; clear Su'
    have c0u := Su.out.m.c0; have c1u := Su.out.m.c1
    have Sv' := Lib.hid (Sv.out.below (hb))
    clear Sv c0v c1v
    have Sv := Lib.hid Sv'.out; clear Sv'
    have c0v := Sv.out.m.c0; have c1v := Sv.out.m.c1
    have Sx' := Lib.hid (Sx.out.below (hb))
    clear Sx c0x c1x
    have Sx := Lib.hid Sx'.out; clear Sx'
    have c0x := Sx.out.m.c0; have c1x := Sx.out.m.c1
    have Ss' := Lib.hid (Ss.out.below (hb))
    clear Ss c0s c1s
    have Ss := Lib.hid Ss'.out; clear Ss'
    have c0s := Ss.out.m.c0; have c1s := Ss.out.m.c1
    have Sm' := Lib.hid (Sm.out.below (hb))
    clear Sm c0m c1m
    have Sm := Lib.hid Sm'.out; clear Sm'
    have c0m := Sm.out.m.c0; have c1m := Sm.out.m.c1
    clear B7 T7
    clear hb
    clear K5
    have K6 : Hid (∀ W : World, Rd W W.heap.size Au nu (ints U) → Rd W W.heap.size Am nm (ints (meet C U V)) → Tab W → Calls Tryd.prog 49 #[.agg #[.int .i64 C, .slice Au nu pu], .agg #[.int .i64 C, .slice Am nm pm]] W fun e w' => e = .returned (.tuple #[.bool true, .int .i64 0]) ∧ Below W.heap.size W w') := Lib.hid fun W hu hm hT => by
      have S := implContains_anyR C Au nu pu (ints U) C Am nm pm (ints (meet C U V)) W hu hm hT; obtain ⟨hu, hv, hx, hs, hm, hku, hkv, hks⟩ := HF.out; obtain ⟨in1, in2, in3⟩ := HIN.out; obtain ⟨edx, edy, edz, edb, edd⟩ := HED.out; rw [fContains_yes (HBO.out _ _ hu hm), in2, decide_eq_true rfl] at S; exact S
    go_wp2_with fail
    refine (K6.out _ Su.out.r Sm.out.r T8.out).mono ?_
    rintro e w10 ⟨rfl, hb⟩
    have B9 := Lib.hid (B8.out.trans ((hb).mono B8.out.size)); have T9 := Lib.hid (T8.out.below (hb))
    have Su' := Lib.hid (Su.out.below (hb))
    clear Su c0u c1u
    have Su := Lib.hid Su'.out; clear Su'
    have c0u := Su.out.m.c0; have c1u := Su.out.m.c1
    have Sv' := Lib.hid (Sv.out.below (hb))
    clear Sv c0v c1v
    have Sv := Lib.hid Sv'.out; clear Sv'
    have c0v := Sv.out.m.c0; have c1v := Sv.out.m.c1
    have Sx' := Lib.hid (Sx.out.below (hb))
    clear Sx c0x c1x
    have Sx := Lib.hid Sx'.out; clear Sx'
    have c0x := Sx.out.m.c0; have c1x := Sx.out.m.c1
    have Ss' := Lib.hid (Ss.out.below (hb))
    clear Ss c0s c1s
    have Ss := Lib.hid Ss'.out; clear Ss'
    have c0s := Ss.out.m.c0; have c1s := Ss.out.m.c1
    have Sm' := Lib.hid (Sm.out.below (hb))
    clear Sm c0m c1m
    have Sm := Lib.hid Sm'.out; clear Sm'
    have c0m := Sm.out.m.c0; have c1m := Sm.out.m.c1
    clear B8 T8
    clear hb
    clear K6
    have K7 : Hid (∀ W : World, Rd W W.heap.size Av nv (ints V) → Rd W W.heap.size Am nm (ints (meet C U V)) → Tab W → Calls Tryd.prog 49 #[.agg #[.int .i64 C, .slice Av nv pv], .agg #[.int .i64 C, .slice Am nm pm]] W fun e w' => e = .returned (.tuple #[.bool true, .int .i64 0]) ∧ Below W.heap.size W w') := Lib.hid fun W hv hm hT => by
      have S := implContains_anyR C Av nv pv (ints V) C Am nm pm (ints (meet C U V)) W hv hm hT; obtain ⟨hu, hv, hx, hs, hm, hku, hkv, hks⟩ := HF.out; obtain ⟨in1, in2, in3⟩ := HIN.out; obtain ⟨edx, edy, edz, edb, edd⟩ := HED.out; rw [fContains_yes (HBO.out _ _ hv hm), in3, decide_eq_true rfl] at S; exact S
    go_wp2_with fail
    refine (K7.out _ Sv.out.r Sm.out.r T9.out).mono ?_
    rintro e w11 ⟨rfl, hb⟩
    have B10 := Lib.hid (B9.out.trans ((hb).mono B9.out.size)); have T10 := Lib.hid (T9.out.below (hb))
    have Su' := Lib.hid (Su.out.below (hb))
    clear Su c0u c1u
    have Su := Lib.hid Su'.out; clear Su'
    have c0u := Su.out.m.c0; have c1u := Su.out.m.c1
    have Sv' := Lib.hid (Sv.out.below (hb))
    clear Sv c0v c1v
    have Sv := Lib.hid Sv'.out; clear Sv'
    have c0v := Sv.out.m.c0; have c1v := Sv.out.m.c1
    have Sx' := Lib.hid (Sx.out.below (hb))
    clear Sx c0x c1x
    have Sx := Lib.hid Sx'.out; clear Sx'
    have c0x := Sx.out.m.c0; have c1x := Sx.out.m.c1
    have Ss' := Lib.hid (Ss.out.below (hb))
    clear Ss c0s c1s
    have Ss := Lib.hid Ss'.out; clear Ss'
    have c0s := Ss.out.m.c0; have c1s := Ss.out.m.c1
    have Sm' := Lib.hid (Sm.out.below (hb))
    clear Sm c0m c1m
    have Sm := Lib.hid Sm'.out; clear Sm'
    have c0m := Sm.out.m.c0; have c1m := Sm.out.m.c1
    clear B9 T9
    clear hb
    clear K7 hd1
    have K8 : Hid (∀ W : World, Rd W W.heap.size Au nu (ints U) → Tab W → Calls Tryd.prog 41 #[.agg #[.int .i64 C, .slice Au nu pu]] W fun e w' => ∃ v, e = .returned (.tuple #[.agg #[.int .i64 C, v], .int .i64 0]) ∧ Below W.heap.size W w' ∧ Res w' W.heap.size w'.heap.size v (ints (kernel C U))) := Lib.hid fun W hu hT => by
      have S := implDualSpace_anyR C Au nu pu (ints U) W hu hT; obtain ⟨hu, hv, hx, hs, hm, hku, hkv, hks⟩ := HF.out; rw [fDualSpace, mkS_yes (HOK.out _ hu) hu.own] at S; exact S
    go_wp2_with fail
    refine (K8.out _ Su.out.r T10.out).mono ?_
    rintro e w12 ⟨v, rfl, hb, hR⟩
    obtain ⟨Ap, np, pp, rfl, hRp⟩ := hR.rd
    have Hlp := Lib.hid hRp.len
    rw [ints_length] at Hlp
    have hba := below_alloc1 w12 (.cells #[.int .i64 C, .slice Ap np pp] 50)
    have hbt := (hb).trans (hba.mono (hb).size)
    have Sp := Lib.hid (SpR.new hRp C pp 50)
    have B11 := Lib.hid (B10.out.trans ((hbt).mono B10.out.size)); have T11 := Lib.hid (T10.out.below (hbt))
    have Su' := Lib.hid (Su.out.below (hbt))
    clear Su c0u c1u
    have Su := Lib.hid Su'.out; clear Su'
    have c0u := Su.out.m.c0; have c1u := Su.out.m.c1
    have Sv' := Lib.hid (Sv.out.below (hbt))
    clear Sv c0v c1v
    have Sv := Lib.hid Sv'.out; clear Sv'
    have c0v := Sv.out.m.c0; have c1v := Sv.out.m.c1
    have Sx' := Lib.hid (Sx.out.below (hbt))
    clear Sx c0x c1x
    have Sx := Lib.hid Sx'.out; clear Sx'
    have c0x := Sx.out.m.c0; have c1x := Sx.out.m.c1
    have Ss' := Lib.hid (Ss.out.below (hbt))
    clear Ss c0s c1s
    have Ss := Lib.hid Ss'.out; clear Ss'
    have c0s := Ss.out.m.c0; have c1s := Ss.out.m.c1
    have Sm' := Lib.hid (Sm.out.below (hbt))
    clear Sm c0m c1m
    have Sm := Lib.hid Sm'.out; clear Sm'
    have c0m := Sm.out.m.c0; have c1m := Sm.out.m.c1
    clear B10 T10
    have c0p := Sp.out.m.c0; have c1p := Sp.out.m.c1
    clear hba hbt hb
    clear hR hRp
    clear K8
    have K9 : Hid (∀ W : World, Rd W W.heap.size Av nv (ints V) → Tab W → Calls Tryd.prog 41 #[.agg #[.int .i64 C, .slice Av nv pv]] W fun e w' => ∃ v, e = .returned (.tuple #[.agg #[.int .i64 C, v], .int .i64 0]) ∧ Below W.heap.size W w' ∧ Res w' W.heap.size w'.heap.size v (ints (kernel C V))) := Lib.hid fun W hv hT => by
      have S := implDualSpace_anyR C Av nv pv (ints V) W hv hT; obtain ⟨hu, hv, hx, hs, hm, hku, hkv, hks⟩ := HF.out; rw [fDualSpace, mkS_yes (HOK.out _ hv) hv.own] at S; exact S
    go_wp2_with fail
    refine (K9.out _ Sv.out.r T11.out).mono ?_
    rintro e w13 ⟨v, rfl, hb, hR⟩
    obtain ⟨Ar, nr, pr, rfl, hRr⟩ := hR.rd
    have Hlr := Lib.hid hRr.len
    rw [ints_length] at Hlr
    have hba := below_alloc1 w13 (.cells #[.int .i64 C, .slice Ar nr pr] 50)
    have hbt := (hb).trans (hba.mono (hb).size)
    have Sr := Lib.hid (SpR.new hRr C pr 50)
    have B12 := Lib.hid (B11.out.trans ((hbt).mono B11.out.size)); have T12 := Lib.hid (T11.out.below (hbt))
    have Su' := Lib.hid (Su.out.below (hbt))
    clear Su c0u c1u
    have Su := Lib.hid Su'.out; clear Su'
    have c0u := Su.out.m.c0; have c1u := Su.out.m.c1
    have Sv' := Lib.hid (Sv.out.below (hbt))
    clear Sv c0v c1v
    have Sv := Lib.hid Sv'.out; clear Sv'
    have c0v := Sv.out.m.c0; have c1v := Sv.out.m.c1
    have Sx' := Lib.hid (Sx.out.below (hbt))
    clear Sx c0x c1x
    have Sx := Lib.hid Sx'.out; clear Sx'
    have c0x := Sx.out.m.c0; have c1x := Sx.out.m.c1
    have Ss' := Lib.hid (Ss.out.below (hbt))
    clear Ss c0s c1s
    have Ss := Lib.hid Ss'.out; clear Ss'
    have c0s := Ss.out.m.c0; have c1s := Ss.out.m.c1
    have Sm' := Lib.hid (Sm.out.below (hbt))
    clear Sm c0m c1m
    have Sm := Lib.hid Sm'.out; clear Sm'
    have c0m := Sm.out.m.c0; have c1m := Sm.out.m.c1
    have Sp' := Lib.hid (Sp.out.below (hbt))
    clear Sp c0p c1p
    have Sp := Lib.hid Sp'.out; clear Sp'
    have c0p := Sp.out.m.c0; have c1p := Sp.out.m.c1
    clear B11 T11
    have c0r := Sr.out.m.c0; have c1r := Sr.out.m.c1
    clear hba hbt hb
    clear hR hRr
    clear K9
    have K10 : Hid (∀ W : World, Rd W W.heap.size As ns (ints (joined U V)) → Tab W → Calls Tryd.prog 41 #[.agg #[.int .i64 C, .slice As ns ps]] W fun e w' => ∃ v, e = .returned (.tuple #[.agg #[.int .i64 C, v], .int .i64 0]) ∧ Below W.heap.size W w' ∧ Res w' W.heap.size w'.heap.size v (ints (kernel C (joined U V)))) := Lib.hid fun W hs hT => by
      have S := implDualSpace_anyR C As ns ps (ints (joined U V)) W hs hT; obtain ⟨hu, hv, hx, hs, hm, hku, hkv, hks⟩ := HF.out; rw [fDualSpace, mkS_yes (HOK.out _ hs) hs.own] at S; exact S
    go_wp2_with fail
    refine (K10.out _ Ss.out.r T12.out).mono ?_
    rintro e w14 ⟨v, rfl, hb, hR⟩
    obtain ⟨At, nt, pt, rfl, hRt⟩ := hR.rd
    have Hlt := Lib.hid hRt.len
    rw [ints_length] at Hlt
    have hba := below_alloc1 w14 (.cells #[.int .i64 C, .slice At nt pt] 50)
    have hbt := (hb).trans (hba.mono (hb).size)
    have St := Lib.hid (SpR.new hRt C pt 50)
    have B13 := Lib.hid (B12.out.trans ((hbt).mono B12.out.size)); have T13 := Lib.hid (T12.out.below (hbt))
    have Su' := Lib.hid (Su.out.below (hbt))
    clear Su c0u c1u
    have Su := Lib.hid Su'.out; clear Su'
    have c0u := Su.out.m.c0; have c1u := Su.out.m.c1
    have Sv' := Lib.hid (Sv.out.below (hbt))
    clear Sv c0v c1v
    have Sv := Lib.hid Sv'.out; clear Sv'
    have c0v := Sv.out.m.c0; have c1v := Sv.out.m.c1
    have Sx' := Lib.hid (Sx.out.below (hbt))
    clear Sx c0x c1x
    have Sx := Lib.hid Sx'.out; clear Sx'
    have c0x := Sx.out.m.c0; have c1x := Sx.out.m.c1
    have Ss' := Lib.hid (Ss.out.below (hbt))
    clear Ss c0s c1s
    have Ss := Lib.hid Ss'.out; clear Ss'
    have c0s := Ss.out.m.c0; have c1s := Ss.out.m.c1
    have Sm' := Lib.hid (Sm.out.below (hbt))
    clear Sm c0m c1m
    have Sm := Lib.hid Sm'.out; clear Sm'
    have c0m := Sm.out.m.c0; have c1m := Sm.out.m.c1
    have Sp' := Lib.hid (Sp.out.below (hbt))
    clear Sp c0p c1p
    have Sp := Lib.hid Sp'.out; clear Sp'
    have c0p := Sp.out.m.c0; have c1p := Sp.out.m.c1
    have Sr' := Lib.hid (Sr.out.below (hbt))
    clear Sr c0r c1r
    have Sr := Lib.hid Sr'.out; clear Sr'
    have c0r := Sr.out.m.c0; have c1r := Sr.out.m.c1
    clear B12 T12
    have c0t := St.out.m.c0; have c1t := St.out.m.c1
    clear hba hbt hb
    clear hR hRt
    clear K10
    have K11 : Hid (∀ W : World, Rd W W.heap.size Ap np (ints (kernel C U)) → Rd W W.heap.size Ar nr (ints (kernel C V)) → Tab W → Calls Tryd.prog 48 #[.agg #[.int .i64 C, .slice Ap np pp], .agg #[.int .i64 C, .slice Ar nr pr]] W fun e w' => ∃ v, e = .returned (.tuple #[.agg #[.int .i64 C, v], .int .i64 0]) ∧ Below W.heap.size W w' ∧ Res w' W.heap.size w'.heap.size v (ints (kernel C (joined U V)))) := Lib.hid fun W hp hr hT => by
      have S := implMeetOf_anyR C Ap np pp (ints (kernel C U)) C Ar nr pr (ints (kernel C V)) W hp hr hT; obtain ⟨hu, hv, hx, hs, hm, hku, hkv, hks⟩ := HF.out; obtain ⟨in1, in2, in3⟩ := HIN.out; obtain ⟨edx, edy, edz, edb, edd⟩ := HED.out; rw [fMeetOf, mkB_yes (HBO.out _ _ hku hkv), HDU.out] at S; exact S
    go_wp2_with fail
    refine (K11.out _ Sp.out.r Sr.out.r T13.out).mono ?_
    rintro e w15 ⟨v, rfl, hb, hR⟩
    obtain ⟨Ao, no, po, rfl, hRo⟩ := hR.rd
    have Hlo := Lib.hid hRo.len
    rw [ints_length] at Hlo
    have hba := below_alloc1 w15 (.cells #[.int .i64 C, .slice Ao no po] 50)
    have hbt := (hb).trans (hba.mono (hb).size)
    have So := Lib.hid (SpR.new hRo C po 50)
    have B14 := Lib.hid (B13.out.trans ((hbt).mono B13.out.size)); have T14 := Lib.hid (T13.out.below (hbt))
    have Su' := Lib.hid (Su.out.below (hbt))
    clear Su c0u c1u
    have Su := Lib.hid Su'.out; clear Su'
    have c0u := Su.out.m.c0; have c1u := Su.out.m.c1
    have Sv' := Lib.hid (Sv.out.below (hbt))
    clear Sv c0v c1v
    have Sv := Lib.hid Sv'.out; clear Sv'
    have c0v := Sv.out.m.c0; have c1v := Sv.out.m.c1
    have Sx' := Lib.hid (Sx.out.below (hbt))
    clear Sx c0x c1x
    have Sx := Lib.hid Sx'.out; clear Sx'
    have c0x := Sx.out.m.c0; have c1x := Sx.out.m.c1
    have Ss' := Lib.hid (Ss.out.below (hbt))
    clear Ss c0s c1s
    have Ss := Lib.hid Ss'.out; clear Ss'
    have c0s := Ss.out.m.c0; have c1s := Ss.out.m.c1
    have Sm' := Lib.hid (Sm.out.below (hbt))
    clear Sm c0m c1m
    have Sm := Lib.hid Sm'.out; clear Sm'
    have c0m := Sm.out.m.c0; have c1m := Sm.out.m.c1
    have Sp' := Lib.hid (Sp.out.below (hbt))
    clear Sp c0p c1p
    have Sp := Lib.hid Sp'.out; clear Sp'
    have c0p := Sp.out.m.c0; have c1p := Sp.out.m.c1
    have Sr' := Lib.hid (Sr.out.below (hbt))
    clear Sr c0r c1r
    have Sr := Lib.hid Sr'.out; clear Sr'
    have c0r := Sr.out.m.c0; have c1r := Sr.out.m.c1
    have St' := Lib.hid (St.out.below (hbt))
    clear St c0t c1t
    have St := Lib.hid St'.out; clear St'
    have c0t := St.out.m.c0; have c1t := St.out.m.c1
    clear B13 T13
    have c0o := So.out.m.c0; have c1o := So.out.m.c1
    clear hba hbt hb
    clear hR hRo
    clear K11
    have K12 : Hid (∀ W : World, Rd W W.heap.size At nt (ints (kernel C (joined U V))) → Rd W W.heap.size Ao no (ints (kernel C (joined U V))) → Calls Tryd.prog 35 #[.agg #[.int .i64 C, .slice At nt pt], .agg #[.int .i64 C, .slice Ao no po]] W fun e w' => e = .returned (.bool true) ∧ Below W.heap.size W w') := Lib.hid fun W ht ho => by
      have S := specSameMatrix_anyR C At nt pt (ints (kernel C (joined U V))) C Ao no po (ints (kernel C (joined U V))) W ht ho; simp only [fSameMatrix, decide_true, Bool.and_self] at S; exact S
    go_wp2_with fail
    refine (K12.out _ St.out.r So.out.r).mono ?_
    rintro e w16 ⟨rfl, hb⟩
    have B15 := Lib.hid (B14.out.trans ((hb).mono B14.out.size)); have T15 := Lib.hid (T14.out.below (hb))
    have Su' := Lib.hid (Su.out.below (hb))
    clear Su c0u c1u
    have Su := Lib.hid Su'.out; clear Su'
    have c0u := Su.out.m.c0; have c1u := Su.out.m.c1
    have Sv' := Lib.hid (Sv.out.below (hb))
    clear Sv c0v c1v
    have Sv := Lib.hid Sv'.out; clear Sv'
    have c0v := Sv.out.m.c0; have c1v := Sv.out.m.c1
    have Sx' := Lib.hid (Sx.out.below (hb))
    clear Sx c0x c1x
    have Sx := Lib.hid Sx'.out; clear Sx'
    have c0x := Sx.out.m.c0; have c1x := Sx.out.m.c1
    have Ss' := Lib.hid (Ss.out.below (hb))
    clear Ss c0s c1s
    have Ss := Lib.hid Ss'.out; clear Ss'
    have c0s := Ss.out.m.c0; have c1s := Ss.out.m.c1
    have Sm' := Lib.hid (Sm.out.below (hb))
    clear Sm c0m c1m
    have Sm := Lib.hid Sm'.out; clear Sm'
    have c0m := Sm.out.m.c0; have c1m := Sm.out.m.c1
    have Sp' := Lib.hid (Sp.out.below (hb))
    clear Sp c0p c1p
    have Sp := Lib.hid Sp'.out; clear Sp'
    have c0p := Sp.out.m.c0; have c1p := Sp.out.m.c1
    have Sr' := Lib.hid (Sr.out.below (hb))
    clear Sr c0r c1r
    have Sr := Lib.hid Sr'.out; clear Sr'
    have c0r := Sr.out.m.c0; have c1r := Sr.out.m.c1
    have St' := Lib.hid (St.out.below (hb))
    clear St c0t c1t
    have St := Lib.hid St'.out; clear St'
    have c0t := St.out.m.c0; have c1t := St.out.m.c1
    have So' := Lib.hid (So.out.below (hb))
    clear So c0o c1o
    have So := Lib.hid So'.out; clear So'
    have c0o := So.out.m.c0; have c1o := So.out.m.c1
    clear B14 T14
    clear hb
    clear K12
    have K13 : Hid (∀ W : World, Rd W W.heap.size Au nu (ints U) → Rd W W.heap.size Av nv (ints V) → Tab W → Calls Tryd.prog 50 #[.agg #[.int .i64 C, .slice Au nu pu], .agg #[.int .i64 C, .slice Av nv pv]] W fun e w' => e = .returned (.tuple #[.int .i64 dx, .int .i64 0]) ∧ Below W.heap.size W w') := Lib.hid fun W hu hv hT => by
      have S := implDistanceOf_anyR C Au nu pu (ints U) C Av nv pv (ints V) W hu hv hT; obtain ⟨hu, hv, hx, hs, hm, hku, hkv, hks⟩ := HF.out; obtain ⟨in1, in2, in3⟩ := HIN.out; obtain ⟨edx, edy, edz, edb, edd⟩ := HED.out; rw [fDistance_yes (HBO.out _ _ hu hv), edx] at S; exact S
    go_wp2_with fail
    refine (K13.out _ Su.out.r Sv.out.r T15.out).mono ?_
    rintro e w17 ⟨rfl, hb⟩
    have B16 := Lib.hid (B15.out.trans ((hb).mono B15.out.size)); have T16 := Lib.hid (T15.out.below (hb))
    have Su' := Lib.hid (Su.out.below (hb))
    clear Su c0u c1u
    have Su := Lib.hid Su'.out; clear Su'
    have c0u := Su.out.m.c0; have c1u := Su.out.m.c1
    have Sv' := Lib.hid (Sv.out.below (hb))
    clear Sv c0v c1v
    have Sv := Lib.hid Sv'.out; clear Sv'
    have c0v := Sv.out.m.c0; have c1v := Sv.out.m.c1
    have Sx' := Lib.hid (Sx.out.below (hb))
    clear Sx c0x c1x
    have Sx := Lib.hid Sx'.out; clear Sx'
    have c0x := Sx.out.m.c0; have c1x := Sx.out.m.c1
    have Ss' := Lib.hid (Ss.out.below (hb))
    clear Ss c0s c1s
    have Ss := Lib.hid Ss'.out; clear Ss'
    have c0s := Ss.out.m.c0; have c1s := Ss.out.m.c1
    have Sm' := Lib.hid (Sm.out.below (hb))
    clear Sm c0m c1m
    have Sm := Lib.hid Sm'.out; clear Sm'
    have c0m := Sm.out.m.c0; have c1m := Sm.out.m.c1
    have Sp' := Lib.hid (Sp.out.below (hb))
    clear Sp c0p c1p
    have Sp := Lib.hid Sp'.out; clear Sp'
    have c0p := Sp.out.m.c0; have c1p := Sp.out.m.c1
    have Sr' := Lib.hid (Sr.out.below (hb))
    clear Sr c0r c1r
    have Sr := Lib.hid Sr'.out; clear Sr'
    have c0r := Sr.out.m.c0; have c1r := Sr.out.m.c1
    have St' := Lib.hid (St.out.below (hb))
    clear St c0t c1t
    have St := Lib.hid St'.out; clear St'
    have c0t := St.out.m.c0; have c1t := St.out.m.c1
    have So' := Lib.hid (So.out.below (hb))
    clear So c0o c1o
    have So := Lib.hid So'.out; clear So'
    have c0o := So.out.m.c0; have c1o := So.out.m.c1
    clear B15 T15
    clear hb
    clear K13
    have K14 : Hid (∀ W : World, Rd W W.heap.size Av nv (ints V) → Rd W W.heap.size Ax nx (ints X) → Tab W → Calls Tryd.prog 50 #[.agg #[.int .i64 C, .slice Av nv pv], .agg #[.int .i64 C, .slice Ax nx px]] W fun e w' => e = .returned (.tuple #[.int .i64 dy, .int .i64 0]) ∧ Below W.heap.size W w') := Lib.hid fun W hv hx hT => by
      have S := implDistanceOf_anyR C Av nv pv (ints V) C Ax nx px (ints X) W hv hx hT; obtain ⟨hu, hv, hx, hs, hm, hku, hkv, hks⟩ := HF.out; obtain ⟨in1, in2, in3⟩ := HIN.out; obtain ⟨edx, edy, edz, edb, edd⟩ := HED.out; rw [fDistance_yes (HBO.out _ _ hv hx), edy] at S; exact S
    go_wp2_with fail
    refine (K14.out _ Sv.out.r Sx.out.r T16.out).mono ?_
    rintro e w18 ⟨rfl, hb⟩
    have B17 := Lib.hid (B16.out.trans ((hb).mono B16.out.size)); have T17 := Lib.hid (T16.out.below (hb))
    have Su' := Lib.hid (Su.out.below (hb))
    clear Su c0u c1u
    have Su := Lib.hid Su'.out; clear Su'
    have c0u := Su.out.m.c0; have c1u := Su.out.m.c1
    have Sv' := Lib.hid (Sv.out.below (hb))
    clear Sv c0v c1v
    have Sv := Lib.hid Sv'.out; clear Sv'
    have c0v := Sv.out.m.c0; have c1v := Sv.out.m.c1
    have Sx' := Lib.hid (Sx.out.below (hb))
    clear Sx c0x c1x
    have Sx := Lib.hid Sx'.out; clear Sx'
    have c0x := Sx.out.m.c0; have c1x := Sx.out.m.c1
    have Ss' := Lib.hid (Ss.out.below (hb))
    clear Ss c0s c1s
    have Ss := Lib.hid Ss'.out; clear Ss'
    have c0s := Ss.out.m.c0; have c1s := Ss.out.m.c1
    have Sm' := Lib.hid (Sm.out.below (hb))
    clear Sm c0m c1m
    have Sm := Lib.hid Sm'.out; clear Sm'
    have c0m := Sm.out.m.c0; have c1m := Sm.out.m.c1
    have Sp' := Lib.hid (Sp.out.below (hb))
    clear Sp c0p c1p
    have Sp := Lib.hid Sp'.out; clear Sp'
    have c0p := Sp.out.m.c0; have c1p := Sp.out.m.c1
    have Sr' := Lib.hid (Sr.out.below (hb))
    clear Sr c0r c1r
    have Sr := Lib.hid Sr'.out; clear Sr'
    have c0r := Sr.out.m.c0; have c1r := Sr.out.m.c1
    have St' := Lib.hid (St.out.below (hb))
    clear St c0t c1t
    have St := Lib.hid St'.out; clear St'
    have c0t := St.out.m.c0; have c1t := St.out.m.c1
    have So' := Lib.hid (So.out.below (hb))
    clear So c0o c1o
    have So := Lib.hid So'.out; clear So'
    have c0o := So.out.m.c0; have c1o := So.out.m.c1
    clear B16 T16
    clear hb
    clear K14
    have K15 : Hid (∀ W : World, Rd W W.heap.size Au nu (ints U) → Rd W W.heap.size Ax nx (ints X) → Tab W → Calls Tryd.prog 50 #[.agg #[.int .i64 C, .slice Au nu pu], .agg #[.int .i64 C, .slice Ax nx px]] W fun e w' => e = .returned (.tuple #[.int .i64 dz, .int .i64 0]) ∧ Below W.heap.size W w') := Lib.hid fun W hu hx hT => by
      have S := implDistanceOf_anyR C Au nu pu (ints U) C Ax nx px (ints X) W hu hx hT; obtain ⟨hu, hv, hx, hs, hm, hku, hkv, hks⟩ := HF.out; obtain ⟨in1, in2, in3⟩ := HIN.out; obtain ⟨edx, edy, edz, edb, edd⟩ := HED.out; rw [fDistance_yes (HBO.out _ _ hu hx), edz] at S; exact S
    go_wp2_with fail
    refine (K15.out _ Su.out.r Sx.out.r T17.out).mono ?_
    rintro e w19 ⟨rfl, hb⟩
    have B18 := Lib.hid (B17.out.trans ((hb).mono B17.out.size)); have T18 := Lib.hid (T17.out.below (hb))
    have Su' := Lib.hid (Su.out.below (hb))
    clear Su c0u c1u
    have Su := Lib.hid Su'.out; clear Su'
    have c0u := Su.out.m.c0; have c1u := Su.out.m.c1
    have Sv' := Lib.hid (Sv.out.below (hb))
    clear Sv c0v c1v
    have Sv := Lib.hid Sv'.out; clear Sv'
    have c0v := Sv.out.m.c0; have c1v := Sv.out.m.c1
    have Sx' := Lib.hid (Sx.out.below (hb))
    clear Sx c0x c1x
    have Sx := Lib.hid Sx'.out; clear Sx'
    have c0x := Sx.out.m.c0; have c1x := Sx.out.m.c1
    have Ss' := Lib.hid (Ss.out.below (hb))
    clear Ss c0s c1s
    have Ss := Lib.hid Ss'.out; clear Ss'
    have c0s := Ss.out.m.c0; have c1s := Ss.out.m.c1
    have Sm' := Lib.hid (Sm.out.below (hb))
    clear Sm c0m c1m
    have Sm := Lib.hid Sm'.out; clear Sm'
    have c0m := Sm.out.m.c0; have c1m := Sm.out.m.c1
    have Sp' := Lib.hid (Sp.out.below (hb))
    clear Sp c0p c1p
    have Sp := Lib.hid Sp'.out; clear Sp'
    have c0p := Sp.out.m.c0; have c1p := Sp.out.m.c1
    have Sr' := Lib.hid (Sr.out.below (hb))
    clear Sr c0r c1r
    have Sr := Lib.hid Sr'.out; clear Sr'
    have c0r := Sr.out.m.c0; have c1r := Sr.out.m.c1
    have St' := Lib.hid (St.out.below (hb))
    clear St c0t c1t
    have St := Lib.hid St'.out; clear St'
    have c0t := St.out.m.c0; have c1t := St.out.m.c1
    have So' := Lib.hid (So.out.below (hb))
    clear So c0o c1o
    have So := Lib.hid So'.out; clear So'
    have c0o := So.out.m.c0; have c1o := So.out.m.c1
    clear B17 T17
    clear hb
    clear K15
    have K16 : Hid (∀ W : World, Rd W W.heap.size Av nv (ints V) → Rd W W.heap.size Au nu (ints U) → Tab W → Calls Tryd.prog 50 #[.agg #[.int .i64 C, .slice Av nv pv], .agg #[.int .i64 C, .slice Au nu pu]] W fun e w' => e = .returned (.tuple #[.int .i64 dx, .int .i64 0]) ∧ Below W.heap.size W w') := Lib.hid fun W hv hu hT => by
      have S := implDistanceOf_anyR C Av nv pv (ints V) C Au nu pu (ints U) W hv hu hT; obtain ⟨hu, hv, hx, hs, hm, hku, hkv, hks⟩ := HF.out; obtain ⟨in1, in2, in3⟩ := HIN.out; obtain ⟨edx, edy, edz, edb, edd⟩ := HED.out; rw [fDistance_yes (HBO.out _ _ hv hu), edb] at S; exact S
    go_wp2_with fail
    refine (K16.out _ Sv.out.r Su.out.r T18.out).mono ?_
    rintro e w20 ⟨rfl, hb⟩
    have B19 := Lib.hid (B18.out.trans ((hb).mono B18.out.size)); have T19 := Lib.hid (T18.out.below (hb))
    have Su' := Lib.hid (Su.out.below (hb))
    clear Su c0u c1u
    have Su := Lib.hid Su'.out; clear Su'
    have c0u := Su.out.m.c0; have c1u := Su.out.m.c1
    have Sv' := Lib.hid (Sv.out.below (hb))
    clear Sv c0v c1v
    have Sv := Lib.hid Sv'.out; clear Sv'
    have c0v := Sv.out.m.c0; have c1v := Sv.out.m.c1
    have Sx' := Lib.hid (Sx.out.below (hb))
    clear Sx c0x c1x
    have Sx := Lib.hid Sx'.out; clear Sx'
    have c0x := Sx.out.m.c0; have c1x := Sx.out.m.c1
    have Ss' := Lib.hid (Ss.out.below (hb))
    clear Ss c0s c1s
    have Ss := Lib.hid Ss'.out; clear Ss'
    have c0s := Ss.out.m.c0; have c1s := Ss.out.m.c1
    have Sm' := Lib.hid (Sm.out.below (hb))
    clear Sm c0m c1m
    have Sm := Lib.hid Sm'.out; clear Sm'
    have c0m := Sm.out.m.c0; have c1m := Sm.out.m.c1
    have Sp' := Lib.hid (Sp.out.below (hb))
    clear Sp c0p c1p
    have Sp := Lib.hid Sp'.out; clear Sp'
    have c0p := Sp.out.m.c0; have c1p := Sp.out.m.c1
    have Sr' := Lib.hid (Sr.out.below (hb))
    clear Sr c0r c1r
    have Sr := Lib.hid Sr'.out; clear Sr'
    have c0r := Sr.out.m.c0; have c1r := Sr.out.m.c1
    have St' := Lib.hid (St.out.below (hb))
    clear St c0t c1t
    have St := Lib.hid St'.out; clear St'
    have c0t := St.out.m.c0; have c1t := St.out.m.c1
    have So' := Lib.hid (So.out.below (hb))
    clear So c0o c1o
    have So := Lib.hid So'.out; clear So'
    have c0o := So.out.m.c0; have c1o := So.out.m.c1
    clear B18 T18
    clear hb
    clear K16
    have K17 : Hid (∀ W : World, Rd W W.heap.size Ap np (ints (kernel C U)) → Rd W W.heap.size Ar nr (ints (kernel C V)) → Tab W → Calls Tryd.prog 50 #[.agg #[.int .i64 C, .slice Ap np pp], .agg #[.int .i64 C, .slice Ar nr pr]] W fun e w' => e = .returned (.tuple #[.int .i64 dx, .int .i64 0]) ∧ Below W.heap.size W w') := Lib.hid fun W hp hr hT => by
      have S := implDistanceOf_anyR C Ap np pp (ints (kernel C U)) C Ar nr pr (ints (kernel C V)) W hp hr hT; obtain ⟨hu, hv, hx, hs, hm, hku, hkv, hks⟩ := HF.out; obtain ⟨in1, in2, in3⟩ := HIN.out; obtain ⟨edx, edy, edz, edb, edd⟩ := HED.out; rw [fDistance_yes (HBO.out _ _ hku hkv), edd] at S; exact S
    go_wp2_with fail
    refine (K17.out _ Sp.out.r Sr.out.r T19.out).mono ?_
    rintro e w21 ⟨rfl, hb⟩
    have B20 := Lib.hid (B19.out.trans ((hb).mono B19.out.size)); have T20 := Lib.hid (T19.out.below (hb))
    have Su' := Lib.hid (Su.out.below (hb))
    clear Su c0u c1u
    have Su := Lib.hid Su'.out; clear Su'
    have c0u := Su.out.m.c0; have c1u := Su.out.m.c1
    have Sv' := Lib.hid (Sv.out.below (hb))
    clear Sv c0v c1v
    have Sv := Lib.hid Sv'.out; clear Sv'
    have c0v := Sv.out.m.c0; have c1v := Sv.out.m.c1
    have Sx' := Lib.hid (Sx.out.below (hb))
    clear Sx c0x c1x
    have Sx := Lib.hid Sx'.out; clear Sx'
    have c0x := Sx.out.m.c0; have c1x := Sx.out.m.c1
    have Ss' := Lib.hid (Ss.out.below (hb))
    clear Ss c0s c1s
    have Ss := Lib.hid Ss'.out; clear Ss'
    have c0s := Ss.out.m.c0; have c1s := Ss.out.m.c1
    have Sm' := Lib.hid (Sm.out.below (hb))
    clear Sm c0m c1m
    have Sm := Lib.hid Sm'.out; clear Sm'
    have c0m := Sm.out.m.c0; have c1m := Sm.out.m.c1
    have Sp' := Lib.hid (Sp.out.below (hb))
    clear Sp c0p c1p
    have Sp := Lib.hid Sp'.out; clear Sp'
    have c0p := Sp.out.m.c0; have c1p := Sp.out.m.c1
    have Sr' := Lib.hid (Sr.out.below (hb))
    clear Sr c0r c1r
    have Sr := Lib.hid Sr'.out; clear Sr'
    have c0r := Sr.out.m.c0; have c1r := Sr.out.m.c1
    have St' := Lib.hid (St.out.below (hb))
    clear St c0t c1t
    have St := Lib.hid St'.out; clear St'
    have c0t := St.out.m.c0; have c1t := St.out.m.c1
    have So' := Lib.hid (So.out.below (hb))
    clear So c0o c1o
    have So := Lib.hid So'.out; clear So'
    have c0o := So.out.m.c0; have c1o := So.out.m.c1
    clear B19 T19
    clear hb
    clear K17
    have hd2 := HD2.out
    obtain ⟨bb, hbb⟩ : ∃ b : Bool, decide (U = V) = b := ⟨_, rfl⟩
    have hb0 : (dx == 0) = bb := by rw [← hbb, Bool.eq_iff_iff]; simp [HDIM.out.2.2]
    have K18 : Hid (∀ W : World, Rd W W.heap.size Au nu (ints U) → Rd W W.heap.size Av nv (ints V) → Calls Tryd.prog 35 #[.agg #[.int .i64 C, .slice Au nu pu], .agg #[.int .i64 C, .slice Av nv pv]] W fun e w' => e = .returned (.bool bb) ∧ Below W.heap.size W w') := Lib.hid fun W hu hv => by
      have S := specSameMatrix_anyR C Au nu pu (ints U) C Av nv pv (ints V) W hu hv; rw [fSameMatrix, decide_eq_true rfl, Bool.true_and, decide_eq_decide.2 ints_inj, hbb] at S; exact S
    have HB0 := Lib.hid hb0; clear hb0 hbb
    cases bb with
    | true =>
      have hs1 := HB0.out
      have hs2 : dx = 0 := by simpa using hs1
      subst hs2
      go_wp2_with fail
      refine (K18.out _ Su.out.r Sv.out.r).mono ?_
      rintro e w22 ⟨rfl, hb⟩
      have B21 := Lib.hid (B20.out.trans ((hb).mono B20.out.size)); have T21 := Lib.hid (T20.out.below (hb))
      have Su' := Lib.hid (Su.out.below (hb))
      clear Su c0u c1u
      have Su := Lib.hid Su'.out; clear Su'
      have c0u := Su.out.m.c0; have c1u := Su.out.m.c1
      have Sv' := Lib.hid (Sv.out.below (hb))
      clear Sv c0v c1v
      have Sv := Lib.hid Sv'.out; clear Sv'
      have c0v := Sv.out.m.c0; have c1v := Sv.out.m.c1
      have Sx' := Lib.hid (Sx.out.below (hb))
      clear Sx c0x c1x
      have Sx := Lib.hid Sx'.out; clear Sx'
      have c0x := Sx.out.m.c0; have c1x := Sx.out.m.c1
      have Ss' := Lib.hid (Ss.out.below (hb))
      clear Ss c0s c1s
      have Ss := Lib.hid Ss'.out; clear Ss'
      have c0s := Ss.out.m.c0; have c1s := Ss.out.m.c1
      have Sm' := Lib.hid (Sm.out.below (hb))
      clear Sm c0m c1m
      have Sm := Lib.hid Sm'.out; clear Sm'
      have c0m := Sm.out.m.c0; have c1m := Sm.out.m.c1
      have Sp' := Lib.hid (Sp.out.below (hb))
      clear Sp c0p c1p
      have Sp := Lib.hid Sp'.out; clear Sp'
      have c0p := Sp.out.m.c0; have c1p := Sp.out.m.c1
      have Sr' := Lib.hid (Sr.out.below (hb))
      clear Sr c0r c1r
      have Sr := Lib.hid Sr'.out; clear Sr'
      have c0r := Sr.out.m.c0; have c1r := Sr.out.m.c1
      have St' := Lib.hid (St.out.below (hb))
      clear St c0t c1t
      have St := Lib.hid St'.out; clear St'
      have c0t := St.out.m.c0; have c1t := St.out.m.c1
      have So' := Lib.hid (So.out.below (hb))
      clear So c0o c1o
      have So := Lib.hid So'.out; clear So'
      have c0o := So.out.m.c0; have c1o := So.out.m.c1
      clear B20 T20
      clear hb
      go_wp2_with fail
      go_ret
      exact ⟨rfl, B21.out⟩
    | false =>
      have hs1 := HB0.out
      have hs2 : ¬ dx = 0 := by simpa using hs1
      go_wp2_with fail
      refine (K18.out _ Su.out.r Sv.out.r).mono ?_
      rintro e w22 ⟨rfl, hb⟩
      have B21 := Lib.hid (B20.out.trans ((hb).mono B20.out.size)); have T21 := Lib.hid (T20.out.below (hb))
      have Su' := Lib.hid (Su.out.below (hb))
      clear Su c0u c1u
      have Su := Lib.hid Su'.out; clear Su'
      have c0u := Su.out.m.c0; have c1u := Su.out.m.c1
      have Sv' := Lib.hid (Sv.out.below (hb))
      clear Sv c0v c1v
      have Sv := Lib.hid Sv'.out; clear Sv'
      have c0v := Sv.out.m.c0; have c1v := Sv.out.m.c1
      have Sx' := Lib.hid (Sx.out.below (hb))
      clear Sx c0x c1x
      have Sx := Lib.hid Sx'.out; clear Sx'
      have c0x := Sx.out.m.c0; have c1x := Sx.out.m.c1
      have Ss' := Lib.hid (Ss.out.below (hb))
      clear Ss c0s c1s
      have Ss := Lib.hid Ss'.out; clear Ss'
      have c0s := Ss.out.m.c0; have c1s := Ss.out.m.c1
      have Sm' := Lib.hid (Sm.out.below (hb))
      clear Sm c0m c1m
      have Sm := Lib.hid Sm'.out; clear Sm'
      have c0m := Sm.out.m.c0; have c1m := Sm.out.m.c1
      have Sp' := Lib.hid (Sp.out.below (hb))
      clear Sp c0p c1p
      have Sp := Lib.hid Sp'.out; clear Sp'
      have c0p := Sp.out.m.c0; have c1p := Sp.out.m.c1
      have Sr' := Lib.hid (Sr.out.below (hb))
      clear Sr c0r c1r
      have Sr := Lib.hid Sr'.out; clear Sr'
      have c0r := Sr.out.m.c0; have c1r := Sr.out.m.c1
      have St' := Lib.hid (St.out.below (hb))
      clear St c0t c1t
      have St := Lib.hid St'.out; clear St'
      have c0t := St.out.m.c0; have c1t := St.out.m.c1
      have So' := Lib.hid (So.out.below (hb))
      clear So c0o c1o
      have So := Lib.hid So'.out; clear So'
      have c0o := So.out.m.c0; have c1o := So.out.m.c1
      clear B20 T20
      clear hb
      go_wp2_with fail
      go_ret
      exact ⟨rfl, B21.out⟩

set_option maxRecDepth 100000 in
theorem lifted (os : Os) (started : os.Started) (H : Type) (enc : TypeId × Value → H) :
    ReturnsInHanded {} Tryd.checked os 8 .any (fun w args => (Rows.fnSumsAndMeetsSpec.pre enc Tryd.prog Tryd.f8 [] false w args ∧ laidMetH Tryd.prog listed w) ∧ sizedMet enc Tryd.prog Tryd.f8 (OpenSpec.ofChange Rows.fnSumsAndMeetsSpec) false w args)
      (Rows.fnSumsAndMeetsSpec.post enc Tryd.prog Tryd.f8 false true false false) := by
  refine returnsInHanded_of_change_and (C := Tryd.checked) (X := fun w _ => laidMetH Tryd.prog listed w) (fun _ _ _ hh h => h.of_heap hh) own started (by kernel_rfl) Tryd.func8
    (ChangeSpec.witness_shaped (enc := enc) (C := Tryd.checked) (os := os) (X := fun w _ => laidMetH Tryd.prog listed w) false (World.doorLaid Tryd.prog 400 os) #[.slice none 0 0, .slice none 0 0] 8 rfl (World.shaped_of_RefB (by kernel_rfl) (by kernel_rfl)) (by kernel_rfl) (by kernel_rfl) (by kernel_rfl) (door_met os _)) ?_
  intro W base args ds gs before hval0 hW _ _ hL _
  have hval : ∀ (j : Nat) t v, Tryd.f8.params[j]? = some t → args[j]? = some v → Value.okWide Tryd.prog W .any base t v := hval0
  have hT := tab_of_laid hL
  have hW' := hW
  obtain ⟨p, q, hA0, hV, rfl, hfz, hnd⟩ := hW
  have hA : DataW.TrodAll enc Tryd.prog W 0 (fun _ => true) true Tryd.f8.params.toList args.toList ds p := hA0
  rw [Tryd.params8] at hA hval
  obtain ⟨v0, vs0, dd0, ds0, pp0, qq0, hargs, rfl, rfl, h0, r0⟩ := trodAll_cons hA
  obtain ⟨v1, vs1, dd1, ds1, pp1, qq1, rfl, rfl, rfl, h1, r1⟩ := trodAll_cons r0
  obtain ⟨rfl, rfl, rfl⟩ := trodAll_nil r1
  obtain rfl : args = #[v0, v1] := by cases args; simp_all
  obtain ⟨rfl, rfl⟩ := trodVars_none hV
  have k0 := h0
  have lt0 : ∀ x ∈ pp0, x.block < W.heap.size := by obtain ⟨m, hm⟩ := k0; exact DataW.trod_lt m _ _ _ hm
  obtain ⟨a0, n0, cap0, rfl⟩ := okWide_slice Tryd.underlying33 (hval 0 33 v0 rfl rfl)
  have w0 : Bys W W.heap.size a0 n0 := by
    obtain ⟨fuel, hf⟩ := h0
    obtain ⟨A, k, c, e, w⟩ := bytes_open (v := .slice a0 n0 cap0) hf
    injection e with e1 e2 e3
    subst e1 e2 e3
    exact w
  have k1 := h1
  have lt1 : ∀ x ∈ pp1, x.block < W.heap.size := by obtain ⟨m, hm⟩ := k1; exact DataW.trod_lt m _ _ _ hm
  obtain ⟨a1, n1, cap1, rfl⟩ := okWide_slice Tryd.underlying33 (hval 1 33 v1 rfl rfl)
  have w1 : Bys W W.heap.size a1 n1 := by
    obtain ⟨fuel, hf⟩ := h1
    obtain ⟨A, k, c, e, w⟩ := bytes_open (v := .slice a1 n1 cap1) hf
    injection e with e1 e2 e3
    subst e1 e2 e3
    exact w
  clear hA0 hval0
  refine (walk a0 n0 cap0 a1 n1 cap1 W hT w0 w1).mono fun e W' ⟨he, bel⟩ => ?_
  subst he
  exact ⟨_, rfl, _, _, _, [], _, [], hW', trodAll_mk1 (shut_bool Tryd.underlying4 _), (trodAll_cons_mk (Below.trod laidOut (by kernel_rfl) (of_decide_eq_true (by kernel_rfl)) k0 bel lt0) (trodAll_cons_mk (Below.trod laidOut (by kernel_rfl) (of_decide_eq_true (by kernel_rfl)) k1 bel lt1) trodAll_mk0)), rfl, bel.frame _, fun h => by cases h⟩

theorem over : Rows.fnSumsAndMeetsRow.holds Tryd.pinned (OpenSpec.ofChange Rows.fnSumsAndMeetsSpec) :=
  OpenClaim.holds_of_wide 8 Tryd.f8 rfl rfl rfl rfl rfl rfl rfl ⟨rfl, rfl, rfl, rfl, rfl⟩ rfl rfl rfl rfl rfl (by kernel_rfl) Tryd.func8 (by kernel_rfl)
    (of_decide_eq_true (by kernel_rfl)) (by unfold Func.isWrapper; first | (rw [if_pos (by decide +kernel)]; kernel_rfl) | (rw [if_neg (by decide +kernel)]; exact ⟨rfl, rfl⟩))
    (fun os started H enc _ => lifted os started H enc)

theorem proved : Rows.FnSumsAndMeetsCardSaid :=
  Claim7.holds_tied_plain_at .later [] [.data] true Rows.fnSumsAndMeetsCard.stood.harness false
    over (fun _ h => by cases h) (by kernel_rfl) (fun _ h => by cases h) fnSumsAndMeets_row_tie rfl ⟨rfl, rfl⟩ (by kernel_rfl) rfl
    (fun f fn hf hfn => by
      obtain rfl : f = 8 := Option.some.inj ((show Tryd.prog.funcNamed "loop.example/g01144/laws.FnSumsAndMeets" = some 8 by kernel_rfl).symm.trans hf) |>.symm
      obtain rfl : fn = Tryd.f8 := (Option.some.inj (Tryd.func8.symm.trans hfn)).symm
      exact ⟨by kernel_rfl, fun j t ht => by
        rw [Tryd.params8] at ht
        have hm : t ∈ [33, 33] := by simpa using Array.mem_of_getElem? ht
        have hall : ([33, 33].all fun u => !Tryd.prog.wantsStandIn u) = true := by kernel_rfl
        exact (show Tryd.prog.wantsStandIn t = false by simpa using List.all_eq_true.1 hall t hm)⟩)
    (by kernel_rfl)
#print axioms proved
end Go.Proofs.YtilghmfffdmnjaaDoor.fnSumsAndMeets
