/- FnConjugates: for every input the law returns true, and every argument reads afterwards as it read before. No condition. -/
import Derived.Test.YtpjnpkgndghlhaaRows
import Derived.WalkKit
import Derived.ProofKit
import Derived.OpenShut
import Derived.ChangeOld
import Derived.Below
import Derived.Lib.SmallJoins
import Derived.Test.YtpjnpkgndghlhaaDraw3
import Derived.Test.YtpjnpkgndghlhaaConjPure
import Derived.Test.YtpjnpkgndghlhaaA2Below
import Derived.Test.YtpjnpkgndghlhaaMinimalPoly
import Derived.Test.YtpjnpkgndghlhaaConjIn
import Derived.Test.YtpjnpkgndghlhaaTraceIn
import Derived.Test.YtpjnpkgndghlhaaSplit
import Derived.Test.YtpjnpkgndghlhaaPower
import Derived.Test.YtpjnpkgndghlhaaMul
namespace Go.Proofs.Ytpjnpkgndghlhaa.fnConjugates
open Go.ChangeShapes Go.WideShapes Go.ChangeAt Go.RowKit Go.Joins
set_option linter.unusedVariables false

theorem own : ownKnob Try.prog.godebug = none := by kernel_rfl
theorem laidOut : laidOutB Try.prog = true := by kernel_rfl

theorem first_of {p : Nat → Prop} [DecidablePred p] : ∀ o, (∃ k, k < o ∧ p k) → ∃ k, k < o ∧ p k ∧ ∀ j, j < k → ¬ p j
  | 0, ⟨k, h, _⟩ => absurd h (Nat.not_lt_zero k)
  | o + 1, ⟨k, h, hp⟩ => by
    by_cases hx : ∃ k, k < o ∧ p k
    · obtain ⟨j, h1, h2⟩ := first_of (p := p) o hx
      exact ⟨j, by omega, h2⟩
    · have hk : k = o := by
        by_cases e : k = o
        · exact e
        · exact absurd ⟨k, by omega, hp⟩ hx
      subst hk
      exact ⟨k, by omega, hp, fun j hj hpj => hx ⟨j, hj, hpj⟩⟩
theorem trN_le {m P n : Nat} (hF : Fld m P n) : ∀ j, j ≤ n → trN P m j ≤ j
  | 0, _ => Nat.le_refl _
  | j + 1, h => by
    have h1 := trN_le hF j (by omega)
    have h2 := tr_bit hF (show j < n by omega)
    show trN P m j + tr P j m ≤ j + 1
    omega

set_option maxRecDepth 100000 in
set_option maxHeartbeats 12800000 in
theorem walk (a0 : Option Addr) (n0 cap0 : Nat) (a1 : Option Addr) (n1 cap1 : Nat) (w : World) (h0B : Bys w w.heap.size a0 n0) (h1B : Bys w w.heap.size a1 n1) :
    Calls Try.prog 8 #[.slice a0 n0 cap0, .slice a1 n1 cap1] w fun e w' => e = .returned (.bool true) ∧ Below w.heap.size w w' := by
  have hl0 := h0B.big
  have hl1 := h1B.big
  by_cases hlong : 3000 < n0 ∨ 3000 < n1
  · have SL := a2Long_any a0 a1 n0 cap0 n1 cap1 hl0 hl1 w
    rw [show (decide (3000 < n0) || decide (3000 < n1)) = true by simpa using hlong] at SL
    have HSL := Lib.hid SL
    clear SL h0B h1B hlong
    go_enter Try.func8, Try.ntmps8
    go_wp2_with fail
    refine HSL.out.mono ?_
    rintro e w1 ⟨rfl, rfl⟩
    go_wp2_with fail
    go_ret
    exact ⟨rfl, Below.refl _ _⟩
  have SL := a2Long_any a0 a1 n0 cap0 n1 cap1 hl0 hl1 w
  rw [show (decide (3000 < n0) || decide (3000 < n1)) = false by simpa using hlong] at SL
  have HSL := Lib.hid SL
  have HD := Lib.hid (a2Field_any a0 n0 cap0 w h0B)
  have HE := Lib.hid h1B
  clear SL h0B h1B hlong
  go_enter Try.func8, Try.ntmps8
  go_wp2_with fail
  refine HSL.out.mono ?_
  rintro e w1 ⟨rfl, rfl⟩
  clear HSL
  go_wp2_with fail
  refine HD.out.mono ?_
  rintro e w1 ⟨m, P, hf, rfl, hb⟩
  have hF := Fld.of hf
  obtain ⟨N, hN⟩ : ∃ N, 2 ^ m = N := ⟨_, rfl⟩
  rw [hN] at hF
  have hsh : (2 : Int) ^ m = (N : Int) := by rw [← hN]; simp
  have hn2 := hF.n2
  have h32 := hF.n32
  have hm1 := hF.m1
  have hm5 := hF.m5
  have hP64 := hF.P64
  have X0 := Lib.hid (FX.start hb m P 23)
  have hq : w.heap.size ≤ w1.heap.size := hb.size
  have HN := Lib.hid hN
  clear hb HD hf hN
  have c00 := X0.out.c0; have c10 := X0.out.c1
  go_wp2_with fail
  refine (a2Element_any a1 n1 cap1 m P N hF 0 (by omega) _ (HE.out.at X0.out.b)).mono ?_
  rintro e w2 ⟨va, hva, rfl, hb⟩
  have X1 := Lib.hid (X0.out.next hb)
  clear hb c00 c10 X0
  have c01 := X1.out.c0; have c11 := X1.out.c1
  go_wp2_with fail
  refine (a2Element_any a1 n1 cap1 m P N hF 1 (by omega) _ (HE.out.at X1.out.b)).mono ?_
  rintro e w3 ⟨vb, hvb, rfl, hb⟩
  have X2 := Lib.hid (X1.out.next hb)
  clear hb c01 c11 X1
  have c02 := X2.out.c0; have c12 := X2.out.c1
  clear HE
  obtain ⟨r, hrm, ho⟩ := orb_some hF hva
  have hr1 := ho.r1
  go_wp2_with fail
  refine (implConjugatesIn_C m P N hF va hva r ho hrm _).mono ?_
  rintro e wl ⟨v, rfl, hb, hM⟩
  obtain ⟨A, kk, lc, rfl⟩ := hM.form
  obtain ⟨g, hA, hg, hcl⟩ : ∃ g, (A = some ⟨g, 0, none⟩ ∧ kk = r) ∧ g < wl.heap.size ∧ ∀ j, j < r → wl.cell? ⟨g, j, none⟩ = some (.int .i64 (sq P va j : Nat)) := by
    obtain ⟨L, hL⟩ : ∃ L, conjL P va r = L := ⟨_, rfl⟩
    have hLl : L.length = r := by rw [← hL, conjL_len]
    rw [hL] at hM
    cases hM with
    | nil A cap => simp at hLl; omega
    | row g n cap xs k1 k2 k3 k4 k5 k6 k7 => exact ⟨g, ⟨rfl, by omega⟩, by omega, fun j hj => by rw [k6 j (by omega), ← hL]; simp [conjL, hj]⟩
  obtain ⟨rfl, rfl⟩ := hA
  have X3 := Lib.hid (X2.out.next hb)
  clear hb c02 c12 X2 hM
  have c03 := X3.out.c0; have c13 := X3.out.c1
  have LS : Hid (∀ W, Below wl.heap.size wl W → ∀ j, j < kk → W.cell? ⟨g, j, none⟩ = some (.int .i64 (sq P va j : Nat))) := Lib.hid fun W hb j hj => (hb.cell (p := ⟨g, j, none⟩) hg).trans (hcl j hj)
  obtain ⟨h1, h2, h3, h4⟩ := min_fld hF hva ho hrm
  have hroot := root_fld hF hva ho hrm
  have hsame := fun t => (same_fld hF hva t).2
  obtain ⟨vp, evp⟩ : ∃ p, mpV P va m = p := ⟨_, rfl⟩
  rw [evp] at h1 h2 h4
  simp only [evp] at hroot hsame
  have K2 : Hid (∀ W : World, Calls Try.prog 19 #[.agg #[.int .i64 m, .int .i64 P], .int .i64 (va : Nat)] W fun e w' => e = .returned (.tuple #[.int .i64 (vp : Nat), .int .i64 0]) ∧ Below W.heap.size W w') := Lib.hid fun W => by
    have S := implMinimalPoly_C m P N hF va hva W; rw [evp] at S; exact S
  have B1 := Lib.hid (Below.refl wl.heap.size wl)
  go_wp2_with fail
  refine (K2.out _).mono ?_
  rintro e wm ⟨rfl, hb⟩
  have X4 := Lib.hid (X3.out.next hb)
  have B2 := Lib.hid (B1.out.trans hb)
  clear hb c03 c13 X3 B1
  have c04 := X4.out.c0; have c14 := X4.out.c1
  have d0 := LS.out _ B2.out 0 (by omega)
  have e0 : sq P va 0 = va := rfl
  rw [e0] at d0
  clear e0
  have hmod : (m : Int) % (kk : Int) = 0 := by exact_mod_cast h3
  have hkk : ¬ (kk : Int) < 1 := by omega
  have HIR := Lib.hid h1
  have KB := Lib.hid (a2Below_yes g kk lc N (by omega) (by omega) (fun j => sq P va j) (fun j _ => sq_lt hF hva j) _ (LS.out _ B2.out))
  go_wp2_with (go_at_call 30; refine KB.out.mono ?_; rintro e w9 ⟨rfl, rfl⟩)
  have hirr : irrI (vp : Int) = true := by have := irr_lt h1; simp [irrI, h1]; omega
  have SI := isIrreducible_any (vp : Int) (by omega) (by omega) wm
  rw [hirr] at SI
  have HSI := Lib.hid SI
  clear SI hirr
  refine HSI.out.mono ?_
  rintro e wi ⟨rfl, hb⟩
  have X5 := Lib.hid (X4.out.next hb)
  have B3 := Lib.hid (B2.out.trans (hb.mono B2.out.size))
  clear hb c04 c14 X4 HSI KB d0 hmod B2 HIR
  have c05 := X5.out.c0; have c15 := X5.out.c1
  have HROOT := Lib.hid hroot
  have HSAME := Lib.hid hsame
  have HCL := Lib.hid hcl
  clear hroot hsame hcl
  obtain ⟨Φ, hΦ⟩ : ∃ Φ : World → Prop, Φ = fun W => FX w w1.heap.size m P W ∧ Below wl.heap.size wl W := ⟨_, rfl⟩
  have F0 : Φ wi := by rw [hΦ]; exact ⟨X5.out, B3.out⟩
  have CX : Hid (∀ W, Φ W → W.cell? ⟨w1.heap.size, 0, none⟩ = some (.int .i64 m) ∧ W.cell? ⟨w1.heap.size, 1, none⟩ = some (.int .i64 P)) := Lib.hid fun W h => by rw [hΦ] at h; exact ⟨h.1.c0, h.1.c1⟩
  have CB : Hid (∀ W, Φ W → Below w.heap.size w W) := Lib.hid fun W h => by rw [hΦ] at h; exact h.1.b
  have CL : Hid (∀ W, Φ W → ∀ j, j < kk → W.cell? ⟨g, j, none⟩ = some (.int .i64 (sq P va j : Nat))) := Lib.hid fun W h => by rw [hΦ] at h; exact LS.out W h.2
  have SP : Hid (∀ W W', Φ W → Below W.heap.size W W' → Φ W') := Lib.hid fun W W' h hb => by
    rw [hΦ] at h ⊢
    exact ⟨h.1.next hb, h.2.trans (hb.mono h.2.size)⟩
  have SD : Hid (∀ W k, Φ W → Φ (W.drewN k)) := Lib.hid fun W k h => SP.out _ _ h (below_draws _ _ _)
  clear hΦ X5 c05 c15 B3 LS
  go_wp2_with fail
  go_loopw [13] (fun i wr => ∃ t : Nat, t ≤ kk ∧ i = .int .i64 t ∧ Φ wr) (fun i _ => kk - (intOf i).toNat)
  case atStart => exact ⟨0, Nat.zero_le _, rfl, F0⟩
  case round =>
    obtain ⟨t, ht, rfl, hΦt⟩ := hrel
    clear F0
    by_cases hlt : t < kk
    · have d := CL.out _ hΦt t hlt
      have hx := sq_lt hF hva t
      have hrt := HROOT.out t
      have hsm := HSAME.out t
      obtain ⟨x, hxe⟩ : ∃ x, sq P va t = x := ⟨_, rfl⟩
      rw [hxe] at d hx hrt hsm
      have HXE := Lib.hid hxe
      obtain ⟨c0, c1⟩ := CX.out _ hΦt
      have KM : Hid (∀ W : World, Calls Try.prog 19 #[.agg #[.int .i64 m, .int .i64 P], .int .i64 (x : Nat)] W fun e w' => e = .returned (.tuple #[.int .i64 (vp : Nat), .int .i64 0]) ∧ Below W.heap.size W w') := Lib.hid fun W => by
        have S := implMinimalPoly_C m P N hF x hx W; rw [hsm] at S; exact S
      have HΦt := Lib.hid hΦt
      have HRT := Lib.hid hrt
      clear hΦt hrt hsm hxe
      go_wp2_with fail
      go_cut [14, 15] (fun q c wx => q = .int .i64 (vp : Nat) ∧ c = .int .i64 0 ∧ Φ wx)
      case first =>
        go_region_law (go_simp; go_wp2_with (go_at_call 19; refine (KM.out _).mono ?_; rintro e wn ⟨rfl, hb⟩; have HN1 := Lib.hid (SP.out _ _ (SD.out _ 1 HΦt.out) hb); clear hb))
        all_goals
          go_wp2_with fail
          go_meet
          exact ⟨rfl, rfl, HN1.out⟩
      case rest =>
        obtain ⟨W5, rfl⟩ : ∃ x, x = wc := ⟨wc, rfl⟩
        obtain ⟨rfl, rfl, hΦ5⟩ := hcut
        have HΦ5 := Lib.hid hΦ5
        clear hΦ5 d c0 c1 HΦt KM
        go_wp2_with fail
        go_loopw [16, 17] (fun u i wx => ∃ k : Nat, k ≤ kk + 1 ∧ i = .int .i64 k ∧ u = .int .i64 (evP P vp x k : Nat) ∧ Φ wx) (fun _ i _ => kk + 1 - (intOf i).toNat)
        case atStart => exact ⟨0, by omega, rfl, rfl, HΦ5.out⟩
        case round =>
          obtain ⟨k, hk, rfl, rfl, hΦk⟩ := hrel
          clear HΦ5
          by_cases hkk1 : k < kk + 1
          · have d : wr.cell? ⟨g, t, none⟩ = some (.int .i64 (x : Nat)) := by have := CL.out _ hΦk t hlt; rw [HXE.out] at this; exact this
            obtain ⟨c0, c1⟩ := CX.out _ hΦk
            have hev := evP_lt hF (p := vp) hx k
            have hpw := pw_lt hF x k
            have heu : evP P vp x (k + 1) = if vp / 2 ^ k % 2 = 1 then evP P vp x k ^^^ pw P x k else evP P vp x k := rfl
            have HEU := Lib.hid heu
            clear heu
            have KP : Hid (∀ W : World, Calls Try.prog 31 #[.agg #[.int .i64 m, .int .i64 P], .int .i64 (x : Nat), .int .i64 (k : Nat)] W fun e w' => e = .returned (.tuple #[.int .i64 (pw P x k : Nat), .int .i64 0]) ∧ Below W.heap.size W w') := Lib.hid fun W => by
              exact implPowerIn_C m P N hF x k hx (by omega) W
            have hxo := i64_xor_nat (evP P vp x k) (pw P x k) (by omega) (by omega)
            generalize evP P vp x k = u at hev hxo HEU ⊢
            generalize pw P x k = y at hpw hxo HEU KP
            have HXO := Lib.hid hxo
            clear hxo
            have eu : (IntKind.u64.wrap (k : Int)).toNat = k := by rw [IntKind.wrap_u64]; omega
            have em : min k 64 = k := by omega
            have HΦk := Lib.hid hΦk
            clear hΦk
            by_cases hbit : vp / 2 ^ k % 2 = 1
            · have hb1 := bit_any vp k (by omega)
              rw [hbit] at hb1
              have HV1 : Hid (evP P vp x (k + 1) = u ^^^ y) := Lib.hid (by rw [HEU.out, if_pos hbit])
              clear HEU hbit
              go_wp2_with fail
              go_cut [18, 19] (fun q c wx => q = .int .i64 (y : Nat) ∧ c = .int .i64 0 ∧ Φ wx)
              case first =>
                go_region_law (go_simp; go_wp2_with (go_at_call 31; refine (KP.out _).mono ?_; rintro e wn ⟨rfl, hb⟩; have HN2 := Lib.hid (SP.out _ _ (SD.out _ 1 HΦk.out) hb); clear hb))
                all_goals
                  go_wp2_with fail
                  go_meet
                  exact ⟨rfl, rfl, HN2.out⟩
              case rest =>
                obtain ⟨W6, rfl⟩ : ∃ x, x = wc := ⟨wc, rfl⟩
                obtain ⟨rfl, rfl, hΦ6⟩ := hcut
                have HΦ6 := Lib.hid hΦ6
                clear hΦ6 HΦk d c0 c1
                go_wp2_with fail
                go_roundw
                case rel => first | exact ⟨k + 1, by omega, by go_num, by rw [HV1.out, HXO.out], HΦ6.out⟩ | ((repeat apply Exists.intro); exact ⟨⟨k + 1, by omega, by go_num, by rw [HV1.out, HXO.out], HΦ6.out⟩, rfl⟩)
                case measure => simp [intOf]; omega
            · have hb1 := bit_any vp k (by omega)
              rw [show vp / 2 ^ k % 2 = 0 by omega] at hb1
              have HV1 : Hid (evP P vp x (k + 1) = u) := Lib.hid (by rw [HEU.out, if_neg hbit])
              clear HEU hbit
              go_wp2_with fail
              go_roundw
              case rel => exact ⟨k + 1, by omega, by go_num, by rw [HV1.out], HΦk.out⟩
              case measure => simp [intOf]; omega
          · obtain rfl : k = kk + 1 := by omega
            rw [HRT.out]
            have HΦk := Lib.hid hΦk
            clear hΦk
            go_wp2_with fail
            go_roundw
            case rel => first | exact ⟨t + 1, by omega, by go_num, HΦk.out⟩ | ((repeat apply Exists.intro); exact ⟨⟨t + 1, by omega, by go_num, HΦk.out⟩, rfl⟩)
            case measure => simp [intOf]; omega
    · obtain rfl : t = kk := by omega
      have HΦt := Lib.hid hΦt
      clear hΦt HSAME HROOT CL
      go_wp2_with fail
      go_loopw [20, 21] (fun u i wx => ∃ j : Nat, j ≤ N ∧ i = .int .i64 j ∧ u = .int .i64 (trN P m j : Nat) ∧ Φ wx) (fun _ i _ => N - (intOf i).toNat)
      case atStart => exact ⟨0, by omega, rfl, rfl, HΦt.out⟩
      case round =>
        obtain ⟨j, hj, rfl, rfl, hΦj⟩ := hrel
        clear HΦt
        obtain ⟨c0, c1⟩ := CX.out _ hΦj
        by_cases hjn : j < N
        · have htb := tr_bit hF hjn
          have htn : trN P m (j + 1) = trN P m j + tr P j m := rfl
          have htl : trN P m j ≤ j := trN_le hF j hj
          have HSP := Lib.hid (spl_some hF hjn)
          have KT : Hid (∀ W : World, Calls Try.prog 32 #[.agg #[.int .i64 m, .int .i64 P], .int .i64 (j : Nat)] W fun e w' => e = .returned (.tuple #[.int .i64 (tr P j m : Nat), .int .i64 0]) ∧ Below W.heap.size W w') := Lib.hid fun W => by
            exact implTraceIn_C m P N hF j hjn W
          have HΦj := Lib.hid hΦj
          clear hΦj
          by_cases h0 : tr P j m = 0
          · obtain ⟨b, hb, hbe, hbm⟩ := first_of (p := fun b => spl P b = j) N (HSP.out.1 h0)
            rw [h0] at KT htn
            have HTN := Lib.hid htn
            clear htn h0 HSP htb
            have KS : Hid (∀ W : World, Calls Try.prog 33 #[.agg #[.int .i64 m, .int .i64 P], .int .i64 (j : Nat)] W fun e w' => e = .returned (.tuple #[.int .i64 (b : Nat), .int .i64 0]) ∧ Below W.heap.size W w') := Lib.hid fun W => by
              exact implSplitIn_L m P N hF j hjn b hb hbe hbm W
            have hsl := hF.mul_lt b b
            have hbe2 : b ^^^ mul P b b = j := hbe
            have hxo := i64_xor_nat b (mul P b b) (by omega) (by omega)
            rw [hbe2] at hxo
            have KQ : Hid (∀ W : World, Calls Try.prog 25 #[.agg #[.int .i64 m, .int .i64 P], .int .i64 (b : Nat), .int .i64 (b : Nat)] W fun e w' => e = .returned (.tuple #[.int .i64 (mul P b b : Nat), .int .i64 0]) ∧ Below W.heap.size W w') := Lib.hid fun W => by
              exact implMulIn_C m P N hF b b hb hb W
            generalize mul P b b = z at hsl hxo KQ hbe2
            clear hbe hbe2 hbm
            generalize trN P m j = o at htl HTN ⊢
            go_wp2_with fail
            refine (KT.out _).mono ?_
            rintro e wa ⟨rfl, hb⟩
            have Fa := Lib.hid (SP.out _ _ HΦj.out hb)
            clear hb c0 c1
            obtain ⟨c0, c1⟩ := CX.out _ Fa.out
            go_wp2_with fail
            refine (KS.out _).mono ?_
            rintro e wb ⟨rfl, hb⟩
            have Fb := Lib.hid (SP.out _ _ Fa.out hb)
            clear hb c0 c1
            obtain ⟨c0, c1⟩ := CX.out _ Fb.out
            go_wp2_with fail
            refine (KQ.out _).mono ?_
            rintro e wc ⟨rfl, hb⟩
            have Fc := Lib.hid (SP.out _ _ Fb.out hb)
            clear hb c0 c1
            obtain ⟨c0, c1⟩ := CX.out _ Fc.out
            go_wp2_with fail
            go_roundw
            case rel => exact ⟨j + 1, by omega, by go_num, by rw [HTN.out]; first | rfl | go_num, Fc.out⟩
            case measure => simp [intOf]; omega
          · have h1 : tr P j m = 1 := by omega
            have hno := HSP.out.2 h0
            rw [h1] at KT htn
            have HTN := Lib.hid htn
            clear htn HSP htb h0 h1
            have KS : Hid (∀ W : World, Calls Try.prog 33 #[.agg #[.int .i64 m, .int .i64 P], .int .i64 (j : Nat)] W fun e w' => e = .returned (.tuple #[.int .i64 0, .int .i64 6]) ∧ Below W.heap.size W w') := Lib.hid fun W => by
              exact implSplitIn_N m P N hF j hjn hno W
            clear hno
            generalize trN P m j = o at htl HTN ⊢
            go_wp2_with fail
            refine (KT.out _).mono ?_
            rintro e wa ⟨rfl, hb⟩
            have Fa := Lib.hid (SP.out _ _ HΦj.out hb)
            clear hb c0 c1
            obtain ⟨c0, c1⟩ := CX.out _ Fa.out
            go_wp2_with fail
            refine (KS.out _).mono ?_
            rintro e wb ⟨rfl, hb⟩
            have Fb := Lib.hid (SP.out _ _ Fa.out hb)
            clear hb c0 c1
            obtain ⟨c0, c1⟩ := CX.out _ Fb.out
            go_wp2_with fail
            go_roundw
            case rel => exact ⟨j + 1, by omega, by go_num, by rw [HTN.out]; first | rfl | go_num, Fb.out⟩
            case measure => simp [intOf]; omega
        · obtain rfl : j = N := by omega
          have hhalf := trN_half hF
          have hxl : va ^^^ vb < j := xor_ltn hF hva hvb
          have htx := tr_xor hF hva hvb m
          have hta := tr_bit hF hva
          have htb := tr_bit hF hvb
          have KA : Hid (∀ W : World, Calls Try.prog 32 #[.agg #[.int .i64 m, .int .i64 P], .int .i64 (va : Nat)] W fun e w' => e = .returned (.tuple #[.int .i64 (tr P va m : Nat), .int .i64 0]) ∧ Below W.heap.size W w') := Lib.hid fun W => by
            exact implTraceIn_C m P j hF va hva W
          have KB2 : Hid (∀ W : World, Calls Try.prog 32 #[.agg #[.int .i64 m, .int .i64 P], .int .i64 (vb : Nat)] W fun e w' => e = .returned (.tuple #[.int .i64 (tr P vb m : Nat), .int .i64 0]) ∧ Below W.heap.size W w') := Lib.hid fun W => by
            exact implTraceIn_C m P j hF vb hvb W
          have KC : Hid (∀ W : World, Calls Try.prog 32 #[.agg #[.int .i64 m, .int .i64 P], .int .i64 (bits .xor .i64 (va : Nat) (vb : Nat))] W fun e w' => e = .returned (.tuple #[.int .i64 (bits .xor .i64 (tr P va m : Nat) (tr P vb m : Nat)), .int .i64 0]) ∧ Below W.heap.size W w') := Lib.hid fun W => by
            have S := implTraceIn_C m P j hF (va ^^^ vb) hxl W; rw [htx, ← i64_xor_nat va vb (by omega) (by omega), ← i64_xor_nat (tr P va m) (tr P vb m) (by omega) (by omega)] at S; exact S
          generalize tr P va m = ta at hta KA KC
          generalize tr P vb m = tb at htb KB2 KC
          generalize trN P m j = o at hhalf ⊢
          have hh : (2 : Int) * (o : Int) = (j : Int) := by omega
          have HΦj := Lib.hid hΦj
          clear hΦj htx
          go_wp2_with fail
          refine (KA.out _).mono ?_
          rintro e wa ⟨rfl, hb⟩
          have Fa := Lib.hid (SP.out _ _ HΦj.out hb)
          clear hb c0 c1
          obtain ⟨c0, c1⟩ := CX.out _ Fa.out
          go_wp2_with fail
          refine (KB2.out _).mono ?_
          rintro e wb ⟨rfl, hb⟩
          have Fb := Lib.hid (SP.out _ _ Fa.out hb)
          clear hb c0 c1
          obtain ⟨c0, c1⟩ := CX.out _ Fb.out
          go_wp2_with fail
          refine (KC.out _).mono ?_
          rintro e wc ⟨rfl, hb⟩
          have Fc := Lib.hid (SP.out _ _ Fb.out hb)
          clear hb c0 c1
          obtain ⟨c0, c1⟩ := CX.out _ Fc.out
          go_wp2_with fail
          go_ret
          exact ⟨rfl, CB.out _ Fc.out⟩

set_option maxRecDepth 100000 in
theorem lifted (os : Os) (started : os.Started) (H : Type) (enc : TypeId × Value → H) :
    ReturnsInHanded {} Try.checked os 8 .any (Rows.fnConjugatesSpec.pre6 enc Try.prog Try.f8 Rows.fnConjugatesRow.domain false) (Rows.fnConjugatesSpec.post enc Try.prog Try.f8 false true false false) := by
  refine returnsInHanded_of_change (C := Try.checked) own started (by kernel_rfl) Try.func8
    (ChangeSpec.witness6 (enc := enc) (C := Try.checked) false ⟨#[], #[.slice none 0 0, .slice none 0 0], []⟩ 8 (by kernel_rfl) (by kernel_rfl) (by kernel_rfl) (by kernel_rfl)) ?_
  intro W base args ds gs before hval0 hW hcnd _
  have hval : ∀ (j : Nat) t v, Try.f8.params[j]? = some t → args[j]? = some v → Value.okWide Try.prog W .any base t v := hval0
  have hW' := hW
  obtain ⟨p, q, hA0, hV, rfl, hfz, hnd⟩ := hW
  have hA : DataW.TrodAll enc Try.prog W 0 (fun _ => true) true Try.f8.params.toList args.toList ds p := hA0
  rw [Try.params8] at hA hval
  obtain ⟨v0, vs0, dd0, ds0, pp0, qq0, hargs, rfl, rfl, h0, r0⟩ := trodAll_cons hA
  obtain ⟨v1, vs1, dd1, ds1, pp1, qq1, rfl, rfl, rfl, h1, r1⟩ := trodAll_cons r0
  obtain ⟨rfl, rfl, rfl⟩ := trodAll_nil r1
  obtain rfl : args = #[v0, v1] := by cases args; simp_all
  obtain ⟨rfl, rfl⟩ := trodVars_none hV
  have k0 := h0
  have lt0 : ∀ x ∈ pp0, x.block < W.heap.size := by obtain ⟨m, hm⟩ := k0; exact DataW.trod_lt m _ _ _ hm
  obtain ⟨a0, n0, cap0, rfl⟩ := okWide_slice Try.underlying40 (hval 0 40 v0 rfl rfl)
  have w0 : Bys W W.heap.size a0 n0 := by
    obtain ⟨fuel, hf⟩ := h0
    obtain ⟨A, k, c, e, w⟩ := bytes_open (v := .slice a0 n0 cap0) hf
    injection e with e1 e2 e3
    subst e1 e2 e3
    exact w
  have k1 := h1
  have lt1 : ∀ x ∈ pp1, x.block < W.heap.size := by obtain ⟨m, hm⟩ := k1; exact DataW.trod_lt m _ _ _ hm
  obtain ⟨a1, n1, cap1, rfl⟩ := okWide_slice Try.underlying40 (hval 1 40 v1 rfl rfl)
  have w1 : Bys W W.heap.size a1 n1 := by
    obtain ⟨fuel, hf⟩ := h1
    obtain ⟨A, k, c, e, w⟩ := bytes_open (v := .slice a1 n1 cap1) hf
    injection e with e1 e2 e3
    subst e1 e2 e3
    exact w
  clear hA0 hval0
  refine (walk a0 n0 cap0 a1 n1 cap1 W w0 w1).mono fun e W' ⟨he, bel⟩ => ?_
  subst he
  exact ⟨_, rfl, _, _, _, [], _, [], hW', trodAll_mk1 (shut_bool Try.underlying4 _), (trodAll_cons_mk (Below.trod laidOut (by kernel_rfl) (of_decide_eq_true (by kernel_rfl)) k0 bel lt0) (trodAll_cons_mk (Below.trod laidOut (by kernel_rfl) (of_decide_eq_true (by kernel_rfl)) k1 bel lt1) trodAll_mk0)), rfl, bel.frame _, fun h => by cases h⟩

theorem over : Rows.fnConjugatesRow.holds Try.pinned (OpenSpec.ofChange Rows.fnConjugatesSpec) :=
  OpenClaim.holds_of_wide 8 Try.f8 rfl rfl rfl rfl rfl rfl rfl ⟨rfl, rfl, rfl, rfl, rfl⟩ rfl rfl rfl rfl rfl (by kernel_rfl) Try.func8 (by kernel_rfl)
    (of_decide_eq_true (by kernel_rfl)) (by unfold Func.isWrapper; first | (rw [if_pos (by decide +kernel)]; kernel_rfl) | (rw [if_neg (by decide +kernel)]; exact ⟨rfl, rfl⟩))
    (fun os started H enc _ => lifted os started H enc)

theorem proved : Rows.FnConjugatesSaid :=
  over
#print axioms proved
end Go.Proofs.Ytpjnpkgndghlhaa.fnConjugates
