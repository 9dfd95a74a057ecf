/- The program's interpolation. -/
import Derived.Test.YtilghmfffdmnjaaEPlus
import Derived.Test.YtilghmfffdmnjaaLinI4
import Derived.Test.YtilghmfffdmnjaaDivPure
import Derived.Test.YtilghmfffdmnjaaQuo
namespace Go.Proofs.Ytilghmfffdmnjaa
open Go.RowKit Go.Joins
set_option linter.unusedVariables false

/-- A literal list of one element. -/
theorem rl_one (w : World) (a : Nat) : Rl (w.alloc (.cells #[.int .u8 a] 76)) .u8 (some ⟨w.heap.size, 0, none⟩) 1 [a] :=
  ⟨rfl, fun _ => ⟨_, rfl, by simp, fun j hj => by
    obtain rfl : j = 0 := by omega
    simp [nth]⟩⟩
theorem ret_sb' {A : Option Addr} {r cd : Nat} {a b : Bool} (h : a = b) : Ending.returned (.tuple #[.slice A r cd, .bool a]) = .returned (.tuple #[.slice A r cd, .bool b]) := by rw [h]
set_option maxRecDepth 100000 in
set_option maxHeartbeats 6400000 in
theorem interpolated_any (c m P n : Nat) (hF : Fld m P n) (A1 A2 : Option Addr) (len c1 c2 : Nat) (xs ys : List Nat) (hx : ∀ j, nth xs j < n) (hy : ∀ j, nth ys j < n) (w : World) (hlen : len ≤ 1048576) (hC : Calc c m P n w) (hX : Rl w .i64 A1 len xs) (hY : Rl w .i64 A2 len ys) :
    Calls Try.prog 67 #[.pointer (some ⟨c, 0, none⟩), .slice A1 len c1, .slice A2 len c2] w fun e w' => ∃ D r cd, e = .returned (.tuple #[.slice D r cd, .bool (ipB P n (nth xs) (nth ys) len)]) ∧ Below w.heap.size w w' ∧ (ipB P n (nth xs) (nth ys) len = true → Rl w' .u8 D r (ip P n (nth xs) (nth ys) len).2) := by
  have h32 := hF.n32
  have hn2 := hF.n2
  have HX := Lib.hid hx
  have HY := Lib.hid hy
  have HS := Lib.hid hX
  have HT := Lib.hid hY
  have hcl := hC.lt
  have HC := Lib.hid hC
  clear hx hy hX hY hC
  go_enter Try.func67, Try.ntmps67
  have hl1 := below_alloc1 w (.cells #[.int .u8 1] 76)
  have HB1 := Lib.hid hl1
  have HC1 := Lib.hid (HC.out.below hcl hl1)
  have HR1 : Hid (Rl (w.alloc (.cells #[.int .u8 1] 76)) .u8 (some ⟨w.heap.size, 0, none⟩) 1 (ip P n (nth xs) (nth ys) 0).1) := rl_one w 1
  clear hl1
  go_wp2
  go_loopw [8, 9, 17] (fun u v i wr => ∃ (j : Nat) (D : Option Addr) (r cd : Nat) (D2 : Option Addr) (r2 c2 : Nat), j ≤ len ∧ i = .int .i64 j ∧ u = .slice D r cd ∧ v = .slice D2 r2 c2 ∧ Below w.heap.size w wr ∧ Rl wr .u8 D r (ip P n (nth xs) (nth ys) j).1 ∧ Rl wr .u8 D2 r2 (ip P n (nth xs) (nth ys) j).2 ∧ Hid (ipOk P n (nth xs) (nth ys) j)) (fun _ _ i _ => len - (intOf i).toNat)
  case atStart => exact ⟨0, _, 1, 1, _, 0, 0, Nat.zero_le _, rfl, rfl, rfl, HB1.out, HR1.out, Rl.nil _ _ _, Lib.hid (fun k hk => by omega)⟩
  case round =>
    obtain ⟨j, D, r, cd, D2, r2, c2, hj, rfl, rfl, rfl, hb, hR, hR2, HOK⟩ := hrel
    clear HR1 HC1 HB1
    have hj32 := ip_small hF HX.out HOK.out
    have hle := ip_le P n (nth xs) (nth ys) j
    have hr1 := hR.len
    have hr2 := hR2.len
    have hr33 : r ≤ 1000 := by omega
    have hr34 : r2 ≤ 1000 := by omega
    by_cases hlt : j < len
    · obtain ⟨g, rfl, hg, hc⟩ := (HS.out.below hb).row (by omega)
      obtain ⟨g2, rfl, hg2, hc2⟩ := (HT.out.below hb).row (by omega)
      have hck := hc j hlt
      have hcy := hc2 j hlt
      clear hc hc2
      have hxj := HX.out j
      have hyj := HY.out j
      have HL := Lib.hid (ip_lt hF (nth xs) (nth ys) j)
      have HN1 := Lib.hid (ip_next1 P n (nth xs) (nth ys) j)
      have HN2 := Lib.hid (ip_next2 P n (nth xs) (nth ys) j)
      have HN3 := Lib.hid (fun h => ipOk_next HOK.out (i := j) h)
      have HN4 := Lib.hid (fun h => ipB_no (P := P) (n := n) (xs := nth xs) (ys := nth ys) hlt h)
      obtain ⟨x, hxe⟩ : ∃ x, nth xs j = x := ⟨_, rfl⟩
      obtain ⟨y, hye⟩ : ∃ y, nth ys j = y := ⟨_, rfl⟩
      rw [hxe] at hck hxj HN1 HN2 HN3 HN4
      rw [hye] at hcy hyj HN2
      clear hxe hye
      obtain ⟨p, hp⟩ : ∃ p, (ip P n (nth xs) (nth ys) j).2 = p := ⟨_, rfl⟩
      obtain ⟨q, hq⟩ : ∃ q, (ip P n (nth xs) (nth ys) j).1 = q := ⟨_, rfl⟩
      rw [hp] at hR2 HL HN2 hr2
      rw [hq] at hR HL HN1 HN2 HN3 HN4 hr1
      clear hp hq
      have e1 : IntKind.u8.wrap (x : Int) = x := by rw [IntKind.wrap_u8']; omega
      have e2 : IntKind.u8.wrap (y : Int) = y := by rw [IntKind.wrap_u8']; omega
      have hCr := HC.out.below hcl hb
      have HV := Lib.hid (value_any c m P n hF D r cd q HL.out.1 x hxj (by omega) wr hCr hR)
      have HU := Lib.hid (fun W (h : Calc c m P n W) (h2 : Rl W .u8 D2 r2 p) => value_any c m P n hF D2 r2 c2 p HL.out.2 x hxj (by omega) W h h2)
      have hvn := vl_lt hF q x
      have hun := vl_lt hF p x
      obtain ⟨v, hve⟩ : ∃ v, vl P q x = v := ⟨_, rfl⟩
      obtain ⟨u, hue⟩ : ∃ u, vl P p x = u := ⟨_, rfl⟩
      rw [hve] at HV hvn HN1 HN2 HN3 HN4
      rw [hue] at HU hun HN2
      clear hve hue
      have HB := Lib.hid hb
      have HCR := Lib.hid hCr
      have HR := Lib.hid hR
      have HR2 := Lib.hid hR2
      clear hb hR hR2 hCr
      by_cases hv0 : v = 0
      · subst hv0
        have HE := Lib.hid (HN4.out rfl)
        go_wp2_with (go_at_call 71; refine HV.out.mono ?_; rintro e w' ⟨rfl, rfl⟩)
        go_ret2
        exact ⟨_, _, _, ret_sb' HE.out.symm, HB.out, fun h => by rw [HE.out] at h; cases h⟩
      · have g0 : ((v : Int) == 0) = false := by simp; omega
        have g1 : ((v : Int) != 0) = true := by simp; omega
        have HN5 := Lib.hid (HN3.out hv0)
        have huy := hF.xor_lt hun hyj
        have hqn := quo_lt hF (P := P) (u ^^^ y) v
        have hcy' : wr.drew.cell? ⟨g2, j, none⟩ = some (.int .i64 y) := hcy
        go_wp2_with (go_at_call 71; refine HV.out.mono ?_; rintro e w' ⟨rfl, rfl⟩)
        go_quiet ((first | (go_at_call 71; exact (quiet_of_eq (HU.out _ ⟨HCR.out.deg, HCR.out.tab⟩ (HR2.out.same rfl)))) | (go_at_call 100; exact (quiet_of_eq (ePlus_any _ _ (by omega) (by omega) _)))))
        go_wp2_with fail
        have hb0 := below_drewN HB.out nq
        have hC0 : Calc c m P n (wr.drewN nq) := ⟨HCR.out.deg, HCR.out.tab⟩
        have hR0 := HR.out.drewN nq
        have hP0 := HR2.out.drewN nq
        generalize wr.drewN nq = W0 at hb0 hC0 hR0 hP0 ⊢
        obtain ⟨cq, hcq⟩ : ∃ cq, quo P n (u ^^^ y) v = cq := ⟨_, rfl⟩
        have HQ := Lib.hid (quotient_any c m P n hF (u ^^^ y) v huy hv0 hvn W0 hC0)
        rw [hcq] at hqn HN2 HQ
        clear hcq
        have HB0 := Lib.hid hb0
        have HC0 := Lib.hid hC0
        have HR0 := Lib.hid hR0
        have HP0 := Lib.hid hP0
        clear hb0 hC0 hR0 hP0 HV HU HR HR2 HCR HB hcy hcy' hck
        refine HQ.out.mono ?_
        rintro e W1 ⟨rfl, hb1⟩
        have HB1 := Lib.hid (HB0.out.trans (hb1.mono HB0.out.size))
        have HC1 := Lib.hid (HC0.out.below HC0.out.lt hb1)
        have HR1 := Lib.hid (HR0.out.below hb1)
        have HP1 := Lib.hid (HP0.out.below hb1)
        clear hb1 HQ
        go_wp2_with fail
        refine (multiple_any c m P n hF cq hqn D r cd q HL.out.1 (by omega) W1 HC1.out HR1.out).mono ?_
        rintro e W2 ⟨b2, rfl, hb2, hRm⟩
        have HB2 := Lib.hid (HB1.out.trans (hb2.mono HB1.out.size))
        have HC2 := Lib.hid (HC1.out.below HC1.out.lt hb2)
        have HR2 := Lib.hid (HR1.out.below hb2)
        have HP2 := Lib.hid (HP1.out.below hb2)
        have HM2 := Lib.hid hRm
        clear hb2 hRm
        go_wp2_with fail
        refine (plusL_any D2 (some ⟨b2, 0, none⟩) r2 r c2 r p (scl P cq q) (fun i => by have := HL.out.2 i; omega) (fun i => by have := scl_lt hF hqn q i; omega) (by omega) (by omega) W2 HP2.out HM2.out).mono ?_
        rintro e W3 ⟨D3, r3, c3, rfl, hrc, hcc, hb3, hR3⟩
        have HB3 := Lib.hid (HB2.out.trans (hb3.mono HB2.out.size))
        have HC3 := Lib.hid (HC2.out.below HC2.out.lt hb3)
        have HR3 := Lib.hid (HR2.out.below hb3)
        have HS3 := Lib.hid hR3
        clear hb3 hR3 hrc hcc
        go_wp2_with fail
        refine (zeroAt_any v W3).mono ?_
        rintro e W4 ⟨g4, rfl, hb4, hR4⟩
        have HB4 := Lib.hid (HB3.out.trans (hb4.mono HB3.out.size))
        have HC4 := Lib.hid (HC3.out.below HC3.out.lt hb4)
        have HR4 := Lib.hid (HR3.out.below hb4)
        have HS4 := Lib.hid (HS3.out.below hb4)
        have HZ4 := Lib.hid hR4
        clear hb4 hR4
        go_wp2_with fail
        refine (composed_any c m P n hF _ D 2 r 2 cd [v, 1] q (two_lt hF hvn) HL.out.1 (by omega) (by omega) W4 HC4.out HZ4.out HR4.out).mono ?_
        rintro e W5 ⟨D5, r5, rfl, hb5, hR5⟩
        have HB5 := Lib.hid (HB4.out.trans (hb5.mono HB4.out.size))
        have HS5 := Lib.hid (HS4.out.below hb5)
        have HR5 := Lib.hid hR5
        clear hb5 hR5
        go_wp2_with fail
        go_roundw
        case rel => exact ⟨j + 1, D5, r5, r5, D3, r3, c3, by omega, by go_num, rfl, rfl, HB5.out, by rw [HN1.out]; exact HR5.out, by rw [HN2.out]; exact HS5.out, HN5⟩
        case measure => simp [intOf]; omega
    · obtain rfl : j = len := by omega
      have HE := Lib.hid (ok_ipB HOK.out)
      go_wp2
      go_ret2
      exact ⟨_, _, _, ret_sb' HE.out.symm, hb, fun _ => hR2⟩
end Go.Proofs.Ytilghmfffdmnjaa
