/- The program's linear polynomials: made of numbers; what linearFor and linearsFor return. -/
import Derived.Test.YtdpaoabgigdlgaaLinI3
namespace Go.Proofs.Ytdpaoabgigdlgaa
open Go.RowKit Go.Joins
set_option linter.unusedVariables false

set_option maxHeartbeats 1600000 in
theorem linear_out (c m P n : Nat) (hF : Fld m P n) (b len cap : Nat) (zs : List Int) (w : World) (hM : Mt w b len zs) (hD : w.cell? ⟨c, 0, none⟩ = some (.int .i64 m)) (h : 12 < len ∨ allIn n zs = false) :
    Calls Try.prog 108 #[.pointer (some ⟨c, 0, none⟩), .slice (some ⟨b, 0, none⟩) len cap] w fun e w' => e = .returned (.tuple #[.slice none 0 0, .bool false]) ∧ w = w' := by
  have hs := hM.small
  by_cases h12 : 12 < len
  · go_enter Try.func108, Try.ntmps108
    go_wp2
    go_ret2
    exact ⟨rfl, rfl⟩
  · have hin : allIn n zs = false := by rcases h with h | h; omega; exact h
    have H := Lib.hid (hasAll_any c m P n hF _ len cap zs (by omega) w hM.arg hD)
    have H2 : Hid (Calls Try.prog 57 #[.pointer (some ⟨c, 0, none⟩), .slice (some ⟨b, 0, none⟩) len cap] w fun e w' => e = .returned (.bool false) ∧ w = w') := by
      have := H.out
      rw [hin] at this
      exact this
    clear H h hin
    go_enter Try.func108, Try.ntmps108
    go_wp2_with (go_at_call 57; refine H2.out.mono ?_; rintro e w' ⟨rfl, rfl⟩)
    go_ret2
    exact ⟨rfl, rfl⟩

set_option maxRecDepth 100000 in
set_option maxHeartbeats 3200000 in
theorem linear_in (c m P n : Nat) (hF : Fld m P n) (b len cap : Nat) (zs : List Int) (w : World) (hM : Mt w b len zs) (hD : w.cell? ⟨c, 0, none⟩ = some (.int .i64 m)) (h12 : len ≤ 12) (hin : allIn n zs = true) :
    Calls Try.prog 108 #[.pointer (some ⟨c, 0, none⟩), .slice (some ⟨b, 0, none⟩) len cap] w fun e w' => ∃ g, e = .returned (.tuple #[.slice (some ⟨g, 0, none⟩) len len, .bool (trmB (nats zs))]) ∧ Below w.heap.size w w' ∧ Rl w' .u8 (some ⟨g, 0, none⟩) len (nats zs) := by
  obtain ⟨i0, hi, hz0, hz1, hz2⟩ := info_parts Try.infoE
  have h32 := hF.n32
  have hn2 := hF.n2
  have H2 : Hid (Calls Try.prog 57 #[.pointer (some ⟨c, 0, none⟩), .slice (some ⟨b, 0, none⟩) len cap] w fun e w' => e = .returned (.bool true) ∧ w = w') := by
    have := hasAll_any c m P n hF _ len cap zs (by omega) w hM.arg hD
    rw [hin] at this
    exact this
  have hR := hM.rl hin
  have hlt := nats_lt hin (by omega)
  have hlen := hR.len
  obtain ⟨p, hp⟩ : ∃ p, nats zs = p := ⟨_, rfl⟩
  rw [hp] at hR hlt hlen ⊢
  have HP := Lib.hid hlt
  have HR := Lib.hid hR
  clear hlt hR hp hin hM
  go_enter Try.func108, Try.ntmps108
  go_wp2_with (first | (go_at_call 57; refine H2.out.mono ?_; rintro e w' ⟨rfl, rfl⟩) | (at_make; refine wpList_make_full _ rfl _ _ 51 rfl w.heap.size 49 i0 (.int .u8 0) 1 Try.underlying51 hi hz0 hz1 .i64 .i64 _ _ len rfl rfl rfl rfl (by rw [hz2]; omega) (by unfold maxLen; omega) (Nat.le_refl _) ?_; intro w1 hown hgrow; have hb1 : Below w.heap.size w w1 := (Below.refl _ w).grown hgrow (Nat.le_refl _) (fun k h => by cases h); have HW := Lib.hid (Wr.made (K := .u8) hown); have HB := Lib.hid hb1; clear hown hgrow hb1))
  go_loopw [23] (fun i wr => ∃ (k : Nat) (F : Nat → Nat), k ≤ len ∧ i = .int .i64 k ∧ Below w.heap.size w wr ∧ Wr wr .u8 w.heap.size len F ∧ Hid (∀ j, j < k → F j = nth p j)) (fun i _ => len - (intOf i).toNat)
  case atStart => exact ⟨0, _, Nat.zero_le _, rfl, HB.out, HW.out, Lib.hid (fun j hj => by omega)⟩
  case round =>
    obtain ⟨k, F, hk, rfl, hb, hW, HI⟩ := hrel
    clear HW HB
    by_cases hlt : k < len
    · obtain ⟨g, hg1, hg, hc⟩ := (HR.out.below hb).row (by omega)
      injection hg1 with hg1
      injection hg1 with hg1
      subst hg1
      have hck := hc k hlt
      clear hc
      have hx := HP.out k
      obtain ⟨x, hxe⟩ : ∃ x, nth p k = x := ⟨_, rfl⟩
      rw [hxe] at hck hx
      have HX := Lib.hid hxe
      clear hxe
      have hcw := hW.cell k hlt
      have hfw := hW.free k
      have e1 : IntKind.u8.wrap (x : Int) = x := by rw [IntKind.wrap_u8']; omega
      have HB2 := Lib.hid hb
      have HW2 := Lib.hid hW
      clear hb hW
      go_wp2
      go_roundw
      case rel => exact ⟨k + 1, _, by omega, by go_num, below_set HB2.out _ _ (Nat.le_refl _) _, HW2.out.set k hlt x, Lib.hid (fun j hj => by
        simp only [put]
        by_cases e : j = k
        · subst e; rw [if_pos rfl, HX.out]
        · rw [if_neg e]; exact HI.out j (by omega))⟩
      case measure => simp [intOf]; omega
    · obtain rfl : k = len := by omega
      have HT := Lib.hid (trimmed_any (some ⟨w.heap.size, 0, none⟩) k k F (Nat.le_refl _) (by omega) wr (fun _ => ⟨_, rfl, hW.cell⟩))
      have eT : tl F k = tl (nth p) k := tl_congr fun i hi => HI.out i hi
      have eB : trmB p = decide (tl F k = k) := by rw [trmB_tl, hlen, eT]
      have hres : Rl wr .u8 (some ⟨w.heap.size, 0, none⟩) k p := by
        have h1 := hW.rl
        rwa [show lst F k = p from nth_ext (by rw [lst_length]; exact hlen.symm) fun j hj => by rw [lst_length] at hj; rw [lst_nth _ hj]; exact HI.out j hj] at h1
      have HRES := Lib.hid hres
      have HB2 := Lib.hid hb
      have EB := Lib.hid eB
      clear hb hW hres eT eB
      obtain ⟨t, ht⟩ : ∃ t, tl F k = t := ⟨_, rfl⟩
      rw [ht] at HT EB
      clear ht
      by_cases htk : t = k
      · subst htk
        go_wp2_with (go_at_call 78; refine HT.out.mono ?_; rintro e w' ⟨rfl, rfl⟩)
        go_ret2
        exact ⟨w.heap.size, by rw [EB.out]; simp, HB2.out, HRES.out⟩
      · have g1 : ((t : Int) == (k : Int)) = false := by simp; omega
        have HTK := Lib.hid htk
        go_wp2_with (go_at_call 78; refine HT.out.mono ?_; rintro e w' ⟨rfl, rfl⟩)
        go_ret2
        exact ⟨w.heap.size, by rw [EB.out]; simp [HTK.out], HB2.out, HRES.out⟩

/-- What linear returns for numbers that are a linear polynomial, and for others. -/
theorem linear_yes (c m P n : Nat) (hF : Fld m P n) (b len cap : Nat) (zs : List Int) (w : World) (hM : Mt w b len zs) (hD : w.cell? ⟨c, 0, none⟩ = some (.int .i64 m)) (hok : okL n zs = true) :
    Calls Try.prog 108 #[.pointer (some ⟨c, 0, none⟩), .slice (some ⟨b, 0, none⟩) len cap] w fun e w' => ∃ g, e = .returned (.tuple #[.slice (some ⟨g, 0, none⟩) len len, .bool true]) ∧ Below w.heap.size w w' ∧ Rl w' .u8 (some ⟨g, 0, none⟩) len (nats zs) := by
  have h := linear_in c m P n hF b len cap zs w hM hD (by have := okL_len hok; have := hM.len; omega) (okL_in hok)
  have e : trmB (nats zs) = true := by simp [okL] at hok; exact hok.2.2
  rw [e] at h
  exact h
theorem linear_no (c m P n : Nat) (hF : Fld m P n) (b len cap : Nat) (zs : List Int) (w : World) (hM : Mt w b len zs) (hD : w.cell? ⟨c, 0, none⟩ = some (.int .i64 m)) (hok : okL n zs = false) :
    Calls Try.prog 108 #[.pointer (some ⟨c, 0, none⟩), .slice (some ⟨b, 0, none⟩) len cap] w fun e w' => ∃ A k, e = .returned (.tuple #[.slice A k k, .bool false]) ∧ Below w.heap.size w w' := by
  by_cases h : 12 < len ∨ allIn n zs = false
  · refine (linear_out c m P n hF b len cap zs w hM hD h).mono ?_
    rintro e w' ⟨rfl, rfl⟩
    exact ⟨none, 0, rfl, Below.refl _ _⟩
  · have h12 : len ≤ 12 := by omega
    have hin : allIn n zs = true := by cases ha : allIn n zs with
      | true => rfl
      | false => exact absurd (.inr ha) h
    have e : trmB (nats zs) = false := by
      cases hb : trmB (nats zs) with
      | false => rfl
      | true =>
        exfalso
        have : okL n zs = true := by simp [okL, hb, hin]; have := hM.len; omega
        rw [this] at hok; cases hok
    have h := linear_in c m P n hF b len cap zs w hM hD h12 hin
    rw [e] at h
    refine h.mono ?_
    rintro e w' ⟨g, rfl, hb, _⟩
    exact ⟨_, _, rfl, hb⟩

set_option maxHeartbeats 800000 in
theorem zeroAt_any (a : Nat) (w : World) :
    Calls Try.prog 54 #[.int .u8 a] w fun e w' => ∃ g, e = .returned (.slice (some ⟨g, 0, none⟩) 2 2) ∧ Below w.heap.size w w' ∧ Rl w' .u8 (some ⟨g, 0, none⟩) 2 [a, 1] := by
  go_enter Try.func54, Try.ntmps54
  go_wp2
  go_ret
  refine ⟨_, rfl, below_alloc1 w _, rfl, fun _ => ⟨_, rfl, by simp, fun j hj => ?_⟩⟩
  have : j = 0 ∨ j = 1 := by omega
  rcases this with rfl | rfl
  · simp [nth]
  · simp [nth]

set_option maxHeartbeats 800000 in
theorem linearFor_A (d p : Int) (hf : fldI d p = false) (hl : -9223372036854775808 ≤ p) (hh : p ≤ 9223372036854775807) (v1 v2 : Value) (w : World) :
    Calls Try.prog 73 #[.agg #[.int .i64 d, .int .i64 p], v1, v2] w fun e w' => e = .returned (.tuple #[.pointer none, .slice none 0 0, .int .i64 1]) ∧ Below w.heap.size w w' := by
  have HF := Lib.hid hf
  clear hf
  go_enter Try.func73, Try.ntmps73
  go_wp2_with (go_at_call 51; refine (calculatorFor_invalid _ _ HF.out hl hh _ _).mono ?_; rintro e w1 ⟨rfl, hb⟩)
  go_ret3
  exact ⟨rfl, ((Below.refl _ w).alloc (Nat.le_refl _) _).trans (hb.mono (by simp))⟩
set_option maxHeartbeats 800000 in
theorem linearFor_B (m P n : Nat) (hF : Fld m P n) (b len cap : Nat) (zs : List Int) (v2 : Value) (w : World) (hM : Mt w b len zs) (hok : okL n zs = false) :
    Calls Try.prog 73 #[.agg #[.int .i64 m, .int .i64 P], .slice (some ⟨b, 0, none⟩) len cap, v2] w fun e w' => e = .returned (.tuple #[.pointer none, .slice none 0 0, .int .i64 1]) ∧ Below w.heap.size w w' := by
  have HM := Lib.hid hM
  clear hM
  go_enter Try.func73, Try.ntmps73
  have hb0 := below_alloc1 w (.cells #[.int .i64 m, .int .i64 P] 27)
  have HB0 := Lib.hid hb0
  clear hb0
  go_wp2_with fail
  refine (calculatorFor_none m P n hF _).mono ?_
  rintro e w1 ⟨c, rfl, hb, hC, hc⟩
  have hD := hC.deg
  have HB1 := Lib.hid (HB0.out.trans (hb.mono (by simp)))
  have HM1 := Lib.hid (HM.out.below HB1.out)
  clear hb hc
  go_wp2_with fail
  refine (linear_no c m P n hF b len cap zs _ HM1.out hD hok).mono ?_
  rintro e w2 ⟨A, k, rfl, hb⟩
  have HB2 := Lib.hid (HB1.out.trans (hb.mono HB1.out.size))
  clear hb
  go_wp2_with fail
  go_ret3
  exact ⟨rfl, HB2.out⟩
set_option maxHeartbeats 800000 in
theorem linearFor_R (m P n : Nat) (hF : Fld m P n) (b len cap : Nat) (zs : List Int) (A2 : Option Addr) (n2 cap2 : Nat) (z2 : List Int) (hn2 : n2 ≤ 140737488351232) (w : World) (hM : Mt w b len zs) (hok : okL n zs = true) (hA : Arg w A2 n2 z2) (hin : allIn n z2 = false) :
    Calls Try.prog 73 #[.agg #[.int .i64 m, .int .i64 P], .slice (some ⟨b, 0, none⟩) len cap, .slice A2 n2 cap2] w fun e w' => e = .returned (.tuple #[.pointer none, .slice none 0 0, .int .i64 2]) ∧ Below w.heap.size w w' := by
  have HM := Lib.hid hM
  have HA := Lib.hid hA
  have HIN := Lib.hid hin
  have HOK := Lib.hid hok
  clear hM hA hin hok
  go_enter Try.func73, Try.ntmps73
  have hb0 := below_alloc1 w (.cells #[.int .i64 m, .int .i64 P] 27)
  have HB0 := Lib.hid hb0
  clear hb0
  go_wp2_with fail
  refine (calculatorFor_none m P n hF _).mono ?_
  rintro e w1 ⟨c, rfl, hb, hC, hc⟩
  have hD := hC.deg
  have hcl := hC.lt
  have HB1 := Lib.hid (HB0.out.trans (hb.mono (by simp)))
  have HM1 := Lib.hid (HM.out.below HB1.out)
  clear hb hc
  go_wp2_with fail
  refine (linear_yes c m P n hF b len cap zs _ HM1.out hD HOK.out).mono ?_
  rintro e w2 ⟨g, rfl, hb, hR⟩
  have hD2 : w2.cell? ⟨c, 0, none⟩ = some (.int .i64 m) := (hb.cell (p := ⟨c, 0, none⟩) hcl).trans hD
  have HB2 := Lib.hid (HB1.out.trans (hb.mono HB1.out.size))
  clear hb
  go_wp2_with fail
  have H := hasAll_any c m P n hF A2 n2 cap2 z2 hn2 w2 (HA.out.from HB2.out) hD2
  rw [HIN.out] at H
  refine H.mono ?_
  rintro e w' ⟨rfl, rfl⟩
  clear H
  go_wp2_with fail
  go_ret3
  exact ⟨rfl, HB2.out⟩
set_option maxHeartbeats 800000 in
theorem linearFor_C (m P n : Nat) (hF : Fld m P n) (b len cap : Nat) (zs : List Int) (A2 : Option Addr) (n2 cap2 : Nat) (z2 : List Int) (hn2 : n2 ≤ 140737488351232) (w : World) (hM : Mt w b len zs) (hok : okL n zs = true) (hA : Arg w A2 n2 z2) (hin : allIn n z2 = true) :
    Calls Try.prog 73 #[.agg #[.int .i64 m, .int .i64 P], .slice (some ⟨b, 0, none⟩) len cap, .slice A2 n2 cap2] w fun e w' => ∃ c g, e = .returned (.tuple #[.pointer (some ⟨c, 0, none⟩), .slice (some ⟨g, 0, none⟩) len len, .int .i64 0]) ∧ Below w.heap.size w w' ∧ Calc c m P n w' ∧ Rl w' .u8 (some ⟨g, 0, none⟩) len (nats zs) := by
  have HM := Lib.hid hM
  have HA := Lib.hid hA
  have HIN := Lib.hid hin
  have HOK := Lib.hid hok
  clear hM hA hin hok
  go_enter Try.func73, Try.ntmps73
  have hb0 := below_alloc1 w (.cells #[.int .i64 m, .int .i64 P] 27)
  have HB0 := Lib.hid hb0
  clear hb0
  go_wp2_with fail
  refine (calculatorFor_none m P n hF _).mono ?_
  rintro e w1 ⟨c, rfl, hb, hC, hc⟩
  have hD := hC.deg
  have hcl := hC.lt
  have HB1 := Lib.hid (HB0.out.trans (hb.mono (by simp)))
  have HM1 := Lib.hid (HM.out.below HB1.out)
  have HC := Lib.hid hC
  clear hb hc hC
  go_wp2_with fail
  refine (linear_yes c m P n hF b len cap zs _ HM1.out hD HOK.out).mono ?_
  rintro e w2 ⟨g, rfl, hb, hR⟩
  have hD2 : w2.cell? ⟨c, 0, none⟩ = some (.int .i64 m) := (hb.cell (p := ⟨c, 0, none⟩) hcl).trans hD
  have HC2 := Lib.hid (HC.out.below hcl hb)
  have HB2 := Lib.hid (HB1.out.trans (hb.mono HB1.out.size))
  have HR := Lib.hid hR
  clear hb hR
  go_wp2_with fail
  have H := hasAll_any c m P n hF A2 n2 cap2 z2 hn2 w2 (HA.out.from HB2.out) hD2
  rw [HIN.out] at H
  refine H.mono ?_
  rintro e w' ⟨rfl, rfl⟩
  clear H
  go_wp2_with fail
  go_ret3
  exact ⟨c, g, rfl, HB2.out, HC2.out, HR.out⟩
end Go.Proofs.Ytdpaoabgigdlgaa
