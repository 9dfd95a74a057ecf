/- Words over a field: the program's and the model's checks, and the elements of a list. -/
import Derived.Test.YtfhalaohegdbhaaWr
import Derived.Test.YtfhalaohegdbhaaInv
import Derived.Test.YtfhalaohegdbhaaIn
import Derived.Test.YtfhalaohegdbhaaDivPure
import Derived.Test.YtfhalaohegdbhaaMake
import Derived.Test.YtfhalaohegdbhaaElemsOf
namespace Go.Proofs.Ytfhalaohegdbhaa
open Go.RowKit Go.Joins
set_option linter.unusedVariables false

set_option maxHeartbeats 1600000 in
theorem l04Elements_any (m P n : Nat) (hF : Fld m P n) (b len cap : Nat) (zs : List Int) (w : World) (hM : Mt w b len zs) :
    Calls Try.prog 51 #[.agg #[.int .i64 m, .int .i64 P], .slice (some ⟨b, 0, none⟩) len cap] w fun e w' => e = .returned (.bool (allIn n zs)) ∧ Below w.heap.size w w' := by
  obtain ⟨r, hr⟩ : ∃ r, allIn n zs = r := ⟨_, rfl⟩
  rw [hr]
  have HR := Lib.hid hr
  clear hr
  have hl := hM.len
  have hs := hM.small
  have h32 := hF.n32
  have hbl := hM.lt
  have HM := Lib.hid hM
  clear hM
  have ew : IntKind.i64.wrap ((n : Int) - 1) = (n : Int) - 1 := by rw [IntKind.wrap_i64]; omega
  go_enter Try.func51, Try.ntmps51
  go_wp2
  go_loopw [5] (fun i wr => ∃ k : Nat, k ≤ len ∧ i = .int .i64 k ∧ FAt w m P wr ∧ Hid (∀ j, j < k → 0 ≤ zs[j]?.getD 0 ∧ zs[j]?.getD 0 < n)) (fun i _ => len - (intOf i).toNat)
  case atStart => exact ⟨0, Nat.zero_le _, rfl, FAt.start w m P 36, Lib.hid (fun j hj => by omega)⟩
  case round =>
    obtain ⟨k, hk, rfl, hA0, HI⟩ := hrel
    have hA := hA0.drew
    by_cases hlt : k < len
    · have hck := (HM.out.below hA0.b).cell k hlt
      obtain ⟨z, hz⟩ : ∃ z, zs[k]?.getD 0 = z := ⟨_, rfl⟩
      rw [hz] at hck
      have HZ := Lib.hid hz
      clear hz
      have hck' : wr.drew.cell? ⟨b, k, none⟩ = some (.int .i64 z) := hck
      by_cases hin : 0 ≤ z ∧ z < n
      · obtain ⟨hi0, hi1⟩ := hin
        go_wp2
        go_region_held3 (fun w' => w'.cell? ⟨w.heap.size, 0, none⟩ = some (.int .i64 m) ∧ w'.cell? ⟨w.heap.size, 1, none⟩ = some (.int .i64 P) ∧ w'.cell? ⟨b, k, none⟩ = some (.int .i64 z) ∧ FAt w m P w') (first | exact ⟨hA.c0, hA.c1, hck', hA⟩ | exact ⟨by assumption, by assumption, by assumption, by assumption⟩) (first | (go_at_call 61; refine (l01Size_any _ _ _ hF _).mono ?_; rintro e w1 ⟨rfl, hb1⟩; have k1 : FAt w m P w1 := FAt.next (by assumption) hb1; have q0 := k1.c0; have q1 := k1.c1; have q2 := (HM.out.below k1.b).cell k hlt; rw [HZ.out] at q2; clear hb1) | (go_at_call 34; refine (l00In_yes _ _ _ (by omega) (by omega) _).mono ?_; rintro e w' ⟨rfl, rfl⟩))
        all_goals go_wp2
        all_goals go_roundw
        case rel => exact ⟨k + 1, by omega, by go_num, by assumption, Lib.hid (fun j hj => by
          by_cases e : j = k
          · subst e; rw [HZ.out]; exact ⟨hi0, hi1⟩
          · exact HI.out j (by omega))⟩
        case measure => simp [intOf]; omega
      · have hno : z < 0 ∨ (n : Int) ≤ z := by omega
        have HN := Lib.hid hno
        clear hno hin
        go_wp2
        go_region_held3 (fun w' => w'.cell? ⟨w.heap.size, 0, none⟩ = some (.int .i64 m) ∧ w'.cell? ⟨w.heap.size, 1, none⟩ = some (.int .i64 P) ∧ w'.cell? ⟨b, k, none⟩ = some (.int .i64 z) ∧ FAt w m P w') (first | exact ⟨hA.c0, hA.c1, hck', hA⟩ | exact ⟨by assumption, by assumption, by assumption, by assumption⟩) (first | (go_at_call 61; refine (l01Size_any _ _ _ hF _).mono ?_; rintro e w1 ⟨rfl, hb1⟩; have k1 : FAt w m P w1 := FAt.next (by assumption) hb1; have q0 := k1.c0; have q1 := k1.c1; have q2 := (HM.out.below k1.b).cell k hlt; rw [HZ.out] at q2; clear hb1) | (go_at_call 34; refine (l00In_no _ _ _ (by have := HN.out; omega) _).mono ?_; rintro e w' ⟨rfl, rfl⟩))
        all_goals go_wp2
        all_goals go_ret
        all_goals exact ⟨ret_bool (by rw [← HR.out]; exact (allIn_no k (by omega) (by rw [HZ.out]; exact HN.out)).symm), FAt.b (by assumption)⟩
    obtain rfl : k = len := by omega
    go_wp2
    go_ret
    exact ⟨ret_bool (by rw [← HR.out]; exact (allIn_yes (fun j hj => HI.out j (by omega))).symm), hA0.b⟩

set_option maxHeartbeats 800000 in
theorem word_no (c m P n : Nat) (hF : Fld m P n) (b len cap : Nat) (zs : List Int) (k : Int) (w : World) (hM : Mt w b len zs) (hD : w.cell? ⟨c, 0, none⟩ = some (.int .i64 m)) (h : (len : Int) ≠ k ∨ allIn n zs = false) :
    Calls Try.prog 46 #[.pointer (some ⟨c, 0, none⟩), .slice (some ⟨b, 0, none⟩) len cap, .int .i64 k] w fun e w' => e = .returned (.tuple #[.slice none 0 0, .bool false]) ∧ w = w' := by
  have hs := hM.small
  by_cases h12 : (len : Int) = k
  · have hin : allIn n zs = false := by rcases h with h | h; omega; exact h
    have H := Lib.hid (hasAll_any c m P n hF _ len cap zs (by omega) w hM.arg hD)
    have H2 : Hid (Calls Try.prog 53 #[.pointer (some ⟨c, 0, none⟩), .slice (some ⟨b, 0, none⟩) len cap] w fun e w' => e = .returned (.bool false) ∧ w = w') := by
      have := H.out
      rw [hin] at this
      exact this
    clear H h hin
    go_enter Try.func46, Try.ntmps46
    go_wp2_with (go_at_call 53; refine H2.out.mono ?_; rintro e w' ⟨rfl, rfl⟩)
    go_ret2
    exact ⟨rfl, rfl⟩
  · go_enter Try.func46, Try.ntmps46
    go_wp2
    go_ret2
    exact ⟨rfl, rfl⟩
set_option maxHeartbeats 800000 in
theorem word_yes (c m P n : Nat) (hF : Fld m P n) (b len cap : Nat) (zs : List Int) (w : World) (hM : Mt w b len zs) (hD : w.cell? ⟨c, 0, none⟩ = some (.int .i64 m)) (hin : allIn n zs = true) :
    Calls Try.prog 46 #[.pointer (some ⟨c, 0, none⟩), .slice (some ⟨b, 0, none⟩) len cap, .int .i64 len] w fun e w' => ∃ g, e = .returned (.tuple #[.slice (some ⟨g, 0, none⟩) len len, .bool true]) ∧ Below w.heap.size w w' ∧ Rl w' .u8 (some ⟨g, 0, none⟩) len (nats zs) := by
  have hs := hM.small
  have hn2 := hF.n2
  have h32 := hF.n32
  have H2 : Hid (Calls Try.prog 53 #[.pointer (some ⟨c, 0, none⟩), .slice (some ⟨b, 0, none⟩) len cap] w fun e w' => e = .returned (.bool true) ∧ w = w') := by
    have := hasAll_any c m P n hF _ len cap zs (by omega) w hM.arg hD
    rw [hin] at this
    exact this
  have HE := Lib.hid (elementsOf_any b len cap n zs (by omega) (by omega) w hM hin)
  clear hM hin
  go_enter Try.func46, Try.ntmps46
  go_wp2_with (first | (go_at_call 53; refine H2.out.mono ?_; rintro e w' ⟨rfl, rfl⟩) | (go_at_call 59; refine HE.out.mono ?_; rintro e w1 ⟨g, rfl, hb, hR⟩))
  go_ret2
  exact ⟨g, rfl, hb, hR⟩

/-- Whether a list is a word. -/
def okW (n : Nat) (zs : List Int) : Bool := decide (1 ≤ zs.length ∧ zs.length ≤ 5) && allIn n zs
theorem okW_in {n : Nat} {zs : List Int} (h : okW n zs = true) : allIn n zs = true := by simp [okW] at h; exact h.2
theorem okW_len {n : Nat} {zs : List Int} (h : okW n zs = true) : 1 ≤ zs.length ∧ zs.length ≤ 5 := by simp [okW] at h; exact h.1
theorem okW_no {n : Nat} {zs : List Int} (h : okW n zs = false) : (zs.length < 1 ∨ 5 < zs.length) ∨ allIn n zs = false := by
  simp [okW] at h
  by_cases h1 : 1 ≤ zs.length ∧ zs.length ≤ 5
  · exact .inr (h h1.1 h1.2)
  · omega

set_option maxHeartbeats 800000 in
theorem wordFor_A (d p : Int) (hf : fldI d p = false) (hl : -9223372036854775808 ≤ p) (hh : p ≤ 9223372036854775807) (v : Value) (w : World) :
    Calls Try.prog 30 #[.agg #[.int .i64 d, .int .i64 p], v] w fun e w' => e = .returned (.tuple #[.pointer none, .slice none 0 0, .int .i64 1]) ∧ Below w.heap.size w w' := by
  have HF := Lib.hid hf
  clear hf
  go_enter Try.func30, Try.ntmps30
  go_wp2_with (go_at_call 45; refine (calculatorFor_invalid _ _ HF.out hl hh _ _).mono ?_; rintro e w1 ⟨rfl, hb⟩)
  go_ret3
  exact ⟨rfl, ((Below.refl _ w).alloc (Nat.le_refl _) _).trans (hb.mono (by simp))⟩
set_option maxHeartbeats 1600000 in
theorem wordFor_B (m P n : Nat) (hF : Fld m P n) (b len cap : Nat) (zs : List Int) (w : World) (hM : Mt w b len zs) (hok : okW n zs = false) :
    Calls Try.prog 30 #[.agg #[.int .i64 m, .int .i64 P], .slice (some ⟨b, 0, none⟩) len cap] w fun e w' => e = .returned (.tuple #[.pointer none, .slice none 0 0, .int .i64 2]) ∧ Below w.heap.size w w' := by
  have HM := Lib.hid hM
  have hln := hM.len
  have hsm := hM.small
  have hok' := okW_no hok
  rw [hln] at hok'
  have HO := Lib.hid hok'
  clear hM hok hok' hln
  go_enter Try.func30, Try.ntmps30
  have hb0 := below_alloc1 w (.cells #[.int .i64 m, .int .i64 P] 36)
  have HB0 := Lib.hid hb0
  clear hb0
  go_wp2_with fail
  refine (calculatorFor_none m P n hF _).mono ?_
  rintro e w1 ⟨c, rfl, hb, hC, hc⟩
  have hD := hC.deg
  have HB1 := Lib.hid (HB0.out.trans (hb.mono (by simp)))
  have HM1 := Lib.hid (HM.out.below HB1.out)
  clear hb hc
  go_wp2_with fail
  cases hin : allIn n zs with
  | false =>
    refine (word_no c m P n hF b len cap zs _ _ HM1.out hD (.inr hin)).mono ?_
    rintro e w' ⟨rfl, rfl⟩
    go_wp2_with fail
    go_ret3
    exact ⟨rfl, HB1.out⟩
  | true =>
    have hno : decide (1 ≤ (len : Int) ∧ (len : Int) ≤ 5) = false := by
      have := HO.out
      rw [hin] at this
      simp only [reduceCtorEq, or_false] at this
      simp; omega
    have HNO := Lib.hid hno
    clear hno
    refine (word_yes c m P n hF b len cap zs _ HM1.out hD hin).mono ?_
    rintro e w2 ⟨g, rfl, hb, hR⟩
    have HB2 := Lib.hid (HB1.out.trans (hb.mono HB1.out.size))
    clear hb hR
    go_wp2_with fail
    refine (isLength_eq _ _ HNO.out _).mono ?_
    rintro e w' ⟨rfl, rfl⟩
    go_wp2_with fail
    go_ret3
    exact ⟨rfl, HB2.out⟩
set_option maxHeartbeats 1600000 in
theorem wordFor_C (m P n : Nat) (hF : Fld m P n) (b len cap : Nat) (zs : List Int) (w : World) (hM : Mt w b len zs) (hok : okW n zs = true) :
    Calls Try.prog 30 #[.agg #[.int .i64 m, .int .i64 P], .slice (some ⟨b, 0, none⟩) len cap] w fun e w' => ∃ c g, e = .returned (.tuple #[.pointer (some ⟨c, 0, none⟩), .slice (some ⟨g, 0, none⟩) len len, .int .i64 0]) ∧ Below w.heap.size w w' ∧ Calc c m P n w' ∧ Rl w' .u8 (some ⟨g, 0, none⟩) len (nats zs) := by
  have HM := Lib.hid hM
  have hln := hM.len
  have hsm := hM.small
  have hol := okW_len hok
  rw [hln] at hol
  have HIN := Lib.hid (okW_in hok)
  have HNO := Lib.hid (show decide (1 ≤ (len : Int) ∧ (len : Int) ≤ 5) = true by simp; omega)
  clear hM hok hln
  go_enter Try.func30, Try.ntmps30
  have hb0 := below_alloc1 w (.cells #[.int .i64 m, .int .i64 P] 36)
  have HB0 := Lib.hid hb0
  clear hb0
  go_wp2_with fail
  refine (calculatorFor_none m P n hF _).mono ?_
  rintro e w1 ⟨c, rfl, hb, hC, hc⟩
  have hD := hC.deg
  have hcl := hC.lt
  have HB1 := Lib.hid (HB0.out.trans (hb.mono (by simp)))
  have HM1 := Lib.hid (HM.out.below HB1.out)
  have HC := Lib.hid hC
  clear hb hc hC
  go_wp2_with fail
  refine (word_yes c m P n hF b len cap zs _ HM1.out hD HIN.out).mono ?_
  rintro e w2 ⟨g, rfl, hb, hR⟩
  have HC2 := Lib.hid (HC.out.below hcl hb)
  have HB2 := Lib.hid (HB1.out.trans (hb.mono HB1.out.size))
  have HR := Lib.hid hR
  clear hb hR
  go_wp2_with fail
  refine (isLength_eq _ _ HNO.out _).mono ?_
  rintro e w' ⟨rfl, rfl⟩
  go_wp2_with fail
  go_ret3
  exact ⟨c, g, rfl, HB2.out, HC2.out, HR.out⟩

set_option maxHeartbeats 1600000 in
theorem l04Word_any (m P n : Nat) (hF : Fld m P n) (b len cap : Nat) (zs : List Int) (w : World) (hM : Mt w b len zs) :
    Calls Try.prog 44 #[.agg #[.int .i64 m, .int .i64 P], .slice (some ⟨b, 0, none⟩) len cap] w fun e w' => e = .returned (.bool (okW n zs)) ∧ Below w.heap.size w w' := by
  have hln := hM.len
  have hsm := hM.small
  by_cases h : 1 ≤ len ∧ len ≤ 5
  · have e : okW n zs = allIn n zs := by simp [okW, hln, h]
    rw [e]
    obtain ⟨r, hr⟩ : ∃ r, allIn n zs = r := ⟨_, rfl⟩
    rw [hr]
    have HR := Lib.hid hr
    have HM := Lib.hid hM
    clear hr hM e hln
    obtain ⟨h1, h2⟩ := h
    go_enter Try.func44, Try.ntmps44
    have h0 := FAt.start w m P 36
    go_wp2_with fail
    refine (l00In_yes _ _ _ (by omega) (by omega) _).mono ?_
    rintro e w' ⟨rfl, rfl⟩
    go_wp2_with fail
    have S := l04Elements_any m P n hF b len cap zs _ (HM.out.below h0.b)
    rw [HR.out] at S
    refine S.mono ?_
    clear S
    rintro e w1 ⟨rfl, hb⟩
    have h1 := h0.next hb
    clear hb
    go_wp2_with fail
    go_ret
    exact ⟨rfl, h1.b⟩
  · have e : okW n zs = false := by simp [okW, hln]; omega
    rw [e]
    have h3 : (len : Int) < 1 ∨ 5 < (len : Int) := by omega
    clear hM e h
    go_enter Try.func44, Try.ntmps44
    have h0 := FAt.start w m P 36
    go_wp2_with fail
    refine (l00In_no _ _ _ h3 _).mono ?_
    rintro e w' ⟨rfl, rfl⟩
    go_wp2_with fail
    go_ret
    exact ⟨rfl, h0.b⟩
theorem l04Word_eq (m P n : Nat) (hF : Fld m P n) (b len cap : Nat) (zs : List Int) (r : Bool) (hr : okW n zs = r) (w : World) (hM : Mt w b len zs) :
    Calls Try.prog 44 #[.agg #[.int .i64 m, .int .i64 P], .slice (some ⟨b, 0, none⟩) len cap] w fun e w' => e = .returned (.bool r) ∧ Below w.heap.size w w' := by rw [← hr]; exact l04Word_any m P n hF b len cap zs w hM

/-- The code for a word. -/
def cW (b : Bool) : Int := if b then 0 else 2
set_option maxHeartbeats 1600000 in
theorem l04Given_A (d p : Int) (hf : fldI d p = false) (v : Value) (w : World) :
    Calls Try.prog 28 #[.agg #[.int .i64 d, .int .i64 p], v] w fun e w' => e = .returned (.int .i64 1) ∧ Below w.heap.size w w' := by
  have HF := Lib.hid hf
  clear hf
  go_enter Try.func28, Try.ntmps28
  go_wp2_with fail
  refine (l01Ok_eq _ _ _ HF.out _).mono ?_
  rintro e w1 ⟨rfl, hb⟩
  go_wp2
  go_ret
  exact ⟨rfl, ((Below.refl _ w).alloc (Nat.le_refl _) _).trans (hb.mono (by simp))⟩
set_option maxHeartbeats 1600000 in
theorem l04Given_any (m P n : Nat) (hF : Fld m P n) (b len cap : Nat) (zs : List Int) (r : Bool) (hr : okW n zs = r) (w : World) (hM : Mt w b len zs) :
    Calls Try.prog 28 #[.agg #[.int .i64 m, .int .i64 P], .slice (some ⟨b, 0, none⟩) len cap] w fun e w' => e = .returned (.int .i64 (cW r)) ∧ Below w.heap.size w w' := by
  have HR := Lib.hid hr
  have HM := Lib.hid hM
  have HF := Lib.hid (fldI_of hF.f)
  clear hr hM
  go_enter Try.func28, Try.ntmps28
  have h0 := FAt.start w m P 36
  go_wp2_with fail
  refine (l01Ok_eq _ _ _ HF.out _).mono ?_
  rintro e w1 ⟨rfl, hb⟩
  have h1 := h0.next hb
  have c1 := h1.c0; have d1 := h1.c1
  clear hb h0
  go_wp2_with fail
  refine (l04Word_eq m P n hF b len cap zs r HR.out _ (HM.out.below h1.b)).mono ?_
  rintro e w2 ⟨rfl, hb⟩
  have h2 := h1.next hb
  clear hb h1 c1 d1
  cases r with
  | false =>
    go_wp2_with fail
    go_ret
    exact ⟨rfl, h2.b⟩
  | true =>
    go_wp2_with fail
    go_ret
    exact ⟨rfl, h2.b⟩
end Go.Proofs.Ytfhalaohegdbhaa
