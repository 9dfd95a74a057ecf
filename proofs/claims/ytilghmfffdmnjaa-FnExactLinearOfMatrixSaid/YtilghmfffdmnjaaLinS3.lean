/- The model's trimming of a list. · The model's checks of elements and of linear polynomials. · The model's right linear polynomials and their values. · The model's sums and compositions of linear polynomials. -/
import Derived.Test.YtilghmfffdmnjaaSv
import Derived.Test.YtilghmfffdmnjaaWr
import Derived.Test.YtilghmfffdmnjaaInv
import Derived.Test.YtilghmfffdmnjaaIn
import Derived.Test.YtilghmfffdmnjaaDivPure
import Derived.Test.YtilghmfffdmnjaaSquare
namespace Go.Proofs.Ytilghmfffdmnjaa
open Go.RowKit Go.Joins
set_option linter.unusedVariables false

set_option maxHeartbeats 1600000 in
theorem l03Trim_any (A : Option Addr) (n cap : Nat) (p : List Nat) (hn : n ≤ 1048576) (w : World) (hS : Sv w A n cap p) :
    Calls Try.prog 108 #[.slice A n cap] w fun e w' => ∃ A' k cap', e = .returned (.slice A' k cap') ∧ Below w.heap.size w w' ∧ OL w' w.heap.size A' k cap' (trim p) := by
  have hc := hS.room
  have hl := hS.len
  have HS := Lib.hid hS
  clear hS
  go_enter Try.func108, Try.ntmps108
  go_wp2
  go_loop [3] (fun s => ∃ k : Nat, k ≤ n ∧ s = .int .i64 k ∧ Hid (tl (nth p) k = tl (nth p) n)) (fun s => (intOf s).toNat)
  case atStart => exact ⟨n, Nat.le_refl _, rfl, Lib.hid rfl⟩
  case round =>
    obtain ⟨k, hk, rfl, HT⟩ := hrel
    have fin : ∀ k, k ≤ n → tl (nth p) k = k → tl (nth p) k = tl (nth p) n → Calls Try.prog 65 #[.slice A k cap] w fun e w' => ∃ A' cap', e = .returned (.slice A' k cap') ∧ Below w.heap.size w w' ∧ OL w' w.heap.size A' k cap' (trim p) := by
      intro k hk h1 h2
      have := l00OwnL_any A k cap _ (by omega) w (HS.out.take hk)
      rw [show lst (nth p) k = trim p by rw [trim, hl, ← h2, h1]] at this
      exact this
    have FIN := Lib.hid fin
    clear fin
    cases k with
    | zero =>
      go_wp2_with (go_at_call 65; refine (FIN.out 0 (by omega) rfl HT.out).mono ?_; rintro e w1 ⟨A', cap', rfl, hb, hO⟩)
      go_ret
      exact ⟨_, _, _, rfl, hb, hO⟩
    | succ k =>
      obtain ⟨g, rfl, hg, hcs⟩ := HS.out.row (by omega)
      have hck := hcs k (by omega)
      clear hcs
      obtain ⟨x, hx⟩ : ∃ x, nth p k = x := ⟨_, rfl⟩
      rw [hx] at hck
      have HX := Lib.hid hx
      clear hx
      by_cases h0 : x = 0
      · subst h0
        go_wp2
        go_round
        case rel => exact ⟨k, by omega, by first | rfl | simp, Lib.hid (by rw [← HT.out]; simp only [tl]; rw [if_pos HX.out])⟩
        case measure => simp [intOf]
      · have H1 := Lib.hid (show tl (nth p) (k + 1) = k + 1 by simp only [tl]; rw [if_neg (by rw [HX.out]; exact h0)])
        go_wp2_with (go_at_call 65; refine (FIN.out (k + 1) (by omega) H1.out HT.out).mono ?_; rintro e w1 ⟨A', cap', rfl, hb, hO⟩)
        go_ret
        exact ⟨_, _, _, rfl, hb, hO⟩
end Go.Proofs.Ytilghmfffdmnjaa
namespace Go.Proofs.Ytilghmfffdmnjaa
open Go.RowKit Go.Joins
set_option linter.unusedVariables false

set_option maxHeartbeats 1600000 in
theorem l03Elements_any (m P n : Nat) (hF : Fld m P n) (b len cap : Nat) (zs : List Int) (w : World) (hM : Mt w b len zs) :
    Calls Try.prog 106 #[.agg #[.int .i64 m, .int .i64 P], .slice (some ⟨b, 0, none⟩) len cap] w fun e w' => e = .returned (.bool (allIn n zs)) ∧ Below w.heap.size w w' := by
  obtain ⟨r, hr⟩ : ∃ r, allIn n zs = r := ⟨_, rfl⟩
  rw [hr]
  have HR := Lib.hid hr
  clear hr
  have hl := hM.len
  have hs := hM.small
  have h32 := hF.n32
  have hbl := hM.lt
  have HM := Lib.hid hM
  clear hM
  have ew : IntKind.i64.wrap ((n : Int) - 1) = (n : Int) - 1 := by rw [IntKind.wrap_i64]; omega
  go_enter Try.func106, Try.ntmps106
  go_wp2
  go_loopw [5] (fun i wr => ∃ k : Nat, k ≤ len ∧ i = .int .i64 k ∧ FAt w m P wr ∧ Hid (∀ j, j < k → 0 ≤ zs[j]?.getD 0 ∧ zs[j]?.getD 0 < n)) (fun i _ => len - (intOf i).toNat)
  case atStart => exact ⟨0, Nat.zero_le _, rfl, FAt.start w m P 23, Lib.hid (fun j hj => by omega)⟩
  case round =>
    obtain ⟨k, hk, rfl, hA0, HI⟩ := hrel
    have hA := hA0.drew
    by_cases hlt : k < len
    · have hck := (HM.out.below hA0.b).cell k hlt
      obtain ⟨z, hz⟩ : ∃ z, zs[k]?.getD 0 = z := ⟨_, rfl⟩
      rw [hz] at hck
      have HZ := Lib.hid hz
      clear hz
      have hck' : wr.drew.cell? ⟨b, k, none⟩ = some (.int .i64 z) := hck
      by_cases hin : 0 ≤ z ∧ z < n
      · obtain ⟨hi0, hi1⟩ := hin
        go_wp2
        go_region_held3 (fun w' => w'.cell? ⟨w.heap.size, 0, none⟩ = some (.int .i64 m) ∧ w'.cell? ⟨w.heap.size, 1, none⟩ = some (.int .i64 P) ∧ w'.cell? ⟨b, k, none⟩ = some (.int .i64 z) ∧ FAt w m P w') (first | exact ⟨hA.c0, hA.c1, hck', hA⟩ | exact ⟨by assumption, by assumption, by assumption, by assumption⟩) (first | (go_at_call 58; refine (l01Size_any _ _ _ hF _).mono ?_; rintro e w1 ⟨rfl, hb1⟩; have k1 : FAt w m P w1 := FAt.next (by assumption) hb1; have q0 := k1.c0; have q1 := k1.c1; have q2 := (HM.out.below k1.b).cell k hlt; rw [HZ.out] at q2; clear hb1) | (go_at_call 44; refine (l00In_yes _ _ _ (by omega) (by omega) _).mono ?_; rintro e w' ⟨rfl, rfl⟩))
        all_goals go_wp2
        all_goals go_roundw
        case rel => exact ⟨k + 1, by omega, by go_num, by assumption, Lib.hid (fun j hj => by
          by_cases e : j = k
          · subst e; rw [HZ.out]; exact ⟨hi0, hi1⟩
          · exact HI.out j (by omega))⟩
        case measure => simp [intOf]; omega
      · have hno : z < 0 ∨ (n : Int) ≤ z := by omega
        have HN := Lib.hid hno
        clear hno hin
        go_wp2
        go_region_held3 (fun w' => w'.cell? ⟨w.heap.size, 0, none⟩ = some (.int .i64 m) ∧ w'.cell? ⟨w.heap.size, 1, none⟩ = some (.int .i64 P) ∧ w'.cell? ⟨b, k, none⟩ = some (.int .i64 z) ∧ FAt w m P w') (first | exact ⟨hA.c0, hA.c1, hck', hA⟩ | exact ⟨by assumption, by assumption, by assumption, by assumption⟩) (first | (go_at_call 58; refine (l01Size_any _ _ _ hF _).mono ?_; rintro e w1 ⟨rfl, hb1⟩; have k1 : FAt w m P w1 := FAt.next (by assumption) hb1; have q0 := k1.c0; have q1 := k1.c1; have q2 := (HM.out.below k1.b).cell k hlt; rw [HZ.out] at q2; clear hb1) | (go_at_call 44; refine (l00In_no _ _ _ (by have := HN.out; omega) _).mono ?_; rintro e w' ⟨rfl, rfl⟩))
        all_goals go_wp2
        all_goals go_ret
        all_goals exact ⟨ret_bool (by rw [← HR.out]; exact (allIn_no k (by omega) (by rw [HZ.out]; exact HN.out)).symm), FAt.b (by assumption)⟩
    obtain rfl : k = len := by omega
    go_wp2
    go_ret
    exact ⟨ret_bool (by rw [← HR.out]; exact (allIn_yes (fun j hj => HI.out j (by omega))).symm), hA0.b⟩
end Go.Proofs.Ytilghmfffdmnjaa
namespace Go.Proofs.Ytilghmfffdmnjaa
open Go.RowKit Go.Joins
set_option linter.unusedVariables false

set_option maxHeartbeats 1600000 in
theorem l03Ok_any (m P n : Nat) (hF : Fld m P n) (b len cap : Nat) (zs : List Int) (w : World) (hM : Mt w b len zs) :
    Calls Try.prog 69 #[.agg #[.int .i64 m, .int .i64 P], .slice (some ⟨b, 0, none⟩) len cap] w fun e w' => e = .returned (.bool (okL n zs)) ∧ Below w.heap.size w w' := by
  have hl := hM.len
  have hs := hM.small
  have hb0 := below_alloc1 w (.cells #[.int .i64 m, .int .i64 P] 23)
  by_cases h12 : len ≤ 12
  rotate_left
  · have e : okL n zs = false := by simp [okL]; omega
    rw [e]
    go_enter Try.func69, Try.ntmps69
    go_wp2
    go_ret
    exact ⟨rfl, hb0⟩
  have h3 := l03Elements_any m P n hF b len cap zs _ (hM.below hb0)
  cases hin : allIn n zs with
  | false =>
    have e : okL n zs = false := by simp [okL, hin]
    rw [e]
    rw [hin] at h3
    have H3 := Lib.hid h3
    clear h3 hM e hin
    go_enter Try.func69, Try.ntmps69
    go_wp2_with (go_at_call 106; refine H3.out.mono ?_; rintro e w1 ⟨rfl, hb⟩)
    go_ret
    exact ⟨rfl, hb0.trans (hb.mono hb0.size)⟩
  | true =>
    rw [hin] at h3
    have hn2 := hF.n2
    by_cases h0 : len = 0
    · subst h0
      have e : okL n zs = true := by
        have hz : zs = [] := List.eq_nil_of_length_eq_zero hl
        subst hz
        rfl
      rw [e]
      have H3 := Lib.hid h3
      clear h3 hM e hin
      go_enter Try.func69, Try.ntmps69
      go_wp2_with (go_at_call 106; refine H3.out.mono ?_; rintro e w1 ⟨rfl, hb⟩)
      go_ret
      exact ⟨rfl, hb0.trans (hb.mono hb0.size)⟩
    · obtain ⟨k, rfl⟩ : ∃ k, len = k + 1 := ⟨len - 1, by omega⟩
      obtain ⟨x, hx⟩ : ∃ x, nth (nats zs) k = x := ⟨_, rfl⟩
      have hR := hM.rl hin
      have hcell : w.cell? ⟨b, k, none⟩ = some (.int .i64 (x : Nat)) := by
        obtain ⟨g, hg1, hg, hc⟩ := hR.row (by omega)
        injection hg1 with hg1
        injection hg1 with hg1
        subst hg1
        rw [← hx]; exact hc k (by omega)
      have e : okL n zs = decide (x ≠ 0) := by
        have h1 : decide (zs.length ≤ 12) = true := by simp; omega
        rw [okL, h1, hin]
        simp only [Bool.true_and, trmB, hR.len, Nat.add_sub_cancel, hx]
        simp
      have hbl := hM.lt
      have g1 : ((k : Int) + 1 == 0) = false := by simp; omega
      rw [e]
      have H3 := Lib.hid h3
      have HX := Lib.hid hx
      clear h3 hM e hin hR hx
      by_cases hx0 : x = 0
      · subst hx0
        go_enter Try.func69, Try.ntmps69
        go_wp2_with (go_at_call 106; refine H3.out.mono ?_; rintro e w1 ⟨rfl, hb⟩; have hB := hb0.trans (hb.mono hb0.size); have hc1 := (hB.cell (p := ⟨b, k, none⟩) hbl).trans hcell; clear hb)
        go_ret
        exact ⟨rfl, hB⟩
      · go_enter Try.func69, Try.ntmps69
        go_wp2_with (go_at_call 106; refine H3.out.mono ?_; rintro e w1 ⟨rfl, hb⟩; have hB := hb0.trans (hb.mono hb0.size); have hc1 := (hB.cell (p := ⟨b, k, none⟩) hbl).trans hcell; clear hb)
        go_ret
        exact ⟨ret_bool (by simp [hx0]), hB⟩

theorem l03Ok_eq (m P n : Nat) (hF : Fld m P n) (b len cap : Nat) (zs : List Int) (w : World) (hM : Mt w b len zs) (r : Bool) (hr : okL n zs = r) :
    Calls Try.prog 69 #[.agg #[.int .i64 m, .int .i64 P], .slice (some ⟨b, 0, none⟩) len cap] w fun e w' => e = .returned (.bool r) ∧ Below w.heap.size w w' := by
  rw [← hr]; exact l03Ok_any m P n hF b len cap zs w hM
/-- Whether a field and numbers are right. -/
def okFL (d p : Int) (zs : List Int) : Bool := fldI d p && okL (2 ^ d.toNat) zs
theorem okFL_no {d p : Int} {zs : List Int} (h : fldI d p = false) : okFL d p zs = false := by simp [okFL, h]
theorem okFL_yes {m P n : Nat} (hF : Fld m P n) (zs : List Int) : okFL m P zs = okL n zs := by
  rw [okFL, fldI_of hF.f, Bool.true_and, Int.toNat_natCast, hF.n]

set_option maxHeartbeats 800000 in
theorem specValidLinear_A (d p : Int) (hf : fldI d p = false) (v : Value) (w : World) :
    Calls Try.prog 30 #[.agg #[.int .i64 d, .int .i64 p], v] w fun e w' => e = .returned (.bool false) ∧ Below w.heap.size w w' := by
  have HF := Lib.hid hf
  clear hf
  go_enter Try.func30, Try.ntmps30
  go_wp2_with (go_at_call 47; refine (l01Ok_eq _ _ _ HF.out _).mono ?_; rintro e w1 ⟨rfl, hb⟩)
  go_ret
  exact ⟨rfl, ((Below.refl _ w).alloc (Nat.le_refl _) _).trans (hb.mono (by simp))⟩
set_option maxHeartbeats 800000 in
theorem specValidLinear_C (m P n : Nat) (hF : Fld m P n) (b len cap : Nat) (zs : List Int) (w : World) (hM : Mt w b len zs) (r : Bool) (hr : okL n zs = r) :
    Calls Try.prog 30 #[.agg #[.int .i64 m, .int .i64 P], .slice (some ⟨b, 0, none⟩) len cap] w fun e w' => e = .returned (.bool r) ∧ Below w.heap.size w w' := by
  have HF := Lib.hid (fldI_of hF.f)
  have HR := Lib.hid hr
  have HM := Lib.hid hM
  clear hr hM
  go_enter Try.func30, Try.ntmps30
  have h0 := FAt.start w m P 23
  go_wp2_with fail
  refine (l01Ok_eq _ _ _ HF.out _).mono ?_
  rintro e w1 ⟨rfl, hb1⟩
  have h1 := h0.next hb1
  have c1 := h1.c0; have d1 := h1.c1
  clear hb1 h0
  go_wp2_with fail
  refine (l03Ok_eq m P n hF b len cap zs _ (HM.out.below h1.b) r HR.out).mono ?_
  rintro e w2 ⟨rfl, hb2⟩
  have h2 := h1.next hb2
  clear hb2
  go_wp2_with fail
  go_ret
  exact ⟨ret_bool (by first | rfl | simp), h2.b⟩

set_option maxHeartbeats 3200000 in
theorem l03Value_any (m P n : Nat) (hF : Fld m P n) (A : Option Addr) (k cap : Nat) (p : List Nat) (hp : ∀ j, nth p j < n) (x : Nat) (hx : x < n) (hk : k ≤ 1000) (w : World) (hR : Rl w .i64 A k p) :
    Calls Try.prog 110 #[.agg #[.int .i64 m, .int .i64 P], .slice A k cap, .int .i64 x] w fun e w' => e = .returned (.int .i64 (vl P p x)) ∧ Below w.heap.size w w' := by
  have h32 := hF.n32
  have HP := Lib.hid hp
  have HR := Lib.hid hR
  clear hp hR
  obtain ⟨r, hr⟩ : ∃ r, vl P p x = r := ⟨_, rfl⟩
  rw [hr]
  have HV := Lib.hid hr
  clear hr
  go_enter Try.func110, Try.ntmps110
  go_wp2
  go_loopw [7, 8] (fun s i wr => ∃ j b : Nat, j ≤ k ∧ i = .int .i64 j ∧ s = .int .i64 b ∧ b < n ∧ Hid (b = vlk P p x j) ∧ FAt w m P wr) (fun _ i _ => k - (intOf i).toNat)
  case atStart => exact ⟨0, 0, Nat.zero_le _, rfl, rfl, by omega, Lib.hid rfl, FAt.start w m P 23⟩
  case round =>
    obtain ⟨j, b, hj, rfl, rfl, hb, HS, hA0⟩ := hrel
    have hA := hA0.drew
    by_cases hlt : j < k
    · obtain ⟨g, rfl, hg, hc⟩ := HR.out.row (by omega)
      have hck0 := hc j hlt
      clear hc
      have hq := HP.out j
      obtain ⟨q, hqe⟩ : ∃ q, nth p j = q := ⟨_, rfl⟩
      rw [hqe] at hck0 hq
      have HQ := Lib.hid hqe
      clear hqe
      have HK0 := Lib.hid hck0
      clear hck0
      have hck : wr.drew.cell? ⟨g, j, none⟩ = some (.int .i64 q) := (hA.b.cell (p := ⟨g, j, none⟩) hg).trans HK0.out
      have hs := sq_lt hF hx j
      obtain ⟨s, hse⟩ : ∃ s, sq P x j = s := ⟨_, rfl⟩
      have hm := hF.mul_lt q s
      have HSQ := Lib.hid (fun W => l01Square_any m P n hF x hx j (by omega) W)
      rw [hse] at hs HSQ
      have HSE := Lib.hid hse
      clear hse
      have HXR := Lib.hid (i64_xor_nat b (mul P q s) (by omega) (by omega))
      go_wp2
      go_region_held3 (fun w' => w'.cell? ⟨w.heap.size, 0, none⟩ = some (.int .i64 m) ∧ w'.cell? ⟨w.heap.size, 1, none⟩ = some (.int .i64 P) ∧ w'.cell? ⟨g, j, none⟩ = some (.int .i64 q) ∧ FAt w m P w') (first | exact ⟨hA.c0, hA.c1, hck, hA⟩ | exact ⟨by assumption, by assumption, by assumption, by assumption⟩) (first | (go_at_call 122; refine (HSQ.out _).mono ?_; rintro e w1 ⟨rfl, hb1⟩; have k1 : FAt w m P w1 := FAt.next (by assumption) hb1; have q0 := k1.c0; have q1 := k1.c1; have q2 := (k1.b.cell (p := ⟨g, j, none⟩) hg).trans HK0.out; clear hb1) | (go_at_call 86; refine (l01Mul_any _ _ _ hF _ _ hq hs _).mono ?_; rintro e w2 ⟨rfl, hb2⟩; have k2 : FAt w m P w2 := FAt.next (by assumption) hb2; have q3 := k2.c0; have q4 := k2.c1; have q5 := (k2.b.cell (p := ⟨g, j, none⟩) hg).trans HK0.out; clear hb2))
      all_goals go_wp2
      all_goals go_roundw
      case rel => exact ⟨j + 1, b ^^^ mul P q s, by omega, by go_num, by first | rfl | rw [HXR.out], hF.xor_lt hb hm, Lib.hid (by rw [HS.out, ← HQ.out, ← HSE.out]; rfl), by assumption⟩
      case measure => simp [intOf]; omega
    · obtain rfl : j = k := by omega
      go_wp2
      go_ret
      exact ⟨ret_int (by rw [← HV.out, HS.out, vl, HR.out.len]), hA0.b⟩
end Go.Proofs.Ytilghmfffdmnjaa
namespace Go.Proofs.Ytilghmfffdmnjaa
open Go.RowKit Go.Joins
set_option linter.unusedVariables false

theorem nth_snoc0 (A : List Nat) (j : Nat) : nth (A ++ [0]) j = nth A j := by
  by_cases h : j < A.length
  · rw [nth, nth, List.getD_eq_getElem?_getD, List.getD_eq_getElem?_getD, List.getElem?_append_left h]
  · rw [nth_ge (p := A) (by omega)]
    by_cases e : j = A.length
    · subst e; rw [nth, List.getD_eq_getElem?_getD, List.getElem?_append_right (Nat.le_refl _)]; simp
    · rw [nth_ge (by simp; omega)]
theorem trim_congr {p q : List Nat} (h : ∀ j, nth p j = nth q j) : trim p = trim q :=
  trm_ext (trim_trm _) (trim_trm _) fun j => by rw [trim_nth, trim_nth, h]

set_option maxRecDepth 100000 in
set_option maxHeartbeats 3200000 in
theorem l03Sum_any (A B : Option Addr) (k l ca cb : Nat) (p q : List Nat) (hp : ∀ j, nth p j < 1024) (hq : ∀ j, nth q j < 1024) (hk : k ≤ 500000) (hl : l ≤ 500000) (w : World) (hS : Sv w A k ca p) (hT : Sv w B l cb q) :
    Calls Try.prog 112 #[.slice A k ca, .slice B l cb] w fun e w' => ∃ D r cd, e = .returned (.slice D r cd) ∧ Below w.heap.size w w' ∧ OL w' w.heap.size D r cd (sumL p q) := by
  obtain ⟨i0, hi, hz0, hz1, hz2⟩ := info_parts Try.infoI
  have hkp := hS.len
  have hlq := hT.len
  have HP := Lib.hid hp
  have HQ := Lib.hid hq
  have HS := Lib.hid hS
  have HT := Lib.hid hT
  clear hp hq hS hT
  go_enter Try.func112, Try.ntmps112
  go_wp2_with (go_at_call 65; refine (l00OwnL_any A k ca p (by omega) _ HS.out).mono ?_; rintro e w1 ⟨A1, c1, rfl, hb1, hO1⟩)
  have HB1 := Lib.hid hb1
  have HO1 := Lib.hid hO1
  clear hb1 hO1
  go_loopw [5] (fun v wr => ∃ (D : Option Addr) (r cd : Nat) (X : List Nat), v = .slice D r cd ∧ k ≤ r ∧ r ≤ max k l ∧ Below w.heap.size w wr ∧ OL wr w.heap.size D r cd X ∧ Hid (∀ j, nth X j = nth p j)) (fun v _ => l - (match v with | .slice _ n _ => n | _ => 0))
  case atStart => exact ⟨_, _, _, p, rfl, Nat.le_refl _, by omega, HB1.out, HO1.out, Lib.hid (fun j => rfl)⟩
  case round =>
    obtain ⟨D, r, cd, X, rfl, hkr, hrm, hb, hO, HX⟩ := hrel
    have HO := Lib.hid hO
    have HB := Lib.hid hb
    have hrX := hO.len
    clear hO hb HO1 HB1
    by_cases hlt : r < l
    · go_wp2_with (at_builtin; refine wpList_append_own _ rfl _ _ 46 rfl w.heap.size 2 i0 (.int .i64 0) 1 8 Try.underlying46 hi hz0 hz1 hz2 rfl (by decide) _ r ((ints X).map (Value.int .i64)) rfl (HO.out.own.alloc _) ⟨wr.heap.size, 0, none⟩ 1 1 [.int .i64 0] rfl rfl (one_new _ _ _) (one_one _ _) (by unfold maxLen; omega) (by omega) (by have := HB.out.size; simp; omega) ?_; intro v' w3 hown' hgrow _; have hb3 : Below w.heap.size wr w3 := ((Below.refl _ wr).alloc HB.out.size _).grown hgrow (by have := HB.out.size; simp; omega) (fun g hg => (HO.out.own.lt g hg).1); have HB3 := Lib.hid (HB.out.trans hb3); obtain ⟨D3, c3, hv, hol⟩ := OL.of (n := r + 1) (p := X ++ [0]) (by rw [ints_append, List.map_append]; exact hown'); have HO3 := Lib.hid hol; subst hv; clear hown' hgrow hb3 hol)
      go_roundw
      case rel => exact ⟨_, _, _, X ++ [0], rfl, by omega, by omega, HB3.out, HO3.out, Lib.hid (fun j => by rw [nth_snoc0, HX.out])⟩
      case measure => simp; omega
    · have hrl : l ≤ r := by omega
      have hre : r = max k l := by omega
      clear hlt
      go_wp2
      go_loopw [6] (fun i wr => ∃ (j : Nat) (X : List Nat), j ≤ l ∧ i = .int .i64 j ∧ Below w.heap.size w wr ∧ OL wr w.heap.size D r cd X ∧ Hid (∀ i, nth X i = if i < j then nth p i ^^^ nth q i else nth p i)) (fun i _ => l - (intOf i).toNat)
      case atStart => exact ⟨0, X, Nat.zero_le _, rfl, HB.out, HO.out, Lib.hid (fun i => by rw [if_neg (by omega), HX.out])⟩
      case round =>
        obtain ⟨j, Y, hj, rfl, hb, hO, HY⟩ := hrel
        clear HO HB HX
        by_cases hlt : j < l
        · obtain ⟨g, rfl, hgB, hg, hc, hf⟩ := hO.row (by omega)
          have hcy := hc j (by omega)
          have hfy := hf j
          clear hc hf
          rw [HY.out j, if_neg (by omega)] at hcy
          obtain ⟨g2, rfl, hg2, hc2⟩ := (HT.out.below hb).row (by omega)
          have hcq := hc2 j hlt
          clear hc2
          have hx := HP.out j
          have hy := HQ.out j
          obtain ⟨x, hxe⟩ : ∃ x, nth p j = x := ⟨_, rfl⟩
          obtain ⟨y, hye⟩ : ∃ y, nth q j = y := ⟨_, rfl⟩
          rw [hxe] at hcy hx
          rw [hye] at hcq hy
          have HXE := Lib.hid hxe
          have HYE := Lib.hid hye
          clear hxe hye
          have HXR := Lib.hid (i64_xor_nat x y (by omega) (by omega))
          have hcy' : wr.drew.cell? ⟨g, j, none⟩ = some (.int .i64 x) := hcy
          have hcq' : wr.drew.cell? ⟨g2, j, none⟩ = some (.int .i64 y) := hcq
          have hfy' : wr.drew.frozen? ⟨g, j, none⟩ = false := hfy
          have hjr : j < r := by omega
          have HNEW : Hid (OL (wr.setCell ⟨g, j, none⟩ (.int .i64 (bits .xor .i64 (x : Int) (y : Int)))).drew w.heap.size (some ⟨g, 0, none⟩) r cd (Y.set j (x ^^^ y))) := by
            rw [HXR.out]; exact (hO.set j hjr (x ^^^ y)).drewN 1
          have HBN : Hid (Below w.heap.size w (wr.setCell ⟨g, j, none⟩ (.int .i64 (bits .xor .i64 (x : Int) (y : Int)))).drew) := (below_set hb _ _ hgB _).drew
          have hYl := hO.len
          have HYN : Hid (∀ i, nth (Y.set j (x ^^^ y)) i = if i < j + 1 then nth p i ^^^ nth q i else nth p i) := fun i => by
            rw [nth_set _ _ _ _ (by omega)]
            by_cases e : i = j
            · subst e; rw [if_pos rfl, if_pos (by omega), HXE.out, HYE.out]
            · rw [if_neg e, HY.out i]
              by_cases h : i < j
              · rw [if_pos h, if_pos (by omega)]
              · rw [if_neg h, if_neg (by omega)]
          have HB := Lib.hid hb
          clear hO hb
          go_wp2
          go_region
          all_goals go_wp2
          all_goals go_roundw
          all_goals first | exact ⟨j + 1, _, by omega, by go_num, HBN.out, HNEW.out, HYN.out⟩ | (simp [intOf]; omega)
        · obtain rfl : j = l := by omega
          have HB := Lib.hid hb
          have hr20 : r ≤ 1048576 := by omega
          have HT3 := Lib.hid (l03Trim_any D r cd Y hr20 wr hO.sv)
          have HHR := Lib.hid (And.intro hre hrl)
          clear hO hb hre hrl hrm
          go_wp2_with (go_at_call 108; refine HT3.out.mono ?_; rintro e w2 ⟨A', k', cap', rfl, hb2, hO2⟩)
          go_ret
          have h1 : trim Y = sumL p q := by
            rw [sumL]
            refine trim_congr fun i => ?_
            rw [HY.out i]
            by_cases h : i < max p.length q.length
            · rw [lst_nth _ h, sumF]
              by_cases h2 : i < j
              · rw [if_pos h2]
              · rw [if_neg h2, nth_ge (p := q) (by omega), Nat.xor_zero]
            · rw [nth_ge (p := lst _ _) (by rw [lst_length]; omega), nth_ge (p := p) (by omega), nth_ge (p := q) (by omega)]; simp
          have hs := HB.out.size
          rw [h1] at hO2
          exact ⟨_, _, _, rfl, HB.out.trans (hb2.mono hs), hO2.less hs⟩
def fValidLinear (d p : Int) (zs : List Int) : Bool := okFL d p zs
theorem specValidLinear_any (d p : Int) (b len cap : Nat) (zs : List Int) (w : World) (hM : Mt w b len zs) :
    Calls Try.prog 30 #[.agg #[.int .i64 d, .int .i64 p], .slice (some ⟨b, 0, none⟩) len cap] w fun e w' => e = .returned (.bool (fValidLinear d p zs)) ∧ Below w.heap.size w w' := by
  unfold fValidLinear
  cases hf : fldI d p with
  | false => rw [okFL_no hf]; exact specValidLinear_A d p hf _ w
  | true =>
    obtain ⟨m, P, rfl, rfl, hF⟩ := fldI_nat hf
    have hF := Fld.of hF
    exact specValidLinear_C m P _ hF b len cap zs w hM _ (okFL_yes hF zs).symm
theorem specValidLinear_eq (d p : Int) (b len cap : Nat) (zs : List Int) (w : World) (hM : Mt w b len zs) (r : Bool) (hr : okFL d p zs = r) :
    Calls Try.prog 30 #[.agg #[.int .i64 d, .int .i64 p], .slice (some ⟨b, 0, none⟩) len cap] w fun e w' => e = .returned (.bool r) ∧ Below w.heap.size w w' := by
  rw [← hr]; exact specValidLinear_any d p b len cap zs w hM
end Go.Proofs.Ytilghmfffdmnjaa
