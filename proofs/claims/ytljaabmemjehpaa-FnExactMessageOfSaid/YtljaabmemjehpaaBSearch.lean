/- The first element of a word that is not 0: the program's. · Where a word belongs among words in echelon form: the program's search. -/
import Derived.Test.YtljaabmemjehpaaWr
import Derived.Test.YtljaabmemjehpaaFCol
namespace Go.Proofs.Ytljaabmemjehpaa
open Go.RowKit Go.Joins
set_option linter.unusedVariables false

set_option maxHeartbeats 400000 in
theorem isLead_any (x : Nat) (hx : x < 256) (w : World) :
    Calls Try.prog 120 #[.int .u8 x] w fun e w' => e = .returned (.bool (decide (x ≠ 0))) ∧ w = w' := by
  by_cases h : x = 0
  · subst h
    go_enter Try.func120, Try.ntmps120
    go_wp2
    go_ret
    exact ⟨ret_bool (by simp), rfl⟩
  · go_enter Try.func120, Try.ntmps120
    go_wp2
    go_ret
    exact ⟨ret_bool (by simp [h]), rfl⟩
/-- The place that the program tells. -/
def ldI (p : List Nat) (k : Nat) : Int := if ldv (nth p) k < k then ((ldv (nth p) k : Nat) : Int) else -1
theorem ldI_at {p : List Nat} {k j : Nat} (hj : j < k) (h : nth p j ≠ 0) (h0 : ∀ i, i < j → nth p i = 0) : ldI p k = (j : Int) := by
  have := ldv_eq (f := nth p) hj h h0
  rw [ldI, this, if_pos hj]
theorem ldI_none {p : List Nat} {k : Nat} (h0 : ∀ i, i < k → nth p i = 0) : ldI p k = -1 := by
  have := ldv_none (f := nth p) (len := k) h0
  rw [ldI, this, if_neg (by omega)]

set_option maxHeartbeats 1600000 in
theorem leadFunc_any (A : Option Addr) (k cap : Nat) (p : List Nat) (hk : k ≤ 1048576) (hp : ∀ j, nth p j < 256) (w : World) (hS : Rl w .u8 A k p) :
    Calls Try.prog 119 #[.slice A k cap, .func (.func 120) #[] #[]] w fun e w' => e = .returned (.int .i64 (ldI p k)) ∧ w = w' := by
  have HP := Lib.hid hp
  have HS := Lib.hid hS
  clear hp hS
  go_enter Try.func119, Try.ntmps119
  go_wp2_with fail
  go_loop [8] (fun i => ∃ j : Nat, j ≤ k ∧ i = .int .i64 j ∧ Hid (∀ x, x < j → nth p x = 0)) (fun i => k - (intOf i).toNat)
  case atStart => exact ⟨0, Nat.zero_le _, rfl, Lib.hid (fun x hx => by omega)⟩
  case round =>
    obtain ⟨j, hj, rfl, H0⟩ := hrel
    by_cases hlt : j < k
    · obtain ⟨g, rfl, hg, hc⟩ := HS.out.row (by omega)
      have hcj := hc j hlt
      have hx := HP.out j
      obtain ⟨x, hxe⟩ : ∃ x, nth p j = x := ⟨_, rfl⟩
      rw [hxe] at hcj hx
      have HX := Lib.hid hxe
      clear hc hxe hg
      by_cases h0 : x = 0
      · subst h0
        have HL := Lib.hid (isLead_any 0 hx)
        go_wp2_with (go_at_call 120; refine (HL.out _).mono ?_; rintro e w' ⟨rfl, rfl⟩)
        go_round
        case rel => exact ⟨j + 1, by omega, by go_num, Lib.hid (fun i hi => by
          by_cases e : i = j
          · subst e; exact HX.out
          · exact H0.out i (by omega))⟩
        case measure => simp [intOf]; omega
      · have HL := Lib.hid (isLead_any x hx)
        have hd : decide (x ≠ 0) = true := decide_eq_true h0
        rw [hd] at HL
        clear hd
        go_wp2_with (go_at_call 120; refine (HL.out _).mono ?_; rintro e w' ⟨rfl, rfl⟩)
        go_ret
        exact ⟨by rw [ldI_at hlt (by rw [HX.out]; exact h0) H0.out]; rfl, rfl⟩
    · obtain rfl : j = k := by omega
      go_wp2_with fail
      go_ret
      exact ⟨by rw [ldI_none H0.out]; rfl, rfl⟩
set_option maxHeartbeats 400000 in
theorem wlead_any (A : Option Addr) (k cap : Nat) (p : List Nat) (hk : k ≤ 1048576) (hp : ∀ j, nth p j < 256) (w : World) (hS : Rl w .u8 A k p) :
    Calls Try.prog 76 #[.slice A k cap] w fun e w' => e = .returned (.int .i64 (ldI p k)) ∧ w = w' := by
  have H := Lib.hid (leadFunc_any A k cap p hk hp w hS)
  generalize ldI p k = r at H ⊢
  clear hS hp
  go_enter Try.func76, Try.ntmps76
  go_wp2_with fail
  refine H.out.mono ?_
  rintro e w' ⟨rfl, rfl⟩
  go_wp2_with fail
  go_ret
  exact ⟨rfl, rfl⟩
end Go.Proofs.Ytljaabmemjehpaa
namespace Go.Proofs.Ytljaabmemjehpaa
open Go.RowKit Go.Joins
set_option linter.unusedVariables false

/-- A list of words that can be read. -/
structure RK (W : World) (v : Value) (len n : Nat) (hs : Nat → List Nat) : Prop where
  form : ∃ A cap, v = .slice A n cap ∧ (0 < n → ∃ g, A = some ⟨g, 0, none⟩ ∧ g < W.heap.size ∧ ∀ j, j < n → ∃ b c, W.cell? ⟨g, j, none⟩ = some (.slice (some ⟨b, 0, none⟩) len c) ∧ Rl W .u8 (some ⟨b, 0, none⟩) len (hs j))
theorem RK.at {W : World} {A : Option Addr} {n cap len : Nat} {hs : Nat → List Nat} (h : RK W (.slice A n cap) len n hs) {j : Nat} (hj : j < n) : ∃ g b c, A = some ⟨g, 0, none⟩ ∧ g < W.heap.size ∧ W.cell? ⟨g, j, none⟩ = some (.slice (some ⟨b, 0, none⟩) len c) ∧ Rl W .u8 (some ⟨b, 0, none⟩) len (hs j) := by
  obtain ⟨A', cap', e, hf⟩ := h.form
  injection e with e1 e2 e3
  subst e1
  obtain ⟨g, h1, h2, h3⟩ := hf (by omega)
  obtain ⟨b, c, h4, h5⟩ := h3 j hj
  exact ⟨g, b, c, h1, h2, h4, h5⟩

set_option maxHeartbeats 400000 in
theorem spanCmp_any (A : Option Addr) (k cap : Nat) (p : List Nat) (hk : k ≤ 1048576) (hp : ∀ j, nth p j < 256) (t : Nat) (ht : t ≤ 1048576) (r : Int) (hr : ldI p k = r) (hr0 : -1 ≤ r) (hr1 : r ≤ 1048576) (w : World) (hS : Rl w .u8 A k p) :
    Calls Try.prog 158 #[.slice A k cap, .int .i64 (t : Int)] w fun e w' => e = .returned (.int .i64 (r - t)) ∧ w = w' := by
  have H := wlead_any A k cap p hk hp w hS
  rw [hr] at H
  have H := Lib.hid H
  clear hS hp hr
  go_enter Try.func158, Try.ntmps158
  go_wp2_with fail
  refine H.out.mono ?_
  rintro e w' ⟨rfl, rfl⟩
  go_wp2_with fail
  go_ret
  exact ⟨rfl, rfl⟩

set_option maxRecDepth 100000 in
set_option maxHeartbeats 3200000 in
theorem bsearch_any (A : Option Addr) (n cap len : Nat) (hs : Nat → List Nat) (hn : n ≤ 1000) (hlen : len ≤ 1000) (t : Nat) (ht : t < len) (f : Nat → Nat) (hf : ∀ j, j < n → ldI (hs j) len = (f j : Int)) (hfl : ∀ j, j < n → f j ≤ 1000) (hmono : ∀ i j, i < j → j < n → f i < f j) (hp : ∀ j, j < n → ∀ i, nth (hs j) i < 256) (w : World) (hS : RK w (.slice A n cap) len n hs) :
    Calls Try.prog 157 #[.slice A n cap, .int .i64 (t : Int), .func (.func 158) #[] #[]] w fun e w' => ∃ (p : Nat) (b : Bool), e = .returned (.tuple #[.int .i64 (p : Int), .bool b]) ∧ p ≤ n ∧ (∀ x, x < p → f x < t) ∧ (∀ x, p ≤ x → x < n → t ≤ f x) ∧ w = w' := by
  have HF := Lib.hid hf
  have HFL := Lib.hid hfl
  have HM := Lib.hid hmono
  have HP := Lib.hid hp
  have HS := Lib.hid hS
  clear hf hfl hmono hp hS
  go_enter Try.func157, Try.ntmps157
  go_wp2_with fail
  go_loop [9, 10] (fun iv jv => ∃ i j : Nat, i ≤ j ∧ j ≤ n ∧ iv = .int .i64 i ∧ jv = .int .i64 j ∧ Hid (∀ x, x < i → f x < t) ∧ Hid (∀ x, j ≤ x → x < n → t ≤ f x)) (fun iv jv => (intOf jv).toNat - (intOf iv).toNat)
  case atStart => exact ⟨0, n, Nat.zero_le _, Nat.le_refl _, rfl, rfl, Lib.hid (fun x hx => by omega), Lib.hid (fun x h1 h2 => by omega)⟩
  case round =>
    obtain ⟨i, j, hij, hjn, rfl, rfl, HL, HU⟩ := hrel
    by_cases hlt : i < j
    · obtain ⟨h, hh⟩ : ∃ h, (i + j) / 2 = h := ⟨_, rfl⟩
      have hh1 : i ≤ h := by omega
      have hh2 : h < j := by omega
      obtain ⟨g, b, c, rfl, hg, hc, hR⟩ := HS.out.at (show h < n by omega)
      have hfh := HFL.out h (by omega)
      have hfe := HF.out h (by omega)
      obtain ⟨y, hy⟩ : ∃ y, f h = y := ⟨_, rfl⟩
      rw [hy] at hfh hfe
      have HY := Lib.hid hy
      have HC := Lib.hid (fun W hR => spanCmp_any (some ⟨b, 0, none⟩) len c (hs h) (by omega) (HP.out h (by omega)) t (by omega) (y : Int) hfe (by omega) (by omega) W hR)
      have HR := Lib.hid hR
      have e1 : IntKind.i64.wrap ((i : Int) + (j : Int)) = (i : Int) + (j : Int) := by rw [IntKind.wrap_i64]; omega
      clear hy hfe hR hg
      have HI2 : Hid (((i : Int) + (j : Int)) / 2 = ((h : Nat) : Int)) := Lib.hid (by omega)
      rw [← hh] at hc
      have HH := Lib.hid hh
      clear hh
      by_cases hyt : y < t
      · go_wp2_with (go_at_call 158; refine (HC.out _ HR.out).mono ?_; rintro e w' ⟨rfl, rfl⟩)
        go_round
        case rel => exact ⟨h + 1, j, by omega, hjn, by rw [HI2.out]; go_num, rfl, Lib.hid (fun x hx => by
          have h1 := HY.out
          by_cases e : x = h
          · subst e; omega
          · have := HM.out x h (by omega) (by omega); omega), HU⟩
        case measure => rw [HI2.out]; simp [intOf]; omega
      · go_wp2_with (go_at_call 158; refine (HC.out _ HR.out).mono ?_; rintro e w' ⟨rfl, rfl⟩)
        go_round
        case rel => exact ⟨i, h, by omega, by omega, rfl, by rw [HI2.out], HL, Lib.hid (fun x h1 h2 => by
          have h3 := HY.out
          by_cases e : x = h
          · subst e; omega
          · have := HM.out h x (by omega) h2; omega)⟩
        case measure => rw [HI2.out]; simp [intOf]; omega
    · obtain rfl : i = j := by omega
      by_cases hin : i < n
      · obtain ⟨g, b, c, rfl, hg, hc, hR⟩ := HS.out.at hin
        have hfh := HFL.out i hin
        have hfe := HF.out i hin
        obtain ⟨y, hy⟩ : ∃ y, f i = y := ⟨_, rfl⟩
        rw [hy] at hfh hfe
        have HC := Lib.hid (fun W hR => spanCmp_any (some ⟨b, 0, none⟩) len c (hs i) (by omega) (HP.out i hin) t (by omega) (y : Int) hfe (by omega) (by omega) W hR)
        have HR := Lib.hid hR
        clear hy hfe hR hg
        go_wp2_with (go_at_call 158; refine (HC.out _ HR.out).mono ?_; rintro e w' ⟨rfl, rfl⟩)
        go_ret2
        exact ⟨i, _, rfl, hjn, HL.out, HU.out, rfl⟩
      · go_wp2_with fail
        go_ret2
        exact ⟨i, .inl rfl, hjn, HL.out, HU.out, rfl⟩
end Go.Proofs.Ytljaabmemjehpaa
