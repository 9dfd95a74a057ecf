/- Whether a code is valid. · The coder of a code; ValidCode, the program's. -/
import Derived.Test.YtljaabmemjehpaaFieldEchelon
import Derived.Test.YtljaabmemjehpaaSameCode
namespace Go.Proofs.Ytljaabmemjehpaa
open Go.RowKit Go.Joins Go.ChangeShapes Go.WideShapes Go.Deep
set_option linter.unusedVariables false
set_option linter.unusedSimpArgs false

def fValidCode (d p l : Int) (rows : List (List Int)) : Bool := if cRows d p l rows = 0 then decide (echL (p.toNat) (2 ^ d.toNat) l.toNat rows = rows) else false
theorem fValidCode_no {d p l c : Int} {rows : List (List Int)} (hc : cRows d p l rows = c) (h : c ≠ 0) : fValidCode d p l rows = false := by rw [fValidCode, if_neg (by rw [hc]; exact h)]
theorem fValidCode_yes {m P N len : Nat} {rows : List (List Int)} (hN : 2 ^ m = N) (h0 : cRows m P len rows = 0) : fValidCode m P len rows = decide (echL P N len rows = rows) := by
  rw [fValidCode, if_pos h0, Int.toNat_natCast, Int.toNat_natCast, Int.toNat_natCast, hN]
theorem KO.next {W W' : World} {B0 m P N len : Nat} {rows : List (List Int)} {q : Nat} (h : KO W B0 m P N len rows q) (hb : Below W.heap.size W W') : KO W' B0 m P N len rows q := by
  obtain ⟨c, n, v, hs, vs, b, h0, h1, h2, h3⟩ := h.ex
  exact ⟨c, n, v, hs, vs, b, h0, h1, h2.next hb, h3⟩

set_option maxRecDepth 100000 in
set_option maxHeartbeats 12800000 in
theorem l04Ok_no (d p l c : Int) (hc : c = 1 ∨ c = 2) (A : Option Addr) (n cap : Nat) (rows : List (List Int)) (hr : cRows d p l rows = c) (w : World) (q : Nat) (hX : LB w q (codL d p l (.slice A n cap))) (hA : RR w (.slice A n cap) rows) :
    Calls Try.prog 63 #[.pointer (some ⟨q, 0, none⟩)] w fun e w' => e = .returned (.bool false) ∧ Below w.heap.size w w' := by
  have hR : ∀ W, RR W (.slice A n cap) rows → _ := fun W a => (l04Rows_any d p l rows W a)
  rw [hr] at hR
  have HR := Lib.hid hR
  have HA := Lib.hid hA
  obtain ⟨Φ, hΦ⟩ : ∃ Φ : World → Prop, Φ = fun W => LB W q (codL d p l (.slice A n cap)) ∧ Below w.heap.size w W := ⟨_, rfl⟩
  have F0 : Φ w.drew := by rw [hΦ]; exact ⟨hX.next (Below.refl _ w).drew, (Below.refl _ w).drew⟩
  have SP : Hid (∀ W W', Φ W → Below W.heap.size W W' → Φ W') := Lib.hid fun W W' h hb => by
    rw [hΦ] at h ⊢; exact ⟨h.1.next hb, h.2.trans (hb.mono h.2.size)⟩
  have CX : Hid (∀ W, Φ W → LB W q [.int .i64 d, .int .i64 p, .int .i64 l, .slice A n cap]) := Lib.hid fun W h => by rw [hΦ] at h; exact h.1
  have CB : Hid (∀ W, Φ W → Below w.heap.size w W) := Lib.hid fun W h => by rw [hΦ] at h; exact h.2
  clear hΦ hR hX hA hr
  rcases hc with rfl | rfl
  all_goals
    go_enter Try.func63, Try.ntmps63
    go_wp2_with fail
    refine wp_region_S (n := 34) (S := Φ) (by kernel_rfl) (by kernel_rfl) F0 (fun G inv hS => ?_)
    refine wpAnyS_take (i := 0) (v := ?_) G inv hS (by decide) rfl (by kernel_rfl) (by kernel_rfl) (fun _ _ _ h => h) (Or.inl ⟨by kernel_rfl, fun W hW => ?_⟩) (fun inv => ?_)
    rotate_left
    · have z0 := (CX.out _ hW).cell 0 _ rfl
      have z1 := (CX.out _ hW).cell 1 _ rfl
      have z2 := (CX.out _ hW).cell 2 _ rfl
      have z3 := (CX.out _ hW).cell 3 _ rfl
      go_simp
      try with_reducible rfl
    try simp only [Act.put, List.setIfInBounds_toArray, List.set_cons_zero, List.set_cons_succ]
    refine wpAnyS_take (i := 1) (v := ?_) G inv hS (by decide) rfl (by kernel_rfl) (by kernel_rfl) (fun _ _ _ h => h) (Or.inl ⟨by kernel_rfl, fun W hW => ?_⟩) (fun inv => ?_)
    rotate_left
    · have z0 := (CX.out _ hW).cell 0 _ rfl
      have z1 := (CX.out _ hW).cell 1 _ rfl
      have z2 := (CX.out _ hW).cell 2 _ rfl
      have z3 := (CX.out _ hW).cell 3 _ rfl
      go_simp
      try with_reducible rfl
    try simp only [Act.put, List.setIfInBounds_toArray, List.set_cons_zero, List.set_cons_succ]
    refine wpAnyS_take (i := 2) (v := ?_) G inv hS (by decide) rfl (by kernel_rfl) (by kernel_rfl) (fun _ _ _ h => h) (Or.inl ⟨by kernel_rfl, fun W hW => ?_⟩) (fun inv => ?_)
    rotate_left
    · have z0 := (CX.out _ hW).cell 0 _ rfl
      have z1 := (CX.out _ hW).cell 1 _ rfl
      have z2 := (CX.out _ hW).cell 2 _ rfl
      have z3 := (CX.out _ hW).cell 3 _ rfl
      go_simp
      try with_reducible rfl
    try simp only [Act.put, List.setIfInBounds_toArray, List.set_cons_zero, List.set_cons_succ]
    refine wpAnyS_take (i := 3) (v := ?_) G inv hS (by decide) rfl (by kernel_rfl) (by kernel_rfl) (fun _ _ _ h => h) (Or.inl ⟨by kernel_rfl, fun W hW => ?_⟩) (fun inv => ?_)
    rotate_left
    · have z0 := (CX.out _ hW).cell 0 _ rfl
      have z1 := (CX.out _ hW).cell 1 _ rfl
      have z2 := (CX.out _ hW).cell 2 _ rfl
      have z3 := (CX.out _ hW).cell 3 _ rfl
      go_simp
      try with_reducible rfl
    try simp only [Act.put, List.setIfInBounds_toArray, List.set_cons_zero, List.set_cons_succ]
    refine wpAnyS_take (i := 4) (v := ?_) G inv hS (by decide) rfl (by kernel_rfl) (by kernel_rfl) (fun _ _ _ h => h) (Or.inl ⟨by kernel_rfl, fun W hW => ?_⟩) (fun inv => ?_)
    rotate_left
    · have z0 := (CX.out _ hW).cell 0 _ rfl
      have z1 := (CX.out _ hW).cell 1 _ rfl
      have z2 := (CX.out _ hW).cell 2 _ rfl
      have z3 := (CX.out _ hW).cell 3 _ rfl
      go_simp
      try with_reducible rfl
    try simp only [Act.put, List.setIfInBounds_toArray, List.set_cons_zero, List.set_cons_succ]
    refine wpAnyS_take (i := 5) (v := ?_) G inv hS (by decide) rfl (by kernel_rfl) (by kernel_rfl) (fun _ _ _ h => h) (Or.inl ⟨by kernel_rfl, fun W hW => ?_⟩) (fun inv => ?_)
    rotate_left
    · have z0 := (CX.out _ hW).cell 0 _ rfl
      have z1 := (CX.out _ hW).cell 1 _ rfl
      have z2 := (CX.out _ hW).cell 2 _ rfl
      have z3 := (CX.out _ hW).cell 3 _ rfl
      go_simp
      try with_reducible rfl
    try simp only [Act.put, List.setIfInBounds_toArray, List.set_cons_zero, List.set_cons_succ]
    refine wpAnyS_take (i := 6) (v := ?_) G inv hS (by decide) rfl (by kernel_rfl) (by kernel_rfl) (fun _ _ _ h => h) (Or.inl ⟨by kernel_rfl, fun W hW => ?_⟩) (fun inv => ?_)
    rotate_left
    · have z0 := (CX.out _ hW).cell 0 _ rfl
      have z1 := (CX.out _ hW).cell 1 _ rfl
      have z2 := (CX.out _ hW).cell 2 _ rfl
      have z3 := (CX.out _ hW).cell 3 _ rfl
      go_simp
      try with_reducible rfl
    try simp only [Act.put, List.setIfInBounds_toArray, List.set_cons_zero, List.set_cons_succ]
    refine wpAnyS_take (i := 7) (v := ?_) G inv hS (by decide) rfl (by kernel_rfl) (by kernel_rfl) (fun _ _ _ h => h) (Or.inl ⟨by kernel_rfl, fun W hW => ?_⟩) (fun inv => ?_)
    rotate_left
    · have z0 := (CX.out _ hW).cell 0 _ rfl
      have z1 := (CX.out _ hW).cell 1 _ rfl
      have z2 := (CX.out _ hW).cell 2 _ rfl
      have z3 := (CX.out _ hW).cell 3 _ rfl
      go_simp
      try with_reducible rfl
    try simp only [Act.put, List.setIfInBounds_toArray, List.set_cons_zero, List.set_cons_succ]
    refine wpAnyS_take (i := 8) (v := ?_) G inv hS (by decide) rfl (by kernel_rfl) (by kernel_rfl) (fun _ _ _ h => h) (Or.inl ⟨by kernel_rfl, fun W hW => ?_⟩) (fun inv => ?_)
    rotate_left
    · have z0 := (CX.out _ hW).cell 0 _ rfl
      have z1 := (CX.out _ hW).cell 1 _ rfl
      have z2 := (CX.out _ hW).cell 2 _ rfl
      have z3 := (CX.out _ hW).cell 3 _ rfl
      go_simp
      try with_reducible rfl
    try simp only [Act.put, List.setIfInBounds_toArray, List.set_cons_zero, List.set_cons_succ]
    refine wpAnyS_take (i := 9) (v := ?_) G inv hS (by decide) rfl (by kernel_rfl) (by kernel_rfl) (fun _ _ _ h => h) (Or.inl ⟨by kernel_rfl, fun W hW => ?_⟩) (fun inv => ?_)
    rotate_left
    · have z0 := (CX.out _ hW).cell 0 _ rfl
      have z1 := (CX.out _ hW).cell 1 _ rfl
      have z2 := (CX.out _ hW).cell 2 _ rfl
      have z3 := (CX.out _ hW).cell 3 _ rfl
      go_simp
      try with_reducible rfl
    try simp only [Act.put, List.setIfInBounds_toArray, List.set_cons_zero, List.set_cons_succ]
    refine wpAnyS_take (i := 10) (v := ?_) G inv hS (by decide) rfl (by kernel_rfl) (by kernel_rfl) (fun _ _ _ h => h) (Or.inl ⟨by kernel_rfl, fun W hW => ?_⟩) (fun inv => ?_)
    rotate_left
    · have z0 := (CX.out _ hW).cell 0 _ rfl
      have z1 := (CX.out _ hW).cell 1 _ rfl
      have z2 := (CX.out _ hW).cell 2 _ rfl
      have z3 := (CX.out _ hW).cell 3 _ rfl
      go_simp
      try with_reducible rfl
    try simp only [Act.put, List.setIfInBounds_toArray, List.set_cons_zero, List.set_cons_succ]
    refine wpAnyS_take (i := 11) (v := ?_) G inv hS (by decide) rfl (by kernel_rfl) (by kernel_rfl) (fun _ _ _ h => h) (Or.inl ⟨by kernel_rfl, fun W hW => ?_⟩) (fun inv => ?_)
    rotate_left
    · have z0 := (CX.out _ hW).cell 0 _ rfl
      have z1 := (CX.out _ hW).cell 1 _ rfl
      have z2 := (CX.out _ hW).cell 2 _ rfl
      have z3 := (CX.out _ hW).cell 3 _ rfl
      go_simp
      try with_reducible rfl
    try simp only [Act.put, List.setIfInBounds_toArray, List.set_cons_zero, List.set_cons_succ]
    refine wpAnyS_step (i := 12) (by kernel_rfl) rfl ?_
    go_wp2_with (go_at_call 108; refine (HR.out _ (HA.out.next (CB.out _ hS))).mono ?_; rintro e w1 ⟨rfl, hb⟩)
    have F1 : Φ w1 := SP.out _ _ hS hb
    clear hb
    change (12 ≠ 34 → Φ w1) ∧ _
    refine ⟨fun _ => F1, ?_⟩
    have inv := HeadInv.setD (i := 12) inv (by kernel_rfl) (by decide)
    refine wpAnyS_take (i := 13) (v := .bool false) G inv F1 (by decide) rfl (by kernel_rfl) (by kernel_rfl) (fun _ _ _ h => h) (Or.inl ⟨by kernel_rfl, fun W hW => ?_⟩) (fun inv => ?_)
    skip
    · have z0 := (CX.out _ hW).cell 0 _ rfl
      have z1 := (CX.out _ hW).cell 1 _ rfl
      have z2 := (CX.out _ hW).cell 2 _ rfl
      have z3 := (CX.out _ hW).cell 3 _ rfl
      go_simp
      try with_reducible rfl
    try simp only [Act.put, List.setIfInBounds_toArray, List.set_cons_zero, List.set_cons_succ]
    refine wpAnyS_take (i := 14) (v := .bool false) G inv F1 (by decide) rfl (by kernel_rfl) (by kernel_rfl) (fun _ _ _ h => h) (Or.inl ⟨by kernel_rfl, fun W hW => ?_⟩) (fun inv => ?_)
    skip
    · have z0 := (CX.out _ hW).cell 0 _ rfl
      have z1 := (CX.out _ hW).cell 1 _ rfl
      have z2 := (CX.out _ hW).cell 2 _ rfl
      have z3 := (CX.out _ hW).cell 3 _ rfl
      go_simp
      try with_reducible rfl
    try simp only [Act.put, List.setIfInBounds_toArray, List.set_cons_zero, List.set_cons_succ]
    refine wpAnyS_take (i := 15) (v := undef) G inv F1 (by decide) rfl (by kernel_rfl) (by kernel_rfl) (fun _ _ _ h => h) (Or.inr ⟨by kernel_rfl, rfl⟩) (fun inv => ?_)
    try simp only [Act.put, List.setIfInBounds_toArray, List.set_cons_zero, List.set_cons_succ]
    refine wpAnyS_take (i := 16) (v := undef) G inv F1 (by decide) rfl (by kernel_rfl) (by kernel_rfl) (fun _ _ _ h => h) (Or.inr ⟨by kernel_rfl, rfl⟩) (fun inv => ?_)
    try simp only [Act.put, List.setIfInBounds_toArray, List.set_cons_zero, List.set_cons_succ]
    refine wpAnyS_take (i := 17) (v := undef) G inv F1 (by decide) rfl (by kernel_rfl) (by kernel_rfl) (fun _ _ _ h => h) (Or.inr ⟨by kernel_rfl, rfl⟩) (fun inv => ?_)
    try simp only [Act.put, List.setIfInBounds_toArray, List.set_cons_zero, List.set_cons_succ]
    refine wpAnyS_take (i := 18) (v := undef) G inv F1 (by decide) rfl (by kernel_rfl) (by kernel_rfl) (fun _ _ _ h => h) (Or.inr ⟨by kernel_rfl, rfl⟩) (fun inv => ?_)
    try simp only [Act.put, List.setIfInBounds_toArray, List.set_cons_zero, List.set_cons_succ]
    refine wpAnyS_take (i := 19) (v := undef) G inv F1 (by decide) rfl (by kernel_rfl) (by kernel_rfl) (fun _ _ _ h => h) (Or.inr ⟨by kernel_rfl, rfl⟩) (fun inv => ?_)
    try simp only [Act.put, List.setIfInBounds_toArray, List.set_cons_zero, List.set_cons_succ]
    refine wpAnyS_take (i := 20) (v := undef) G inv F1 (by decide) rfl (by kernel_rfl) (by kernel_rfl) (fun _ _ _ h => h) (Or.inr ⟨by kernel_rfl, rfl⟩) (fun inv => ?_)
    try simp only [Act.put, List.setIfInBounds_toArray, List.set_cons_zero, List.set_cons_succ]
    refine wpAnyS_take (i := 21) (v := undef) G inv F1 (by decide) rfl (by kernel_rfl) (by kernel_rfl) (fun _ _ _ h => h) (Or.inr ⟨by kernel_rfl, rfl⟩) (fun inv => ?_)
    try simp only [Act.put, List.setIfInBounds_toArray, List.set_cons_zero, List.set_cons_succ]
    refine wpAnyS_take (i := 22) (v := undef) G inv F1 (by decide) rfl (by kernel_rfl) (by kernel_rfl) (fun _ _ _ h => h) (Or.inr ⟨by kernel_rfl, rfl⟩) (fun inv => ?_)
    try simp only [Act.put, List.setIfInBounds_toArray, List.set_cons_zero, List.set_cons_succ]
    refine wpAnyS_take (i := 23) (v := undef) G inv F1 (by decide) rfl (by kernel_rfl) (by kernel_rfl) (fun _ _ _ h => h) (Or.inr ⟨by kernel_rfl, rfl⟩) (fun inv => ?_)
    try simp only [Act.put, List.setIfInBounds_toArray, List.set_cons_zero, List.set_cons_succ]
    refine wpAnyS_take (i := 24) (v := undef) G inv F1 (by decide) rfl (by kernel_rfl) (by kernel_rfl) (fun _ _ _ h => h) (Or.inr ⟨by kernel_rfl, rfl⟩) (fun inv => ?_)
    try simp only [Act.put, List.setIfInBounds_toArray, List.set_cons_zero, List.set_cons_succ]
    refine wpAnyS_take (i := 25) (v := undef) G inv F1 (by decide) rfl (by kernel_rfl) (by kernel_rfl) (fun _ _ _ h => h) (Or.inr ⟨by kernel_rfl, rfl⟩) (fun inv => ?_)
    try simp only [Act.put, List.setIfInBounds_toArray, List.set_cons_zero, List.set_cons_succ]
    refine wpAnyS_take (i := 26) (v := undef) G inv F1 (by decide) rfl (by kernel_rfl) (by kernel_rfl) (fun _ _ _ h => h) (Or.inr ⟨by kernel_rfl, rfl⟩) (fun inv => ?_)
    try simp only [Act.put, List.setIfInBounds_toArray, List.set_cons_zero, List.set_cons_succ]
    refine wpAnyS_take (i := 27) (v := undef) G inv F1 (by decide) rfl (by kernel_rfl) (by kernel_rfl) (fun _ _ _ h => h) (Or.inr ⟨by kernel_rfl, rfl⟩) (fun inv => ?_)
    try simp only [Act.put, List.setIfInBounds_toArray, List.set_cons_zero, List.set_cons_succ]
    refine wpAnyS_take (i := 28) (v := undef) G inv F1 (by decide) rfl (by kernel_rfl) (by kernel_rfl) (fun _ _ _ h => h) (Or.inr ⟨by kernel_rfl, rfl⟩) (fun inv => ?_)
    try simp only [Act.put, List.setIfInBounds_toArray, List.set_cons_zero, List.set_cons_succ]
    refine wpAnyS_take (i := 29) (v := undef) G inv F1 (by decide) rfl (by kernel_rfl) (by kernel_rfl) (fun _ _ _ h => h) (Or.inr ⟨by kernel_rfl, rfl⟩) (fun inv => ?_)
    try simp only [Act.put, List.setIfInBounds_toArray, List.set_cons_zero, List.set_cons_succ]
    refine wpAnyS_take (i := 30) (v := undef) G inv F1 (by decide) rfl (by kernel_rfl) (by kernel_rfl) (fun _ _ _ h => h) (Or.inr ⟨by kernel_rfl, rfl⟩) (fun inv => ?_)
    try simp only [Act.put, List.setIfInBounds_toArray, List.set_cons_zero, List.set_cons_succ]
    refine wpAnyS_take (i := 31) (v := undef) G inv F1 (by decide) rfl (by kernel_rfl) (by kernel_rfl) (fun _ _ _ h => h) (Or.inr ⟨by kernel_rfl, rfl⟩) (fun inv => ?_)
    try simp only [Act.put, List.setIfInBounds_toArray, List.set_cons_zero, List.set_cons_succ]
    refine wpAnyS_take (i := 32) (v := undef) G inv F1 (by decide) rfl (by kernel_rfl) (by kernel_rfl) (fun _ _ _ h => h) (Or.inr ⟨by kernel_rfl, rfl⟩) (fun inv => ?_)
    try simp only [Act.put, List.setIfInBounds_toArray, List.set_cons_zero, List.set_cons_succ]
    refine wpAnyS_take (i := 33) (v := ?_) G inv F1 (by decide) rfl (by kernel_rfl) (by kernel_rfl) (fun _ _ _ h => h) (Or.inl ⟨by kernel_rfl, fun W hW => ?_⟩) (fun inv => ?_)
    rotate_left
    · have z0 := (CX.out _ hW).cell 0 _ rfl
      have z1 := (CX.out _ hW).cell 1 _ rfl
      have z2 := (CX.out _ hW).cell 2 _ rfl
      have z3 := (CX.out _ hW).cell 3 _ rfl
      go_simp
      try with_reducible rfl
    try simp only [Act.put, List.setIfInBounds_toArray, List.set_cons_zero, List.set_cons_succ]
    refine wpAnyS_step (i := 34) (by kernel_rfl) rfl ?_
    go_wp2
    refine ⟨fun h => absurd rfl h, ?_⟩
    refine wpAnyS_done (by kernel_rfl) ?_ _
    have HB := Lib.hid (CB.out _ F1)
    clear F1 hS inv G
    go_wp2_with fail
    go_ret
    exact ⟨rfl, HB.out⟩

set_option maxRecDepth 100000 in
set_option maxHeartbeats 12800000 in
theorem l04Ok_yes (m P N len : Nat) (hN : 2 ^ m = N) (hF : Fld m P N) (hl0 : 0 < len) (hl5 : len ≤ 5) (A : Option Addr) (n cap : Nat) (rows : List (List Int)) (h10 : rows.length ≤ 10) (hok : okS N len rows = true) (h0 : cRows m P len rows = 0) (w : World) (q : Nat) (hX : LB w q (codL m P len (.slice A n cap))) (hA : RR w (.slice A n cap) rows) :
    Calls Try.prog 63 #[.pointer (some ⟨q, 0, none⟩)] w fun e w' => e = .returned (.bool (decide (echL P N len rows = rows))) ∧ Below w.heap.size w w' := by
  have hR : ∀ W, RR W (.slice A n cap) rows → _ := fun W a => (l04Rows_any (m : Int) P len rows W a)
  rw [h0] at hR
  have HR := Lib.hid hR
  have HE := Lib.hid (fun W a => l04Echelon_any m P N hF len hl0 hl5 (v := .slice A n cap) rows h10 hok W a)
  obtain ⟨r, hr⟩ : ∃ r, echL P N len rows = r := ⟨_, rfl⟩
  rw [hr] at HE ⊢
  have hQ : ∀ W v, RR W v r → RR W (.slice A n cap) rows → _ := fun W v a b => l04SameRowsR (w := W) (v := v) (v' := .slice A n cap) a b
  obtain ⟨t, ht⟩ : ∃ t, decide (r = rows) = t := ⟨_, rfl⟩
  rw [ht] at hQ ⊢
  have HQ := Lib.hid hQ
  have HA := Lib.hid hA
  obtain ⟨Φ, hΦ⟩ : ∃ Φ : World → Prop, Φ = fun W => LB W q (codL m P len (.slice A n cap)) ∧ Below w.heap.size w W := ⟨_, rfl⟩
  have F0 : Φ w.drew := by rw [hΦ]; exact ⟨hX.next (Below.refl _ w).drew, (Below.refl _ w).drew⟩
  have SP : Hid (∀ W W', Φ W → Below W.heap.size W W' → Φ W') := Lib.hid fun W W' h hb => by
    rw [hΦ] at h ⊢; exact ⟨h.1.next hb, h.2.trans (hb.mono h.2.size)⟩
  have CX : Hid (∀ W, Φ W → LB W q [.int .i64 (m : Int), .int .i64 (P : Int), .int .i64 (len : Int), .slice A n cap]) := Lib.hid fun W h => by rw [hΦ] at h; exact h.1
  have CB : Hid (∀ W, Φ W → Below w.heap.size w W) := Lib.hid fun W h => by rw [hΦ] at h; exact h.2
  clear hΦ hR hX hA hr hQ ht h0 hok hF hN h10
  go_enter Try.func63, Try.ntmps63
  go_wp2_with fail
  refine wp_region_S (n := 34) (S := Φ) (by kernel_rfl) (by kernel_rfl) F0 (fun G inv hS => ?_)
  refine wpAnyS_take (i := 0) (v := ?_) G inv hS (by decide) rfl (by kernel_rfl) (by kernel_rfl) (fun _ _ _ h => h) (Or.inl ⟨by kernel_rfl, fun W hW => ?_⟩) (fun inv => ?_)
  rotate_left
  · have z0 := (CX.out _ hW).cell 0 _ rfl
    have z1 := (CX.out _ hW).cell 1 _ rfl
    have z2 := (CX.out _ hW).cell 2 _ rfl
    have z3 := (CX.out _ hW).cell 3 _ rfl
    go_simp
    try with_reducible rfl
  try simp only [Act.put, List.setIfInBounds_toArray, List.set_cons_zero, List.set_cons_succ]
  refine wpAnyS_take (i := 1) (v := ?_) G inv hS (by decide) rfl (by kernel_rfl) (by kernel_rfl) (fun _ _ _ h => h) (Or.inl ⟨by kernel_rfl, fun W hW => ?_⟩) (fun inv => ?_)
  rotate_left
  · have z0 := (CX.out _ hW).cell 0 _ rfl
    have z1 := (CX.out _ hW).cell 1 _ rfl
    have z2 := (CX.out _ hW).cell 2 _ rfl
    have z3 := (CX.out _ hW).cell 3 _ rfl
    go_simp
    try with_reducible rfl
  try simp only [Act.put, List.setIfInBounds_toArray, List.set_cons_zero, List.set_cons_succ]
  refine wpAnyS_take (i := 2) (v := ?_) G inv hS (by decide) rfl (by kernel_rfl) (by kernel_rfl) (fun _ _ _ h => h) (Or.inl ⟨by kernel_rfl, fun W hW => ?_⟩) (fun inv => ?_)
  rotate_left
  · have z0 := (CX.out _ hW).cell 0 _ rfl
    have z1 := (CX.out _ hW).cell 1 _ rfl
    have z2 := (CX.out _ hW).cell 2 _ rfl
    have z3 := (CX.out _ hW).cell 3 _ rfl
    go_simp
    try with_reducible rfl
  try simp only [Act.put, List.setIfInBounds_toArray, List.set_cons_zero, List.set_cons_succ]
  refine wpAnyS_take (i := 3) (v := ?_) G inv hS (by decide) rfl (by kernel_rfl) (by kernel_rfl) (fun _ _ _ h => h) (Or.inl ⟨by kernel_rfl, fun W hW => ?_⟩) (fun inv => ?_)
  rotate_left
  · have z0 := (CX.out _ hW).cell 0 _ rfl
    have z1 := (CX.out _ hW).cell 1 _ rfl
    have z2 := (CX.out _ hW).cell 2 _ rfl
    have z3 := (CX.out _ hW).cell 3 _ rfl
    go_simp
    try with_reducible rfl
  try simp only [Act.put, List.setIfInBounds_toArray, List.set_cons_zero, List.set_cons_succ]
  refine wpAnyS_take (i := 4) (v := ?_) G inv hS (by decide) rfl (by kernel_rfl) (by kernel_rfl) (fun _ _ _ h => h) (Or.inl ⟨by kernel_rfl, fun W hW => ?_⟩) (fun inv => ?_)
  rotate_left
  · have z0 := (CX.out _ hW).cell 0 _ rfl
    have z1 := (CX.out _ hW).cell 1 _ rfl
    have z2 := (CX.out _ hW).cell 2 _ rfl
    have z3 := (CX.out _ hW).cell 3 _ rfl
    go_simp
    try with_reducible rfl
  try simp only [Act.put, List.setIfInBounds_toArray, List.set_cons_zero, List.set_cons_succ]
  refine wpAnyS_take (i := 5) (v := ?_) G inv hS (by decide) rfl (by kernel_rfl) (by kernel_rfl) (fun _ _ _ h => h) (Or.inl ⟨by kernel_rfl, fun W hW => ?_⟩) (fun inv => ?_)
  rotate_left
  · have z0 := (CX.out _ hW).cell 0 _ rfl
    have z1 := (CX.out _ hW).cell 1 _ rfl
    have z2 := (CX.out _ hW).cell 2 _ rfl
    have z3 := (CX.out _ hW).cell 3 _ rfl
    go_simp
    try with_reducible rfl
  try simp only [Act.put, List.setIfInBounds_toArray, List.set_cons_zero, List.set_cons_succ]
  refine wpAnyS_take (i := 6) (v := ?_) G inv hS (by decide) rfl (by kernel_rfl) (by kernel_rfl) (fun _ _ _ h => h) (Or.inl ⟨by kernel_rfl, fun W hW => ?_⟩) (fun inv => ?_)
  rotate_left
  · have z0 := (CX.out _ hW).cell 0 _ rfl
    have z1 := (CX.out _ hW).cell 1 _ rfl
    have z2 := (CX.out _ hW).cell 2 _ rfl
    have z3 := (CX.out _ hW).cell 3 _ rfl
    go_simp
    try with_reducible rfl
  try simp only [Act.put, List.setIfInBounds_toArray, List.set_cons_zero, List.set_cons_succ]
  refine wpAnyS_take (i := 7) (v := ?_) G inv hS (by decide) rfl (by kernel_rfl) (by kernel_rfl) (fun _ _ _ h => h) (Or.inl ⟨by kernel_rfl, fun W hW => ?_⟩) (fun inv => ?_)
  rotate_left
  · have z0 := (CX.out _ hW).cell 0 _ rfl
    have z1 := (CX.out _ hW).cell 1 _ rfl
    have z2 := (CX.out _ hW).cell 2 _ rfl
    have z3 := (CX.out _ hW).cell 3 _ rfl
    go_simp
    try with_reducible rfl
  try simp only [Act.put, List.setIfInBounds_toArray, List.set_cons_zero, List.set_cons_succ]
  refine wpAnyS_take (i := 8) (v := ?_) G inv hS (by decide) rfl (by kernel_rfl) (by kernel_rfl) (fun _ _ _ h => h) (Or.inl ⟨by kernel_rfl, fun W hW => ?_⟩) (fun inv => ?_)
  rotate_left
  · have z0 := (CX.out _ hW).cell 0 _ rfl
    have z1 := (CX.out _ hW).cell 1 _ rfl
    have z2 := (CX.out _ hW).cell 2 _ rfl
    have z3 := (CX.out _ hW).cell 3 _ rfl
    go_simp
    try with_reducible rfl
  try simp only [Act.put, List.setIfInBounds_toArray, List.set_cons_zero, List.set_cons_succ]
  refine wpAnyS_take (i := 9) (v := ?_) G inv hS (by decide) rfl (by kernel_rfl) (by kernel_rfl) (fun _ _ _ h => h) (Or.inl ⟨by kernel_rfl, fun W hW => ?_⟩) (fun inv => ?_)
  rotate_left
  · have z0 := (CX.out _ hW).cell 0 _ rfl
    have z1 := (CX.out _ hW).cell 1 _ rfl
    have z2 := (CX.out _ hW).cell 2 _ rfl
    have z3 := (CX.out _ hW).cell 3 _ rfl
    go_simp
    try with_reducible rfl
  try simp only [Act.put, List.setIfInBounds_toArray, List.set_cons_zero, List.set_cons_succ]
  refine wpAnyS_take (i := 10) (v := ?_) G inv hS (by decide) rfl (by kernel_rfl) (by kernel_rfl) (fun _ _ _ h => h) (Or.inl ⟨by kernel_rfl, fun W hW => ?_⟩) (fun inv => ?_)
  rotate_left
  · have z0 := (CX.out _ hW).cell 0 _ rfl
    have z1 := (CX.out _ hW).cell 1 _ rfl
    have z2 := (CX.out _ hW).cell 2 _ rfl
    have z3 := (CX.out _ hW).cell 3 _ rfl
    go_simp
    try with_reducible rfl
  try simp only [Act.put, List.setIfInBounds_toArray, List.set_cons_zero, List.set_cons_succ]
  refine wpAnyS_take (i := 11) (v := ?_) G inv hS (by decide) rfl (by kernel_rfl) (by kernel_rfl) (fun _ _ _ h => h) (Or.inl ⟨by kernel_rfl, fun W hW => ?_⟩) (fun inv => ?_)
  rotate_left
  · have z0 := (CX.out _ hW).cell 0 _ rfl
    have z1 := (CX.out _ hW).cell 1 _ rfl
    have z2 := (CX.out _ hW).cell 2 _ rfl
    have z3 := (CX.out _ hW).cell 3 _ rfl
    go_simp
    try with_reducible rfl
  try simp only [Act.put, List.setIfInBounds_toArray, List.set_cons_zero, List.set_cons_succ]
  refine wpAnyS_step (i := 12) (by kernel_rfl) rfl ?_
  go_wp2_with (go_at_call 108; refine (HR.out _ (HA.out.next (CB.out _ hS))).mono ?_; rintro e w1 ⟨rfl, hb⟩)
  have F1 : Φ w1 := SP.out _ _ hS hb
  clear hb
  change (12 ≠ 34 → Φ w1) ∧ _
  refine ⟨fun _ => F1, ?_⟩
  have inv := HeadInv.setD (i := 12) inv (by kernel_rfl) (by decide)
  refine wpAnyS_take (i := 13) (v := .bool true) G inv F1 (by decide) rfl (by kernel_rfl) (by kernel_rfl) (fun _ _ _ h => h) (Or.inl ⟨by kernel_rfl, fun W hW => ?_⟩) (fun inv => ?_)
  skip
  · have z0 := (CX.out _ hW).cell 0 _ rfl
    have z1 := (CX.out _ hW).cell 1 _ rfl
    have z2 := (CX.out _ hW).cell 2 _ rfl
    have z3 := (CX.out _ hW).cell 3 _ rfl
    go_simp
    try with_reducible rfl
  try simp only [Act.put, List.setIfInBounds_toArray, List.set_cons_zero, List.set_cons_succ]
  refine wpAnyS_take (i := 14) (v := .bool true) G inv F1 (by decide) rfl (by kernel_rfl) (by kernel_rfl) (fun _ _ _ h => h) (Or.inl ⟨by kernel_rfl, fun W hW => ?_⟩) (fun inv => ?_)
  skip
  · have z0 := (CX.out _ hW).cell 0 _ rfl
    have z1 := (CX.out _ hW).cell 1 _ rfl
    have z2 := (CX.out _ hW).cell 2 _ rfl
    have z3 := (CX.out _ hW).cell 3 _ rfl
    go_simp
    try with_reducible rfl
  try simp only [Act.put, List.setIfInBounds_toArray, List.set_cons_zero, List.set_cons_succ]
  refine wpAnyS_take (i := 15) (v := ?_) G inv F1 (by decide) rfl (by kernel_rfl) (by kernel_rfl) (fun _ _ _ h => h) (Or.inl ⟨by kernel_rfl, fun W hW => ?_⟩) (fun inv => ?_)
  rotate_left
  · have z0 := (CX.out _ hW).cell 0 _ rfl
    have z1 := (CX.out _ hW).cell 1 _ rfl
    have z2 := (CX.out _ hW).cell 2 _ rfl
    have z3 := (CX.out _ hW).cell 3 _ rfl
    go_simp
    try with_reducible rfl
  try simp only [Act.put, List.setIfInBounds_toArray, List.set_cons_zero, List.set_cons_succ]
  refine wpAnyS_take (i := 16) (v := ?_) G inv F1 (by decide) rfl (by kernel_rfl) (by kernel_rfl) (fun _ _ _ h => h) (Or.inl ⟨by kernel_rfl, fun W hW => ?_⟩) (fun inv => ?_)
  rotate_left
  · have z0 := (CX.out _ hW).cell 0 _ rfl
    have z1 := (CX.out _ hW).cell 1 _ rfl
    have z2 := (CX.out _ hW).cell 2 _ rfl
    have z3 := (CX.out _ hW).cell 3 _ rfl
    go_simp
    try with_reducible rfl
  try simp only [Act.put, List.setIfInBounds_toArray, List.set_cons_zero, List.set_cons_succ]
  refine wpAnyS_take (i := 17) (v := ?_) G inv F1 (by decide) rfl (by kernel_rfl) (by kernel_rfl) (fun _ _ _ h => h) (Or.inl ⟨by kernel_rfl, fun W hW => ?_⟩) (fun inv => ?_)
  rotate_left
  · have z0 := (CX.out _ hW).cell 0 _ rfl
    have z1 := (CX.out _ hW).cell 1 _ rfl
    have z2 := (CX.out _ hW).cell 2 _ rfl
    have z3 := (CX.out _ hW).cell 3 _ rfl
    go_simp
    try with_reducible rfl
  try simp only [Act.put, List.setIfInBounds_toArray, List.set_cons_zero, List.set_cons_succ]
  refine wpAnyS_take (i := 18) (v := ?_) G inv F1 (by decide) rfl (by kernel_rfl) (by kernel_rfl) (fun _ _ _ h => h) (Or.inl ⟨by kernel_rfl, fun W hW => ?_⟩) (fun inv => ?_)
  rotate_left
  · have z0 := (CX.out _ hW).cell 0 _ rfl
    have z1 := (CX.out _ hW).cell 1 _ rfl
    have z2 := (CX.out _ hW).cell 2 _ rfl
    have z3 := (CX.out _ hW).cell 3 _ rfl
    go_simp
    try with_reducible rfl
  try simp only [Act.put, List.setIfInBounds_toArray, List.set_cons_zero, List.set_cons_succ]
  refine wpAnyS_take (i := 19) (v := ?_) G inv F1 (by decide) rfl (by kernel_rfl) (by kernel_rfl) (fun _ _ _ h => h) (Or.inl ⟨by kernel_rfl, fun W hW => ?_⟩) (fun inv => ?_)
  rotate_left
  · have z0 := (CX.out _ hW).cell 0 _ rfl
    have z1 := (CX.out _ hW).cell 1 _ rfl
    have z2 := (CX.out _ hW).cell 2 _ rfl
    have z3 := (CX.out _ hW).cell 3 _ rfl
    go_simp
    try with_reducible rfl
  try simp only [Act.put, List.setIfInBounds_toArray, List.set_cons_zero, List.set_cons_succ]
  refine wpAnyS_take (i := 20) (v := ?_) G inv F1 (by decide) rfl (by kernel_rfl) (by kernel_rfl) (fun _ _ _ h => h) (Or.inl ⟨by kernel_rfl, fun W hW => ?_⟩) (fun inv => ?_)
  rotate_left
  · have z0 := (CX.out _ hW).cell 0 _ rfl
    have z1 := (CX.out _ hW).cell 1 _ rfl
    have z2 := (CX.out _ hW).cell 2 _ rfl
    have z3 := (CX.out _ hW).cell 3 _ rfl
    go_simp
    try with_reducible rfl
  try simp only [Act.put, List.setIfInBounds_toArray, List.set_cons_zero, List.set_cons_succ]
  refine wpAnyS_take (i := 21) (v := ?_) G inv F1 (by decide) rfl (by kernel_rfl) (by kernel_rfl) (fun _ _ _ h => h) (Or.inl ⟨by kernel_rfl, fun W hW => ?_⟩) (fun inv => ?_)
  rotate_left
  · have z0 := (CX.out _ hW).cell 0 _ rfl
    have z1 := (CX.out _ hW).cell 1 _ rfl
    have z2 := (CX.out _ hW).cell 2 _ rfl
    have z3 := (CX.out _ hW).cell 3 _ rfl
    go_simp
    try with_reducible rfl
  try simp only [Act.put, List.setIfInBounds_toArray, List.set_cons_zero, List.set_cons_succ]
  refine wpAnyS_take (i := 22) (v := ?_) G inv F1 (by decide) rfl (by kernel_rfl) (by kernel_rfl) (fun _ _ _ h => h) (Or.inl ⟨by kernel_rfl, fun W hW => ?_⟩) (fun inv => ?_)
  rotate_left
  · have z0 := (CX.out _ hW).cell 0 _ rfl
    have z1 := (CX.out _ hW).cell 1 _ rfl
    have z2 := (CX.out _ hW).cell 2 _ rfl
    have z3 := (CX.out _ hW).cell 3 _ rfl
    go_simp
    try with_reducible rfl
  try simp only [Act.put, List.setIfInBounds_toArray, List.set_cons_zero, List.set_cons_succ]
  refine wpAnyS_take (i := 23) (v := ?_) G inv F1 (by decide) rfl (by kernel_rfl) (by kernel_rfl) (fun _ _ _ h => h) (Or.inl ⟨by kernel_rfl, fun W hW => ?_⟩) (fun inv => ?_)
  rotate_left
  · have z0 := (CX.out _ hW).cell 0 _ rfl
    have z1 := (CX.out _ hW).cell 1 _ rfl
    have z2 := (CX.out _ hW).cell 2 _ rfl
    have z3 := (CX.out _ hW).cell 3 _ rfl
    go_simp
    try with_reducible rfl
  try simp only [Act.put, List.setIfInBounds_toArray, List.set_cons_zero, List.set_cons_succ]
  refine wpAnyS_take (i := 24) (v := ?_) G inv F1 (by decide) rfl (by kernel_rfl) (by kernel_rfl) (fun _ _ _ h => h) (Or.inl ⟨by kernel_rfl, fun W hW => ?_⟩) (fun inv => ?_)
  rotate_left
  · have z0 := (CX.out _ hW).cell 0 _ rfl
    have z1 := (CX.out _ hW).cell 1 _ rfl
    have z2 := (CX.out _ hW).cell 2 _ rfl
    have z3 := (CX.out _ hW).cell 3 _ rfl
    go_simp
    try with_reducible rfl
  try simp only [Act.put, List.setIfInBounds_toArray, List.set_cons_zero, List.set_cons_succ]
  refine wpAnyS_take (i := 25) (v := ?_) G inv F1 (by decide) rfl (by kernel_rfl) (by kernel_rfl) (fun _ _ _ h => h) (Or.inl ⟨by kernel_rfl, fun W hW => ?_⟩) (fun inv => ?_)
  rotate_left
  · have z0 := (CX.out _ hW).cell 0 _ rfl
    have z1 := (CX.out _ hW).cell 1 _ rfl
    have z2 := (CX.out _ hW).cell 2 _ rfl
    have z3 := (CX.out _ hW).cell 3 _ rfl
    go_simp
    try with_reducible rfl
  try simp only [Act.put, List.setIfInBounds_toArray, List.set_cons_zero, List.set_cons_succ]
  refine wpAnyS_take (i := 26) (v := ?_) G inv F1 (by decide) rfl (by kernel_rfl) (by kernel_rfl) (fun _ _ _ h => h) (Or.inl ⟨by kernel_rfl, fun W hW => ?_⟩) (fun inv => ?_)
  rotate_left
  · have z0 := (CX.out _ hW).cell 0 _ rfl
    have z1 := (CX.out _ hW).cell 1 _ rfl
    have z2 := (CX.out _ hW).cell 2 _ rfl
    have z3 := (CX.out _ hW).cell 3 _ rfl
    go_simp
    try with_reducible rfl
  try simp only [Act.put, List.setIfInBounds_toArray, List.set_cons_zero, List.set_cons_succ]
  refine wpAnyS_take (i := 28) (v := ?_) G inv F1 (by decide) rfl (by kernel_rfl) (by kernel_rfl) (fun _ _ _ h => h) (Or.inl ⟨by kernel_rfl, fun W hW => ?_⟩) (fun inv => ?_)
  rotate_left
  · have z0 := (CX.out _ hW).cell 0 _ rfl
    have z1 := (CX.out _ hW).cell 1 _ rfl
    have z2 := (CX.out _ hW).cell 2 _ rfl
    have z3 := (CX.out _ hW).cell 3 _ rfl
    go_simp
    try with_reducible rfl
  try simp only [Act.put, List.setIfInBounds_toArray, List.set_cons_zero, List.set_cons_succ]
  refine wpAnyS_take (i := 29) (v := ?_) G inv F1 (by decide) rfl (by kernel_rfl) (by kernel_rfl) (fun _ _ _ h => h) (Or.inl ⟨by kernel_rfl, fun W hW => ?_⟩) (fun inv => ?_)
  rotate_left
  · have z0 := (CX.out _ hW).cell 0 _ rfl
    have z1 := (CX.out _ hW).cell 1 _ rfl
    have z2 := (CX.out _ hW).cell 2 _ rfl
    have z3 := (CX.out _ hW).cell 3 _ rfl
    go_simp
    try with_reducible rfl
  try simp only [Act.put, List.setIfInBounds_toArray, List.set_cons_zero, List.set_cons_succ]
  refine wpAnyS_take (i := 30) (v := ?_) G inv F1 (by decide) rfl (by kernel_rfl) (by kernel_rfl) (fun _ _ _ h => h) (Or.inl ⟨by kernel_rfl, fun W hW => ?_⟩) (fun inv => ?_)
  rotate_left
  · have z0 := (CX.out _ hW).cell 0 _ rfl
    have z1 := (CX.out _ hW).cell 1 _ rfl
    have z2 := (CX.out _ hW).cell 2 _ rfl
    have z3 := (CX.out _ hW).cell 3 _ rfl
    go_simp
    try with_reducible rfl
  try simp only [Act.put, List.setIfInBounds_toArray, List.set_cons_zero, List.set_cons_succ]
  refine wpAnyS_take (i := 31) (v := ?_) G inv F1 (by decide) rfl (by kernel_rfl) (by kernel_rfl) (fun _ _ _ h => h) (Or.inl ⟨by kernel_rfl, fun W hW => ?_⟩) (fun inv => ?_)
  rotate_left
  · have z0 := (CX.out _ hW).cell 0 _ rfl
    have z1 := (CX.out _ hW).cell 1 _ rfl
    have z2 := (CX.out _ hW).cell 2 _ rfl
    have z3 := (CX.out _ hW).cell 3 _ rfl
    go_simp
    try with_reducible rfl
  try simp only [Act.put, List.setIfInBounds_toArray, List.set_cons_zero, List.set_cons_succ]
  refine wpAnyS_stepH (i := 27) (by kernel_rfl) rfl (by kernel_rfl) ?_
  go_wp2_with (go_at_call 83; refine (HE.out _ (HA.out.next (CB.out _ F1))).mono ?_; rintro e w2 ⟨A2, k2, cap2, rfl, rfl, hb, hE⟩)
  have F2 : Φ w2 := SP.out _ _ F1 hb
  have HE2 := Lib.hid hE.rr
  clear hb hE
  change (27 ≠ 34 → Φ w2) ∧ _
  refine ⟨fun _ => F2, ?_⟩
  have inv := HeadInv.setD (i := 27) inv (by kernel_rfl) (by decide)
  refine wpAnyS_stepH (i := 32) (by kernel_rfl) rfl (by kernel_rfl) ?_
  go_wp2_with (go_at_call 109; refine (HQ.out _ _ HE2.out (HA.out.next (CB.out _ F2))).mono ?_; rintro e w3 ⟨rfl, hb⟩)
  have F3 : Φ w3 := SP.out _ _ F2 hb
  clear hb
  change (32 ≠ 34 → Φ w3) ∧ _
  refine ⟨fun _ => F3, ?_⟩
  have inv := HeadInv.setD (i := 32) inv (by kernel_rfl) (by decide)
  refine wpAnyS_take (i := 33) (v := ?_) G inv F3 (by decide) rfl (by kernel_rfl) (by kernel_rfl) (fun _ _ _ h => h) (Or.inl ⟨by kernel_rfl, fun W hW => ?_⟩) (fun inv => ?_)
  rotate_left
  · have z0 := (CX.out _ hW).cell 0 _ rfl
    have z1 := (CX.out _ hW).cell 1 _ rfl
    have z2 := (CX.out _ hW).cell 2 _ rfl
    have z3 := (CX.out _ hW).cell 3 _ rfl
    go_simp
    try with_reducible rfl
  try simp only [Act.put, List.setIfInBounds_toArray, List.set_cons_zero, List.set_cons_succ]
  refine wpAnyS_step (i := 34) (by kernel_rfl) rfl ?_
  go_wp2
  refine ⟨fun h => absurd rfl h, ?_⟩
  refine wpAnyS_done (by kernel_rfl) ?_ _
  have HB := Lib.hid (CB.out _ F3)
  clear F1 F2 F3 hS inv G
  go_wp2_with fail
  go_ret
  exact ⟨rfl, HB.out⟩

theorem l04Ok_any (d p l : Int) (v : Value) (rows : List (List Int)) (w : World) (q : Nat) (hX : LB w q (codL d p l v)) (hA : RR w v rows) :
    Calls Try.prog 63 #[.pointer (some ⟨q, 0, none⟩)] w fun e w' => e = .returned (.bool (fValidCode d p l rows)) ∧ Below w.heap.size w w' := by
  obtain ⟨A, cap, rfl⟩ := hA.is
  rcases cRows_cases d p l rows with h | h
  · obtain ⟨m, P, N, len, rfl, rfl, rfl, hN, hF, hl0, hl5, h10, hok⟩ := cRows_zero h
    rw [fValidCode_yes hN h]
    exact l04Ok_yes m P N len hN hF hl0 hl5 A _ cap rows h10 hok h w q hX hA
  · obtain ⟨c, hc⟩ : ∃ c, cRows d p l rows = c := ⟨_, rfl⟩
    rw [hc] at h
    rw [fValidCode_no hc (by omega)]
    exact l04Ok_no d p l c h A _ cap rows hc w q hX hA

end Go.Proofs.Ytljaabmemjehpaa
namespace Go.Proofs.Ytljaabmemjehpaa
open Go.RowKit Go.Joins Go.ChangeShapes Go.WideShapes Go.Deep
set_option linter.unusedVariables false
set_option linter.unusedSimpArgs false

set_option maxRecDepth 100000 in
set_option maxHeartbeats 12800000 in
theorem codeFor_no (d p l c : Int) (hl : -9223372036854775808 ≤ p) (hh : p ≤ 9223372036854775807) (hc : c = 1 ∨ c = 2) (A : Option Addr) (n cap : Nat) (rows : List (List Int)) (hr : cRows d p l rows = c) (w : World) (hA : RR w (.slice A n cap) rows) :
    Calls Try.prog 68 #[.agg (codL d p l (.slice A n cap)).toArray] w fun e w' => e = .returned (.tuple #[.pointer none, .int .i64 1]) ∧ Below w.heap.size w w' := by
  have HR := Lib.hid (fun W a => coderFor_no hl hh hr (.slice A n cap) W a)
  have HA := Lib.hid hA
  have HG := Lib.hid (G1.start w (codL d p l (.slice A n cap)) 33)
  clear hA hr
  obtain ⟨Φ, hΦ⟩ : ∃ Φ : World → Prop, Φ = fun W => G1 w (codL d p l (.slice A n cap)) W := ⟨_, rfl⟩
  have SP : Hid (∀ W W', Φ W → Below W.heap.size W W' → Φ W') := Lib.hid fun W W' h hb => by
    rw [hΦ] at h ⊢; exact h.next hb
  have CX : Hid (∀ W, Φ W → LB W w.heap.size [.int .i64 d, .int .i64 p, .int .i64 l, .slice A n cap]) := Lib.hid fun W h => by rw [hΦ] at h; exact h.x
  have CB : Hid (∀ W, Φ W → Below w.heap.size w W) := Lib.hid fun W h => by rw [hΦ] at h; exact h.b
  have CI : Hid (∀ W, G1 w (codL d p l (.slice A n cap)) W → Φ W) := Lib.hid fun W h => by rw [hΦ]; exact h
  clear hΦ
  rcases hc with rfl | rfl
  all_goals
    go_enter Try.func68, Try.ntmps68
    have y0 := HG.out.x.cell 0 _ rfl; have y1 := HG.out.x.cell 1 _ rfl; have y2 := HG.out.x.cell 2 _ rfl; have y3 := HG.out.x.cell 3 _ rfl
    go_wp2_with fail
    refine (HR.out _ (HA.out.next HG.out.b)).mono ?_
    rintro e w1 ⟨o, rfl, hb⟩
    have F0 : Φ w1.drew := CI.out _ (HG.out.next hb).drew
    clear hb y0 y1 y2 y3
    go_wp2_with fail
    refine wp_region_S (n := 8) (S := Φ) (by kernel_rfl) (by kernel_rfl) F0 (fun G inv hS => ?_)
    refine wpAnyS_take (i := 0) (v := ?_) G inv hS (by decide) rfl (by kernel_rfl) (by kernel_rfl) (fun _ _ _ h => h) (Or.inl ⟨by kernel_rfl, fun W hW => ?_⟩) (fun inv => ?_)
    rotate_left
    · have z0 := (CX.out _ hW).cell 0 _ rfl
      have z1 := (CX.out _ hW).cell 1 _ rfl
      have z2 := (CX.out _ hW).cell 2 _ rfl
      have z3 := (CX.out _ hW).cell 3 _ rfl
      go_simp
      try with_reducible rfl
    try simp only [Act.put, List.setIfInBounds_toArray, List.set_cons_zero, List.set_cons_succ]
    refine wpAnyS_take (i := 1) (v := .bool true) G inv hS (by decide) rfl (by kernel_rfl) (by kernel_rfl) (fun _ _ _ h => h) (Or.inl ⟨by kernel_rfl, fun W hW => ?_⟩) (fun inv => ?_)
    skip
    · have z0 := (CX.out _ hW).cell 0 _ rfl
      have z1 := (CX.out _ hW).cell 1 _ rfl
      have z2 := (CX.out _ hW).cell 2 _ rfl
      have z3 := (CX.out _ hW).cell 3 _ rfl
      go_simp
      try with_reducible rfl
    try simp only [Act.put, List.setIfInBounds_toArray, List.set_cons_zero, List.set_cons_succ]
    refine wpAnyS_take (i := 2) (v := .bool true) G inv hS (by decide) rfl (by kernel_rfl) (by kernel_rfl) (fun _ _ _ h => h) (Or.inl ⟨by kernel_rfl, fun W hW => ?_⟩) (fun inv => ?_)
    skip
    · have z0 := (CX.out _ hW).cell 0 _ rfl
      have z1 := (CX.out _ hW).cell 1 _ rfl
      have z2 := (CX.out _ hW).cell 2 _ rfl
      have z3 := (CX.out _ hW).cell 3 _ rfl
      go_simp
      try with_reducible rfl
    try simp only [Act.put, List.setIfInBounds_toArray, List.set_cons_zero, List.set_cons_succ]
    refine wpAnyS_take (i := 3) (v := undef) G inv hS (by decide) rfl (by kernel_rfl) (by kernel_rfl) (fun _ _ _ h => h) (Or.inr ⟨by kernel_rfl, rfl⟩) (fun inv => ?_)
    try simp only [Act.put, List.setIfInBounds_toArray, List.set_cons_zero, List.set_cons_succ]
    refine wpAnyS_take (i := 4) (v := undef) G inv hS (by decide) rfl (by kernel_rfl) (by kernel_rfl) (fun _ _ _ h => h) (Or.inr ⟨by kernel_rfl, rfl⟩) (fun inv => ?_)
    try simp only [Act.put, List.setIfInBounds_toArray, List.set_cons_zero, List.set_cons_succ]
    refine wpAnyS_take (i := 5) (v := undef) G inv hS (by decide) rfl (by kernel_rfl) (by kernel_rfl) (fun _ _ _ h => h) (Or.inr ⟨by kernel_rfl, rfl⟩) (fun inv => ?_)
    try simp only [Act.put, List.setIfInBounds_toArray, List.set_cons_zero, List.set_cons_succ]
    refine wpAnyS_take (i := 6) (v := undef) G inv hS (by decide) rfl (by kernel_rfl) (by kernel_rfl) (fun _ _ _ h => h) (Or.inr ⟨by kernel_rfl, rfl⟩) (fun inv => ?_)
    try simp only [Act.put, List.setIfInBounds_toArray, List.set_cons_zero, List.set_cons_succ]
    refine wpAnyS_take (i := 7) (v := undef) G inv hS (by decide) rfl (by kernel_rfl) (by kernel_rfl) (fun _ _ _ h => h) (Or.inr ⟨by kernel_rfl, rfl⟩) (fun inv => ?_)
    try simp only [Act.put, List.setIfInBounds_toArray, List.set_cons_zero, List.set_cons_succ]
    refine wpAnyS_step (i := 8) (by kernel_rfl) rfl ?_
    go_wp2
    refine ⟨fun h => absurd rfl h, ?_⟩
    refine wpAnyS_done (by kernel_rfl) ?_ _
    have HB := Lib.hid (CB.out _ hS)
    clear hS inv G F0
    go_wp2_with fail
    go_ret2
    exact ⟨rfl, HB.out⟩

set_option maxRecDepth 100000 in
set_option maxHeartbeats 12800000 in
theorem codeFor_yes (m P N len : Nat) (hN : 2 ^ m = N) (hF : Fld m P N) (hl0 : 0 < len) (hl5 : len ≤ 5) (hh : (P : Int) ≤ 9223372036854775807) (A : Option Addr) (n cap : Nat) (rows : List (List Int)) (h10 : rows.length ≤ 10) (hok : okS N len rows = true) (h0 : cRows m P len rows = 0) (w : World) (hA : RR w (.slice A n cap) rows) :
    Calls Try.prog 68 #[.agg (codL m P len (.slice A n cap)).toArray] w fun e w' => ((echL P N len rows ≠ rows ∧ e = .returned (.tuple #[.pointer none, .int .i64 1])) ∨ (echL P N len rows = rows ∧ ∃ q, e = .returned (.tuple #[.pointer (some ⟨q, 0, none⟩), .int .i64 0]) ∧ KO w' w.heap.size m P N len rows q)) ∧ Below w.heap.size w w' := by
  have HR := Lib.hid (fun W a => coderFor_ok hN h0 hh (.slice A n cap) W a)
  have HE := Lib.hid (fun B0 q W a => code_ko hF hl0 hl5 h10 hok (B0 := B0) (q := q) W a)
  obtain ⟨r, hr⟩ : ∃ r, echL P N len rows = r := ⟨_, rfl⟩
  rw [hr] at HE ⊢
  have hQ : ∀ W v, RR W v r → RR W (.slice A n cap) rows → _ := fun W v a b => implSameCode_any (m : Int) P len (.slice A n cap) rows (m : Int) P len v r W b a
  obtain ⟨t, ht⟩ : ∃ t, fSameCode m P len rows m P len r = t := ⟨_, rfl⟩
  rw [ht] at hQ
  have HT : Hid (t = true ↔ r = rows) := Lib.hid (by rw [← ht]; rw [fSameCode]; simp; exact eq_comm)
  have HQ := Lib.hid hQ
  have HA := Lib.hid hA
  have HG := Lib.hid (G1.start w (codL m P len (.slice A n cap)) 33)
  clear hA hr hQ ht h0 hok hF hN h10
  go_enter Try.func68, Try.ntmps68
  have y0 := HG.out.x.cell 0 _ rfl; have y1 := HG.out.x.cell 1 _ rfl; have y2 := HG.out.x.cell 2 _ rfl; have y3 := HG.out.x.cell 3 _ rfl
  go_wp2_with fail
  refine (HR.out _ (HA.out.next HG.out.b)).mono ?_
  rintro e w1 ⟨q, rfl, hb, hK⟩
  have HZ := Lib.hid HG.out.z
  obtain ⟨Φ, hΦ⟩ : ∃ Φ : World → Prop, Φ = fun W => G1 w (codL m P len (.slice A n cap)) W ∧ KO W w.heap.size m P N len rows q := ⟨_, rfl⟩
  have F0 : Φ w1.drew := by
    rw [hΦ]
    refine ⟨(HG.out.next hb).drew, ?_⟩
    obtain ⟨c, n, v, hs, vs, b, k0, k1, k2, k3⟩ := hK.ex
    exact ⟨c, n, v, hs, vs, b, by have := HG.out.z; omega, k1, k2.next (Below.refl _ w1).drew, k3⟩
  have SP : Hid (∀ W W', Φ W → Below W.heap.size W W' → Φ W') := Lib.hid fun W W' h hb => by
    rw [hΦ] at h ⊢; exact ⟨h.1.next hb, h.2.next hb⟩
  have CX : Hid (∀ W, Φ W → LB W w.heap.size [.int .i64 (m : Int), .int .i64 (P : Int), .int .i64 (len : Int), .slice A n cap]) := Lib.hid fun W h => by rw [hΦ] at h; exact h.1.x
  have CB : Hid (∀ W, Φ W → Below w.heap.size w W) := Lib.hid fun W h => by rw [hΦ] at h; exact h.1.b
  have CK : Hid (∀ W, Φ W → KO W w.heap.size m P N len rows q) := Lib.hid fun W h => by rw [hΦ] at h; exact h.2
  clear hb y0 y1 y2 y3 hΦ hK
  go_wp2_with fail
  refine wp_region_S (n := 8) (S := Φ) (by kernel_rfl) (by kernel_rfl) F0 (fun G inv hS => ?_)
  refine wpAnyS_take (i := 0) (v := ?_) G inv hS (by decide) rfl (by kernel_rfl) (by kernel_rfl) (fun _ _ _ h => h) (Or.inl ⟨by kernel_rfl, fun W hW => ?_⟩) (fun inv => ?_)
  rotate_left
  · have z0 := (CX.out _ hW).cell 0 _ rfl
    have z1 := (CX.out _ hW).cell 1 _ rfl
    have z2 := (CX.out _ hW).cell 2 _ rfl
    have z3 := (CX.out _ hW).cell 3 _ rfl
    go_simp
    try with_reducible rfl
  try simp only [Act.put, List.setIfInBounds_toArray, List.set_cons_zero, List.set_cons_succ]
  refine wpAnyS_take (i := 1) (v := .bool false) G inv hS (by decide) rfl (by kernel_rfl) (by kernel_rfl) (fun _ _ _ h => h) (Or.inl ⟨by kernel_rfl, fun W hW => ?_⟩) (fun inv => ?_)
  skip
  · have z0 := (CX.out _ hW).cell 0 _ rfl
    have z1 := (CX.out _ hW).cell 1 _ rfl
    have z2 := (CX.out _ hW).cell 2 _ rfl
    have z3 := (CX.out _ hW).cell 3 _ rfl
    go_simp
    try with_reducible rfl
  try simp only [Act.put, List.setIfInBounds_toArray, List.set_cons_zero, List.set_cons_succ]
  refine wpAnyS_take (i := 2) (v := .bool false) G inv hS (by decide) rfl (by kernel_rfl) (by kernel_rfl) (fun _ _ _ h => h) (Or.inl ⟨by kernel_rfl, fun W hW => ?_⟩) (fun inv => ?_)
  skip
  · have z0 := (CX.out _ hW).cell 0 _ rfl
    have z1 := (CX.out _ hW).cell 1 _ rfl
    have z2 := (CX.out _ hW).cell 2 _ rfl
    have z3 := (CX.out _ hW).cell 3 _ rfl
    go_simp
    try with_reducible rfl
  try simp only [Act.put, List.setIfInBounds_toArray, List.set_cons_zero, List.set_cons_succ]
  refine wpAnyS_take (i := 3) (v := ?_) G inv hS (by decide) rfl (by kernel_rfl) (by kernel_rfl) (fun _ _ _ h => h) (Or.inl ⟨by kernel_rfl, fun W hW => ?_⟩) (fun inv => ?_)
  rotate_left
  · have z0 := (CX.out _ hW).cell 0 _ rfl
    have z1 := (CX.out _ hW).cell 1 _ rfl
    have z2 := (CX.out _ hW).cell 2 _ rfl
    have z3 := (CX.out _ hW).cell 3 _ rfl
    go_simp
    try with_reducible rfl
  try simp only [Act.put, List.setIfInBounds_toArray, List.set_cons_zero, List.set_cons_succ]
  refine wpAnyS_take (i := 4) (v := ?_) G inv hS (by decide) rfl (by kernel_rfl) (by kernel_rfl) (fun _ _ _ h => h) (Or.inl ⟨by kernel_rfl, fun W hW => ?_⟩) (fun inv => ?_)
  rotate_left
  · have z0 := (CX.out _ hW).cell 0 _ rfl
    have z1 := (CX.out _ hW).cell 1 _ rfl
    have z2 := (CX.out _ hW).cell 2 _ rfl
    have z3 := (CX.out _ hW).cell 3 _ rfl
    go_simp
    try with_reducible rfl
  try simp only [Act.put, List.setIfInBounds_toArray, List.set_cons_zero, List.set_cons_succ]
  refine wpAnyS_stepH (i := 5) (by kernel_rfl) rfl (by kernel_rfl) ?_
  go_wp2_with (go_at_call 85; refine (HE.out _ _ _ (CK.out _ hS)).mono ?_; rintro e w2 ⟨v2, rfl, hb, hE⟩)
  have F2 : Φ w2 := SP.out _ _ hS hb
  have HE2 := Lib.hid hE.rr
  clear hb hE
  change (5 ≠ 8 → Φ w2) ∧ _
  refine ⟨fun _ => F2, ?_⟩
  have inv := HeadInv.setD (i := 5) inv (by kernel_rfl) (by decide)
  refine wpAnyS_stepH (i := 6) (by kernel_rfl) rfl (by kernel_rfl) ?_
  go_wp2_with (go_at_call 114; refine (HQ.out _ _ HE2.out (HA.out.next (CB.out _ F2))).mono ?_; rintro e w3 ⟨rfl, hb⟩)
  have F3 : Φ w3 := SP.out _ _ F2 hb
  clear hb
  change (6 ≠ 8 → Φ w3) ∧ _
  refine ⟨fun _ => F3, ?_⟩
  have inv := HeadInv.setD (i := 6) inv (by kernel_rfl) (by decide)
  refine wpAnyS_take (i := 7) (v := ?_) G inv F3 (by decide) rfl (by kernel_rfl) (by kernel_rfl) (fun _ _ _ h => h) (Or.inl ⟨by kernel_rfl, fun W hW => ?_⟩) (fun inv => ?_)
  rotate_left
  · have z0 := (CX.out _ hW).cell 0 _ rfl
    have z1 := (CX.out _ hW).cell 1 _ rfl
    have z2 := (CX.out _ hW).cell 2 _ rfl
    have z3 := (CX.out _ hW).cell 3 _ rfl
    go_simp
    try with_reducible rfl
  try simp only [Act.put, List.setIfInBounds_toArray, List.set_cons_zero, List.set_cons_succ]
  refine wpAnyS_step (i := 8) (by kernel_rfl) rfl ?_
  go_wp2
  refine ⟨fun h => absurd rfl h, ?_⟩
  refine wpAnyS_done (by kernel_rfl) ?_ _
  have HB := Lib.hid (CB.out _ F3)
  have HK := Lib.hid (CK.out _ F3)
  clear F0 F2 F3 hS inv G
  cases t with
  | false =>
    have hE : r ≠ rows := fun e => Bool.noConfusion (HT.out.2 e)
    have HE := Lib.hid hE
    clear HT hE
    go_wp2_with fail
    go_ret2
    exact ⟨.inl ⟨HE.out, rfl⟩, HB.out⟩
  | true =>
    have HE := Lib.hid (HT.out.1 rfl)
    clear HT
    go_wp2_with fail
    go_ret2
    exact ⟨.inr ⟨HE.out, q, rfl, HK.out⟩, HB.out⟩

/-- What codeFor gives, by whether the code is valid. -/
theorem codeFor_any (d p l : Int) (hl : -9223372036854775808 ≤ p) (hh : p ≤ 9223372036854775807) (v : Value) (rows : List (List Int)) (w : World) (hA : RR w v rows) :
    Calls Try.prog 68 #[.agg (codL d p l v).toArray] w fun e w' => ∃ o, e = .returned (.tuple #[.pointer o, .int .i64 (if fValidCode d p l rows = true then 0 else 1)]) ∧ Below w.heap.size w w' ∧ (fValidCode d p l rows = true → ∃ q, o = some ⟨q, 0, none⟩ ∧ ∀ m P N len : Nat, d = m → p = P → l = len → 2 ^ m = N → KO w' w.heap.size m P N len rows q) := by
  obtain ⟨A, cap, rfl⟩ := hA.is
  rcases cRows_cases d p l rows with h | h
  · obtain ⟨m, P, N, len, rfl, rfl, rfl, hN, hF, hl0, hl5, h10, hok⟩ := cRows_zero h
    rw [fValidCode_yes hN h]
    refine (codeFor_yes m P N len hN hF hl0 hl5 hh A _ cap rows h10 hok h w hA).mono ?_
    rintro e w' ⟨⟨h1, rfl⟩ | ⟨h1, q, rfl, hK⟩, hb⟩
    · rw [decide_eq_false h1]
      exact ⟨none, rfl, hb, fun h => by cases h⟩
    · rw [decide_eq_true h1]
      refine ⟨_, rfl, hb, fun _ => ⟨q, rfl, fun m' P' N' len' e1 e2 e3 e4 => ?_⟩⟩
      obtain rfl : m = m' := by omega
      obtain rfl : P = P' := by omega
      obtain rfl : len = len' := by omega
      subst hN
      subst e4
      exact hK
  · obtain ⟨c, hc⟩ : ∃ c, cRows d p l rows = c := ⟨_, rfl⟩
    rw [hc] at h
    rw [fValidCode_no hc (by omega)]
    refine (codeFor_no d p l c hl hh h A _ cap rows hc w hA).mono ?_
    rintro e w' ⟨rfl, hb⟩
    exact ⟨none, rfl, hb, fun h => by cases h⟩

end Go.Proofs.Ytljaabmemjehpaa
