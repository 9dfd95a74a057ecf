/- Whether a code is valid. -/
import Derived.Test.YtfpahdbkcdpchaaFieldEchelon
import Derived.Test.YtfpahdbkcdpchaaSameCode
namespace Go.Proofs.Ytfpahdbkcdpchaa
open Go.RowKit Go.Joins Go.ChangeShapes Go.WideShapes Go.Deep
set_option linter.unusedVariables false
set_option linter.unusedSimpArgs false

def fValidCode (d p l : Int) (rows : List (List Int)) : Bool := if cRows d p l rows = 0 then decide (echL (p.toNat) (2 ^ d.toNat) l.toNat rows = rows) else false
theorem fValidCode_no {d p l c : Int} {rows : List (List Int)} (hc : cRows d p l rows = c) (h : c ≠ 0) : fValidCode d p l rows = false := by rw [fValidCode, if_neg (by rw [hc]; exact h)]
theorem fValidCode_yes {m P N len : Nat} {rows : List (List Int)} (hN : 2 ^ m = N) (h0 : cRows m P len rows = 0) : fValidCode m P len rows = decide (echL P N len rows = rows) := by
  rw [fValidCode, if_pos h0, Int.toNat_natCast, Int.toNat_natCast, Int.toNat_natCast, hN]
theorem KO.next {W W' : World} {B0 m P N len : Nat} {rows : List (List Int)} {q : Nat} (h : KO W B0 m P N len rows q) (hb : Below W.heap.size W W') : KO W' B0 m P N len rows q := by
  obtain ⟨c, n, v, hs, vs, b, h0, h1, h2, h3⟩ := h.ex
  exact ⟨c, n, v, hs, vs, b, h0, h1, h2.next hb, h3⟩

set_option maxRecDepth 100000 in
set_option maxHeartbeats 12800000 in
theorem l04Ok_no (d p l c : Int) (hc : c = 1 ∨ c = 2) (A : Option Addr) (n cap : Nat) (rows : List (List Int)) (hr : cRows d p l rows = c) (w : World) (q : Nat) (hX : LB w q (codL d p l (.slice A n cap))) (hA : RR w (.slice A n cap) rows) :
    Calls Try.prog 64 #[.pointer (some ⟨q, 0, none⟩)] w fun e w' => e = .returned (.bool false) ∧ Below w.heap.size w w' := by
  have hR : ∀ W, RR W (.slice A n cap) rows → _ := fun W a => (l04Rows_any d p l rows W a)
  rw [hr] at hR
  have HR := Lib.hid hR
  have HA := Lib.hid hA
  obtain ⟨Φ, hΦ⟩ : ∃ Φ : World → Prop, Φ = fun W => LB W q (codL d p l (.slice A n cap)) ∧ Below w.heap.size w W := ⟨_, rfl⟩
  have F0 : Φ w.drew := by rw [hΦ]; exact ⟨hX.next (Below.refl _ w).drew, (Below.refl _ w).drew⟩
  have SP : Hid (∀ W W', Φ W → Below W.heap.size W W' → Φ W') := Lib.hid fun W W' h hb => by
    rw [hΦ] at h ⊢; exact ⟨h.1.next hb, h.2.trans (hb.mono h.2.size)⟩
  have CX : Hid (∀ W, Φ W → LB W q [.int .i64 d, .int .i64 p, .int .i64 l, .slice A n cap]) := Lib.hid fun W h => by rw [hΦ] at h; exact h.1
  have CB : Hid (∀ W, Φ W → Below w.heap.size w W) := Lib.hid fun W h => by rw [hΦ] at h; exact h.2
  clear hΦ hR hX hA hr
  rcases hc with rfl | rfl
  all_goals
    go_enter Try.func64, Try.ntmps64
    go_wp2_with fail
    refine wp_region_S (n := 34) (S := Φ) (by kernel_rfl) (by kernel_rfl) F0 (fun G inv hS => ?_)
    refine wpAnyS_take (i := 0) (v := ?_) G inv hS (by decide) rfl (by kernel_rfl) (by kernel_rfl) (fun _ _ _ h => h) (Or.inl ⟨by kernel_rfl, fun W hW => ?_⟩) (fun inv => ?_)
    rotate_left
    · have z0 := (CX.out _ hW).cell 0 _ rfl
      have z1 := (CX.out _ hW).cell 1 _ rfl
      have z2 := (CX.out _ hW).cell 2 _ rfl
      have z3 := (CX.out _ hW).cell 3 _ rfl
      go_simp
      try with_reducible rfl
    try simp only [Act.put, List.setIfInBounds_toArray, List.set_cons_zero, List.set_cons_succ]
    refine wpAnyS_take (i := 1) (v := ?_) G inv hS (by decide) rfl (by kernel_rfl) (by kernel_rfl) (fun _ _ _ h => h) (Or.inl ⟨by kernel_rfl, fun W hW => ?_⟩) (fun inv => ?_)
    rotate_left
    · have z0 := (CX.out _ hW).cell 0 _ rfl
      have z1 := (CX.out _ hW).cell 1 _ rfl
      have z2 := (CX.out _ hW).cell 2 _ rfl
      have z3 := (CX.out _ hW).cell 3 _ rfl
      go_simp
      try with_reducible rfl
    try simp only [Act.put, List.setIfInBounds_toArray, List.set_cons_zero, List.set_cons_succ]
    refine wpAnyS_take (i := 2) (v := ?_) G inv hS (by decide) rfl (by kernel_rfl) (by kernel_rfl) (fun _ _ _ h => h) (Or.inl ⟨by kernel_rfl, fun W hW => ?_⟩) (fun inv => ?_)
    rotate_left
    · have z0 := (CX.out _ hW).cell 0 _ rfl
      have z1 := (CX.out _ hW).cell 1 _ rfl
      have z2 := (CX.out _ hW).cell 2 _ rfl
      have z3 := (CX.out _ hW).cell 3 _ rfl
      go_simp
      try with_reducible rfl
    try simp only [Act.put, List.setIfInBounds_toArray, List.set_cons_zero, List.set_cons_succ]
    refine wpAnyS_take (i := 3) (v := ?_) G inv hS (by decide) rfl (by kernel_rfl) (by kernel_rfl) (fun _ _ _ h => h) (Or.inl ⟨by kernel_rfl, fun W hW => ?_⟩) (fun inv => ?_)
    rotate_left
    · have z0 := (CX.out _ hW).cell 0 _ rfl
      have z1 := (CX.out _ hW).cell 1 _ rfl
      have z2 := (CX.out _ hW).cell 2 _ rfl
      have z3 := (CX.out _ hW).cell 3 _ rfl
      go_simp
      try with_reducible rfl
    try simp only [Act.put, List.setIfInBounds_toArray, List.set_cons_zero, List.set_cons_succ]
    refine wpAnyS_take (i := 4) (v := ?_) G inv hS (by decide) rfl (by kernel_rfl) (by kernel_rfl) (fun _ _ _ h => h) (Or.inl ⟨by kernel_rfl, fun W hW => ?_⟩) (fun inv => ?_)
    rotate_left
    · have z0 := (CX.out _ hW).cell 0 _ rfl
      have z1 := (CX.out _ hW).cell 1 _ rfl
      have z2 := (CX.out _ hW).cell 2 _ rfl
      have z3 := (CX.out _ hW).cell 3 _ rfl
      go_simp
      try with_reducible rfl
    try simp only [Act.put, List.setIfInBounds_toArray, List.set_cons_zero, List.set_cons_succ]
    refine wpAnyS_take (i := 5) (v := ?_) G inv hS (by decide) rfl (by kernel_rfl) (by kernel_rfl) (fun _ _ _ h => h) (Or.inl ⟨by kernel_rfl, fun W hW => ?_⟩) (fun inv => ?_)
    rotate_left
    · have z0 := (CX.out _ hW).cell 0 _ rfl
      have z1 := (CX.out _ hW).cell 1 _ rfl
      have z2 := (CX.out _ hW).cell 2 _ rfl
      have z3 := (CX.out _ hW).cell 3 _ rfl
      go_simp
      try with_reducible rfl
    try simp only [Act.put, List.setIfInBounds_toArray, List.set_cons_zero, List.set_cons_succ]
    refine wpAnyS_take (i := 6) (v := ?_) G inv hS (by decide) rfl (by kernel_rfl) (by kernel_rfl) (fun _ _ _ h => h) (Or.inl ⟨by kernel_rfl, fun W hW => ?_⟩) (fun inv => ?_)
    rotate_left
    · have z0 := (CX.out _ hW).cell 0 _ rfl
      have z1 := (CX.out _ hW).cell 1 _ rfl
      have z2 := (CX.out _ hW).cell 2 _ rfl
      have z3 := (CX.out _ hW).cell 3 _ rfl
      go_simp
      try with_reducible rfl
    try simp only [Act.put, List.setIfInBounds_toArray, List.set_cons_zero, List.set_cons_succ]
    refine wpAnyS_take (i := 7) (v := ?_) G inv hS (by decide) rfl (by kernel_rfl) (by kernel_rfl) (fun _ _ _ h => h) (Or.inl ⟨by kernel_rfl, fun W hW => ?_⟩) (fun inv => ?_)
    rotate_left
    · have z0 := (CX.out _ hW).cell 0 _ rfl
      have z1 := (CX.out _ hW).cell 1 _ rfl
      have z2 := (CX.out _ hW).cell 2 _ rfl
      have z3 := (CX.out _ hW).cell 3 _ rfl
      go_simp
      try with_reducible rfl
    try simp only [Act.put, List.setIfInBounds_toArray, List.set_cons_zero, List.set_cons_succ]
    refine wpAnyS_take (i := 8) (v := ?_) G inv hS (by decide) rfl (by kernel_rfl) (by kernel_rfl) (fun _ _ _ h => h) (Or.inl ⟨by kernel_rfl, fun W hW => ?_⟩) (fun inv => ?_)
    rotate_left
    · have z0 := (CX.out _ hW).cell 0 _ rfl
      have z1 := (CX.out _ hW).cell 1 _ rfl
      have z2 := (CX.out _ hW).cell 2 _ rfl
      have z3 := (CX.out _ hW).cell 3 _ rfl
      go_simp
      try with_reducible rfl
    try simp only [Act.put, List.setIfInBounds_toArray, List.set_cons_zero, List.set_cons_succ]
    refine wpAnyS_take (i := 9) (v := ?_) G inv hS (by decide) rfl (by kernel_rfl) (by kernel_rfl) (fun _ _ _ h => h) (Or.inl ⟨by kernel_rfl, fun W hW => ?_⟩) (fun inv => ?_)
    rotate_left
    · have z0 := (CX.out _ hW).cell 0 _ rfl
      have z1 := (CX.out _ hW).cell 1 _ rfl
      have z2 := (CX.out _ hW).cell 2 _ rfl
      have z3 := (CX.out _ hW).cell 3 _ rfl
      go_simp
      try with_reducible rfl
    try simp only [Act.put, List.setIfInBounds_toArray, List.set_cons_zero, List.set_cons_succ]
    refine wpAnyS_take (i := 10) (v := ?_) G inv hS (by decide) rfl (by kernel_rfl) (by kernel_rfl) (fun _ _ _ h => h) (Or.inl ⟨by kernel_rfl, fun W hW => ?_⟩) (fun inv => ?_)
    rotate_left
    · have z0 := (CX.out _ hW).cell 0 _ rfl
      have z1 := (CX.out _ hW).cell 1 _ rfl
      have z2 := (CX.out _ hW).cell 2 _ rfl
      have z3 := (CX.out _ hW).cell 3 _ rfl
      go_simp
      try with_reducible rfl
    try simp only [Act.put, List.setIfInBounds_toArray, List.set_cons_zero, List.set_cons_succ]
    refine wpAnyS_take (i := 11) (v := ?_) G inv hS (by decide) rfl (by kernel_rfl) (by kernel_rfl) (fun _ _ _ h => h) (Or.inl ⟨by kernel_rfl, fun W hW => ?_⟩) (fun inv => ?_)
    rotate_left
    · have z0 := (CX.out _ hW).cell 0 _ rfl
      have z1 := (CX.out _ hW).cell 1 _ rfl
      have z2 := (CX.out _ hW).cell 2 _ rfl
      have z3 := (CX.out _ hW).cell 3 _ rfl
      go_simp
      try with_reducible rfl
    try simp only [Act.put, List.setIfInBounds_toArray, List.set_cons_zero, List.set_cons_succ]
    refine wpAnyS_step (i := 12) (by kernel_rfl) rfl ?_
    go_wp2_with (go_at_call 59; refine (HR.out _ (HA.out.next (CB.out _ hS))).mono ?_; rintro e w1 ⟨rfl, hb⟩)
    have F1 : Φ w1 := SP.out _ _ hS hb
    clear hb
    change (12 ≠ 34 → Φ w1) ∧ _
    refine ⟨fun _ => F1, ?_⟩
    have inv := HeadInv.setD (i := 12) inv (by kernel_rfl) (by decide)
    refine wpAnyS_take (i := 13) (v := .bool false) G inv F1 (by decide) rfl (by kernel_rfl) (by kernel_rfl) (fun _ _ _ h => h) (Or.inl ⟨by kernel_rfl, fun W hW => ?_⟩) (fun inv => ?_)
    skip
    · have z0 := (CX.out _ hW).cell 0 _ rfl
      have z1 := (CX.out _ hW).cell 1 _ rfl
      have z2 := (CX.out _ hW).cell 2 _ rfl
      have z3 := (CX.out _ hW).cell 3 _ rfl
      go_simp
      try with_reducible rfl
    try simp only [Act.put, List.setIfInBounds_toArray, List.set_cons_zero, List.set_cons_succ]
    refine wpAnyS_take (i := 14) (v := .bool false) G inv F1 (by decide) rfl (by kernel_rfl) (by kernel_rfl) (fun _ _ _ h => h) (Or.inl ⟨by kernel_rfl, fun W hW => ?_⟩) (fun inv => ?_)
    skip
    · have z0 := (CX.out _ hW).cell 0 _ rfl
      have z1 := (CX.out _ hW).cell 1 _ rfl
      have z2 := (CX.out _ hW).cell 2 _ rfl
      have z3 := (CX.out _ hW).cell 3 _ rfl
      go_simp
      try with_reducible rfl
    try simp only [Act.put, List.setIfInBounds_toArray, List.set_cons_zero, List.set_cons_succ]
    refine wpAnyS_take (i := 15) (v := undef) G inv F1 (by decide) rfl (by kernel_rfl) (by kernel_rfl) (fun _ _ _ h => h) (Or.inr ⟨by kernel_rfl, rfl⟩) (fun inv => ?_)
    try simp only [Act.put, List.setIfInBounds_toArray, List.set_cons_zero, List.set_cons_succ]
    refine wpAnyS_take (i := 16) (v := undef) G inv F1 (by decide) rfl (by kernel_rfl) (by kernel_rfl) (fun _ _ _ h => h) (Or.inr ⟨by kernel_rfl, rfl⟩) (fun inv => ?_)
    try simp only [Act.put, List.setIfInBounds_toArray, List.set_cons_zero, List.set_cons_succ]
    refine wpAnyS_take (i := 17) (v := undef) G inv F1 (by decide) rfl (by kernel_rfl) (by kernel_rfl) (fun _ _ _ h => h) (Or.inr ⟨by kernel_rfl, rfl⟩) (fun inv => ?_)
    try simp only [Act.put, List.setIfInBounds_toArray, List.set_cons_zero, List.set_cons_succ]
    refine wpAnyS_take (i := 18) (v := undef) G inv F1 (by decide) rfl (by kernel_rfl) (by kernel_rfl) (fun _ _ _ h => h) (Or.inr ⟨by kernel_rfl, rfl⟩) (fun inv => ?_)
    try simp only [Act.put, List.setIfInBounds_toArray, List.set_cons_zero, List.set_cons_succ]
    refine wpAnyS_take (i := 19) (v := undef) G inv F1 (by decide) rfl (by kernel_rfl) (by kernel_rfl) (fun _ _ _ h => h) (Or.inr ⟨by kernel_rfl, rfl⟩) (fun inv => ?_)
    try simp only [Act.put, List.setIfInBounds_toArray, List.set_cons_zero, List.set_cons_succ]
    refine wpAnyS_take (i := 20) (v := undef) G inv F1 (by decide) rfl (by kernel_rfl) (by kernel_rfl) (fun _ _ _ h => h) (Or.inr ⟨by kernel_rfl, rfl⟩) (fun inv => ?_)
    try simp only [Act.put, List.setIfInBounds_toArray, List.set_cons_zero, List.set_cons_succ]
    refine wpAnyS_take (i := 21) (v := undef) G inv F1 (by decide) rfl (by kernel_rfl) (by kernel_rfl) (fun _ _ _ h => h) (Or.inr ⟨by kernel_rfl, rfl⟩) (fun inv => ?_)
    try simp only [Act.put, List.setIfInBounds_toArray, List.set_cons_zero, List.set_cons_succ]
    refine wpAnyS_take (i := 22) (v := undef) G inv F1 (by decide) rfl (by kernel_rfl) (by kernel_rfl) (fun _ _ _ h => h) (Or.inr ⟨by kernel_rfl, rfl⟩) (fun inv => ?_)
    try simp only [Act.put, List.setIfInBounds_toArray, List.set_cons_zero, List.set_cons_succ]
    refine wpAnyS_take (i := 23) (v := undef) G inv F1 (by decide) rfl (by kernel_rfl) (by kernel_rfl) (fun _ _ _ h => h) (Or.inr ⟨by kernel_rfl, rfl⟩) (fun inv => ?_)
    try simp only [Act.put, List.setIfInBounds_toArray, List.set_cons_zero, List.set_cons_succ]
    refine wpAnyS_take (i := 24) (v := undef) G inv F1 (by decide) rfl (by kernel_rfl) (by kernel_rfl) (fun _ _ _ h => h) (Or.inr ⟨by kernel_rfl, rfl⟩) (fun inv => ?_)
    try simp only [Act.put, List.setIfInBounds_toArray, List.set_cons_zero, List.set_cons_succ]
    refine wpAnyS_take (i := 25) (v := undef) G inv F1 (by decide) rfl (by kernel_rfl) (by kernel_rfl) (fun _ _ _ h => h) (Or.inr ⟨by kernel_rfl, rfl⟩) (fun inv => ?_)
    try simp only [Act.put, List.setIfInBounds_toArray, List.set_cons_zero, List.set_cons_succ]
    refine wpAnyS_take (i := 26) (v := undef) G inv F1 (by decide) rfl (by kernel_rfl) (by kernel_rfl) (fun _ _ _ h => h) (Or.inr ⟨by kernel_rfl, rfl⟩) (fun inv => ?_)
    try simp only [Act.put, List.setIfInBounds_toArray, List.set_cons_zero, List.set_cons_succ]
    refine wpAnyS_take (i := 27) (v := undef) G inv F1 (by decide) rfl (by kernel_rfl) (by kernel_rfl) (fun _ _ _ h => h) (Or.inr ⟨by kernel_rfl, rfl⟩) (fun inv => ?_)
    try simp only [Act.put, List.setIfInBounds_toArray, List.set_cons_zero, List.set_cons_succ]
    refine wpAnyS_take (i := 28) (v := undef) G inv F1 (by decide) rfl (by kernel_rfl) (by kernel_rfl) (fun _ _ _ h => h) (Or.inr ⟨by kernel_rfl, rfl⟩) (fun inv => ?_)
    try simp only [Act.put, List.setIfInBounds_toArray, List.set_cons_zero, List.set_cons_succ]
    refine wpAnyS_take (i := 29) (v := undef) G inv F1 (by decide) rfl (by kernel_rfl) (by kernel_rfl) (fun _ _ _ h => h) (Or.inr ⟨by kernel_rfl, rfl⟩) (fun inv => ?_)
    try simp only [Act.put, List.setIfInBounds_toArray, List.set_cons_zero, List.set_cons_succ]
    refine wpAnyS_take (i := 30) (v := undef) G inv F1 (by decide) rfl (by kernel_rfl) (by kernel_rfl) (fun _ _ _ h => h) (Or.inr ⟨by kernel_rfl, rfl⟩) (fun inv => ?_)
    try simp only [Act.put, List.setIfInBounds_toArray, List.set_cons_zero, List.set_cons_succ]
    refine wpAnyS_take (i := 31) (v := undef) G inv F1 (by decide) rfl (by kernel_rfl) (by kernel_rfl) (fun _ _ _ h => h) (Or.inr ⟨by kernel_rfl, rfl⟩) (fun inv => ?_)
    try simp only [Act.put, List.setIfInBounds_toArray, List.set_cons_zero, List.set_cons_succ]
    refine wpAnyS_take (i := 32) (v := undef) G inv F1 (by decide) rfl (by kernel_rfl) (by kernel_rfl) (fun _ _ _ h => h) (Or.inr ⟨by kernel_rfl, rfl⟩) (fun inv => ?_)
    try simp only [Act.put, List.setIfInBounds_toArray, List.set_cons_zero, List.set_cons_succ]
    refine wpAnyS_take (i := 33) (v := ?_) G inv F1 (by decide) rfl (by kernel_rfl) (by kernel_rfl) (fun _ _ _ h => h) (Or.inl ⟨by kernel_rfl, fun W hW => ?_⟩) (fun inv => ?_)
    rotate_left
    · have z0 := (CX.out _ hW).cell 0 _ rfl
      have z1 := (CX.out _ hW).cell 1 _ rfl
      have z2 := (CX.out _ hW).cell 2 _ rfl
      have z3 := (CX.out _ hW).cell 3 _ rfl
      go_simp
      try with_reducible rfl
    try simp only [Act.put, List.setIfInBounds_toArray, List.set_cons_zero, List.set_cons_succ]
    refine wpAnyS_step (i := 34) (by kernel_rfl) rfl ?_
    go_wp2
    refine ⟨fun h => absurd rfl h, ?_⟩
    refine wpAnyS_done (by kernel_rfl) ?_ _
    have HB := Lib.hid (CB.out _ F1)
    clear F1 hS inv G
    go_wp2_with fail
    go_ret
    exact ⟨rfl, HB.out⟩

set_option maxRecDepth 100000 in
set_option maxHeartbeats 12800000 in
theorem l04Ok_yes (m P N len : Nat) (hN : 2 ^ m = N) (hF : Fld m P N) (hl0 : 0 < len) (hl5 : len ≤ 5) (A : Option Addr) (n cap : Nat) (rows : List (List Int)) (h10 : rows.length ≤ 10) (hok : okS N len rows = true) (h0 : cRows m P len rows = 0) (w : World) (q : Nat) (hX : LB w q (codL m P len (.slice A n cap))) (hA : RR w (.slice A n cap) rows) :
    Calls Try.prog 64 #[.pointer (some ⟨q, 0, none⟩)] w fun e w' => e = .returned (.bool (decide (echL P N len rows = rows))) ∧ Below w.heap.size w w' := by
  have hR : ∀ W, RR W (.slice A n cap) rows → _ := fun W a => (l04Rows_any (m : Int) P len rows W a)
  rw [h0] at hR
  have HR := Lib.hid hR
  have HE := Lib.hid (fun W a => l04Echelon_any m P N hF len hl0 hl5 (v := .slice A n cap) rows h10 hok W a)
  obtain ⟨r, hr⟩ : ∃ r, echL P N len rows = r := ⟨_, rfl⟩
  rw [hr] at HE ⊢
  have hQ : ∀ W v, RR W v r → RR W (.slice A n cap) rows → _ := fun W v a b => l04SameRowsR (w := W) (v := v) (v' := .slice A n cap) a b
  obtain ⟨t, ht⟩ : ∃ t, decide (r = rows) = t := ⟨_, rfl⟩
  rw [ht] at hQ ⊢
  have HQ := Lib.hid hQ
  have HA := Lib.hid hA
  obtain ⟨Φ, hΦ⟩ : ∃ Φ : World → Prop, Φ = fun W => LB W q (codL m P len (.slice A n cap)) ∧ Below w.heap.size w W := ⟨_, rfl⟩
  have F0 : Φ w.drew := by rw [hΦ]; exact ⟨hX.next (Below.refl _ w).drew, (Below.refl _ w).drew⟩
  have SP : Hid (∀ W W', Φ W → Below W.heap.size W W' → Φ W') := Lib.hid fun W W' h hb => by
    rw [hΦ] at h ⊢; exact ⟨h.1.next hb, h.2.trans (hb.mono h.2.size)⟩
  have CX : Hid (∀ W, Φ W → LB W q [.int .i64 (m : Int), .int .i64 (P : Int), .int .i64 (len : Int), .slice A n cap]) := Lib.hid fun W h => by rw [hΦ] at h; exact h.1
  have CB : Hid (∀ W, Φ W → Below w.heap.size w W) := Lib.hid fun W h => by rw [hΦ] at h; exact h.2
  clear hΦ hR hX hA hr hQ ht h0 hok hF hN h10
  go_enter Try.func64, Try.ntmps64
  go_wp2_with fail
  refine wp_region_S (n := 34) (S := Φ) (by kernel_rfl) (by kernel_rfl) F0 (fun G inv hS => ?_)
  refine wpAnyS_take (i := 0) (v := ?_) G inv hS (by decide) rfl (by kernel_rfl) (by kernel_rfl) (fun _ _ _ h => h) (Or.inl ⟨by kernel_rfl, fun W hW => ?_⟩) (fun inv => ?_)
  rotate_left
  · have z0 := (CX.out _ hW).cell 0 _ rfl
    have z1 := (CX.out _ hW).cell 1 _ rfl
    have z2 := (CX.out _ hW).cell 2 _ rfl
    have z3 := (CX.out _ hW).cell 3 _ rfl
    go_simp
    try with_reducible rfl
  try simp only [Act.put, List.setIfInBounds_toArray, List.set_cons_zero, List.set_cons_succ]
  refine wpAnyS_take (i := 1) (v := ?_) G inv hS (by decide) rfl (by kernel_rfl) (by kernel_rfl) (fun _ _ _ h => h) (Or.inl ⟨by kernel_rfl, fun W hW => ?_⟩) (fun inv => ?_)
  rotate_left
  · have z0 := (CX.out _ hW).cell 0 _ rfl
    have z1 := (CX.out _ hW).cell 1 _ rfl
    have z2 := (CX.out _ hW).cell 2 _ rfl
    have z3 := (CX.out _ hW).cell 3 _ rfl
    go_simp
    try with_reducible rfl
  try simp only [Act.put, List.setIfInBounds_toArray, List.set_cons_zero, List.set_cons_succ]
  refine wpAnyS_take (i := 2) (v := ?_) G inv hS (by decide) rfl (by kernel_rfl) (by kernel_rfl) (fun _ _ _ h => h) (Or.inl ⟨by kernel_rfl, fun W hW => ?_⟩) (fun inv => ?_)
  rotate_left
  · have z0 := (CX.out _ hW).cell 0 _ rfl
    have z1 := (CX.out _ hW).cell 1 _ rfl
    have z2 := (CX.out _ hW).cell 2 _ rfl
    have z3 := (CX.out _ hW).cell 3 _ rfl
    go_simp
    try with_reducible rfl
  try simp only [Act.put, List.setIfInBounds_toArray, List.set_cons_zero, List.set_cons_succ]
  refine wpAnyS_take (i := 3) (v := ?_) G inv hS (by decide) rfl (by kernel_rfl) (by kernel_rfl) (fun _ _ _ h => h) (Or.inl ⟨by kernel_rfl, fun W hW => ?_⟩) (fun inv => ?_)
  rotate_left
  · have z0 := (CX.out _ hW).cell 0 _ rfl
    have z1 := (CX.out _ hW).cell 1 _ rfl
    have z2 := (CX.out _ hW).cell 2 _ rfl
    have z3 := (CX.out _ hW).cell 3 _ rfl
    go_simp
    try with_reducible rfl
  try simp only [Act.put, List.setIfInBounds_toArray, List.set_cons_zero, List.set_cons_succ]
  refine wpAnyS_take (i := 4) (v := ?_) G inv hS (by decide) rfl (by kernel_rfl) (by kernel_rfl) (fun _ _ _ h => h) (Or.inl ⟨by kernel_rfl, fun W hW => ?_⟩) (fun inv => ?_)
  rotate_left
  · have z0 := (CX.out _ hW).cell 0 _ rfl
    have z1 := (CX.out _ hW).cell 1 _ rfl
    have z2 := (CX.out _ hW).cell 2 _ rfl
    have z3 := (CX.out _ hW).cell 3 _ rfl
    go_simp
    try with_reducible rfl
  try simp only [Act.put, List.setIfInBounds_toArray, List.set_cons_zero, List.set_cons_succ]
  refine wpAnyS_take (i := 5) (v := ?_) G inv hS (by decide) rfl (by kernel_rfl) (by kernel_rfl) (fun _ _ _ h => h) (Or.inl ⟨by kernel_rfl, fun W hW => ?_⟩) (fun inv => ?_)
  rotate_left
  · have z0 := (CX.out _ hW).cell 0 _ rfl
    have z1 := (CX.out _ hW).cell 1 _ rfl
    have z2 := (CX.out _ hW).cell 2 _ rfl
    have z3 := (CX.out _ hW).cell 3 _ rfl
    go_simp
    try with_reducible rfl
  try simp only [Act.put, List.setIfInBounds_toArray, List.set_cons_zero, List.set_cons_succ]
  refine wpAnyS_take (i := 6) (v := ?_) G inv hS (by decide) rfl (by kernel_rfl) (by kernel_rfl) (fun _ _ _ h => h) (Or.inl ⟨by kernel_rfl, fun W hW => ?_⟩) (fun inv => ?_)
  rotate_left
  · have z0 := (CX.out _ hW).cell 0 _ rfl
    have z1 := (CX.out _ hW).cell 1 _ rfl
    have z2 := (CX.out _ hW).cell 2 _ rfl
    have z3 := (CX.out _ hW).cell 3 _ rfl
    go_simp
    try with_reducible rfl
  try simp only [Act.put, List.setIfInBounds_toArray, List.set_cons_zero, List.set_cons_succ]
  refine wpAnyS_take (i := 7) (v := ?_) G inv hS (by decide) rfl (by kernel_rfl) (by kernel_rfl) (fun _ _ _ h => h) (Or.inl ⟨by kernel_rfl, fun W hW => ?_⟩) (fun inv => ?_)
  rotate_left
  · have z0 := (CX.out _ hW).cell 0 _ rfl
    have z1 := (CX.out _ hW).cell 1 _ rfl
    have z2 := (CX.out _ hW).cell 2 _ rfl
    have z3 := (CX.out _ hW).cell 3 _ rfl
    go_simp
    try with_reducible rfl
  try simp only [Act.put, List.setIfInBounds_toArray, List.set_cons_zero, List.set_cons_succ]
  refine wpAnyS_take (i := 8) (v := ?_) G inv hS (by decide) rfl (by kernel_rfl) (by kernel_rfl) (fun _ _ _ h => h) (Or.inl ⟨by kernel_rfl, fun W hW => ?_⟩) (fun inv => ?_)
  rotate_left
  · have z0 := (CX.out _ hW).cell 0 _ rfl
    have z1 := (CX.out _ hW).cell 1 _ rfl
    have z2 := (CX.out _ hW).cell 2 _ rfl
    have z3 := (CX.out _ hW).cell 3 _ rfl
    go_simp
    try with_reducible rfl
  try simp only [Act.put, List.setIfInBounds_toArray, List.set_cons_zero, List.set_cons_succ]
  refine wpAnyS_take (i := 9) (v := ?_) G inv hS (by decide) rfl (by kernel_rfl) (by kernel_rfl) (fun _ _ _ h => h) (Or.inl ⟨by kernel_rfl, fun W hW => ?_⟩) (fun inv => ?_)
  rotate_left
  · have z0 := (CX.out _ hW).cell 0 _ rfl
    have z1 := (CX.out _ hW).cell 1 _ rfl
    have z2 := (CX.out _ hW).cell 2 _ rfl
    have z3 := (CX.out _ hW).cell 3 _ rfl
    go_simp
    try with_reducible rfl
  try simp only [Act.put, List.setIfInBounds_toArray, List.set_cons_zero, List.set_cons_succ]
  refine wpAnyS_take (i := 10) (v := ?_) G inv hS (by decide) rfl (by kernel_rfl) (by kernel_rfl) (fun _ _ _ h => h) (Or.inl ⟨by kernel_rfl, fun W hW => ?_⟩) (fun inv => ?_)
  rotate_left
  · have z0 := (CX.out _ hW).cell 0 _ rfl
    have z1 := (CX.out _ hW).cell 1 _ rfl
    have z2 := (CX.out _ hW).cell 2 _ rfl
    have z3 := (CX.out _ hW).cell 3 _ rfl
    go_simp
    try with_reducible rfl
  try simp only [Act.put, List.setIfInBounds_toArray, List.set_cons_zero, List.set_cons_succ]
  refine wpAnyS_take (i := 11) (v := ?_) G inv hS (by decide) rfl (by kernel_rfl) (by kernel_rfl) (fun _ _ _ h => h) (Or.inl ⟨by kernel_rfl, fun W hW => ?_⟩) (fun inv => ?_)
  rotate_left
  · have z0 := (CX.out _ hW).cell 0 _ rfl
    have z1 := (CX.out _ hW).cell 1 _ rfl
    have z2 := (CX.out _ hW).cell 2 _ rfl
    have z3 := (CX.out _ hW).cell 3 _ rfl
    go_simp
    try with_reducible rfl
  try simp only [Act.put, List.setIfInBounds_toArray, List.set_cons_zero, List.set_cons_succ]
  refine wpAnyS_step (i := 12) (by kernel_rfl) rfl ?_
  go_wp2_with (go_at_call 59; refine (HR.out _ (HA.out.next (CB.out _ hS))).mono ?_; rintro e w1 ⟨rfl, hb⟩)
  have F1 : Φ w1 := SP.out _ _ hS hb
  clear hb
  change (12 ≠ 34 → Φ w1) ∧ _
  refine ⟨fun _ => F1, ?_⟩
  have inv := HeadInv.setD (i := 12) inv (by kernel_rfl) (by decide)
  refine wpAnyS_take (i := 13) (v := .bool true) G inv F1 (by decide) rfl (by kernel_rfl) (by kernel_rfl) (fun _ _ _ h => h) (Or.inl ⟨by kernel_rfl, fun W hW => ?_⟩) (fun inv => ?_)
  skip
  · have z0 := (CX.out _ hW).cell 0 _ rfl
    have z1 := (CX.out _ hW).cell 1 _ rfl
    have z2 := (CX.out _ hW).cell 2 _ rfl
    have z3 := (CX.out _ hW).cell 3 _ rfl
    go_simp
    try with_reducible rfl
  try simp only [Act.put, List.setIfInBounds_toArray, List.set_cons_zero, List.set_cons_succ]
  refine wpAnyS_take (i := 14) (v := .bool true) G inv F1 (by decide) rfl (by kernel_rfl) (by kernel_rfl) (fun _ _ _ h => h) (Or.inl ⟨by kernel_rfl, fun W hW => ?_⟩) (fun inv => ?_)
  skip
  · have z0 := (CX.out _ hW).cell 0 _ rfl
    have z1 := (CX.out _ hW).cell 1 _ rfl
    have z2 := (CX.out _ hW).cell 2 _ rfl
    have z3 := (CX.out _ hW).cell 3 _ rfl
    go_simp
    try with_reducible rfl
  try simp only [Act.put, List.setIfInBounds_toArray, List.set_cons_zero, List.set_cons_succ]
  refine wpAnyS_take (i := 15) (v := ?_) G inv F1 (by decide) rfl (by kernel_rfl) (by kernel_rfl) (fun _ _ _ h => h) (Or.inl ⟨by kernel_rfl, fun W hW => ?_⟩) (fun inv => ?_)
  rotate_left
  · have z0 := (CX.out _ hW).cell 0 _ rfl
    have z1 := (CX.out _ hW).cell 1 _ rfl
    have z2 := (CX.out _ hW).cell 2 _ rfl
    have z3 := (CX.out _ hW).cell 3 _ rfl
    go_simp
    try with_reducible rfl
  try simp only [Act.put, List.setIfInBounds_toArray, List.set_cons_zero, List.set_cons_succ]
  refine wpAnyS_take (i := 16) (v := ?_) G inv F1 (by decide) rfl (by kernel_rfl) (by kernel_rfl) (fun _ _ _ h => h) (Or.inl ⟨by kernel_rfl, fun W hW => ?_⟩) (fun inv => ?_)
  rotate_left
  · have z0 := (CX.out _ hW).cell 0 _ rfl
    have z1 := (CX.out _ hW).cell 1 _ rfl
    have z2 := (CX.out _ hW).cell 2 _ rfl
    have z3 := (CX.out _ hW).cell 3 _ rfl
    go_simp
    try with_reducible rfl
  try simp only [Act.put, List.setIfInBounds_toArray, List.set_cons_zero, List.set_cons_succ]
  refine wpAnyS_take (i := 17) (v := ?_) G inv F1 (by decide) rfl (by kernel_rfl) (by kernel_rfl) (fun _ _ _ h => h) (Or.inl ⟨by kernel_rfl, fun W hW => ?_⟩) (fun inv => ?_)
  rotate_left
  · have z0 := (CX.out _ hW).cell 0 _ rfl
    have z1 := (CX.out _ hW).cell 1 _ rfl
    have z2 := (CX.out _ hW).cell 2 _ rfl
    have z3 := (CX.out _ hW).cell 3 _ rfl
    go_simp
    try with_reducible rfl
  try simp only [Act.put, List.setIfInBounds_toArray, List.set_cons_zero, List.set_cons_succ]
  refine wpAnyS_take (i := 18) (v := ?_) G inv F1 (by decide) rfl (by kernel_rfl) (by kernel_rfl) (fun _ _ _ h => h) (Or.inl ⟨by kernel_rfl, fun W hW => ?_⟩) (fun inv => ?_)
  rotate_left
  · have z0 := (CX.out _ hW).cell 0 _ rfl
    have z1 := (CX.out _ hW).cell 1 _ rfl
    have z2 := (CX.out _ hW).cell 2 _ rfl
    have z3 := (CX.out _ hW).cell 3 _ rfl
    go_simp
    try with_reducible rfl
  try simp only [Act.put, List.setIfInBounds_toArray, List.set_cons_zero, List.set_cons_succ]
  refine wpAnyS_take (i := 19) (v := ?_) G inv F1 (by decide) rfl (by kernel_rfl) (by kernel_rfl) (fun _ _ _ h => h) (Or.inl ⟨by kernel_rfl, fun W hW => ?_⟩) (fun inv => ?_)
  rotate_left
  · have z0 := (CX.out _ hW).cell 0 _ rfl
    have z1 := (CX.out _ hW).cell 1 _ rfl
    have z2 := (CX.out _ hW).cell 2 _ rfl
    have z3 := (CX.out _ hW).cell 3 _ rfl
    go_simp
    try with_reducible rfl
  try simp only [Act.put, List.setIfInBounds_toArray, List.set_cons_zero, List.set_cons_succ]
  refine wpAnyS_take (i := 20) (v := ?_) G inv F1 (by decide) rfl (by kernel_rfl) (by kernel_rfl) (fun _ _ _ h => h) (Or.inl ⟨by kernel_rfl, fun W hW => ?_⟩) (fun inv => ?_)
  rotate_left
  · have z0 := (CX.out _ hW).cell 0 _ rfl
    have z1 := (CX.out _ hW).cell 1 _ rfl
    have z2 := (CX.out _ hW).cell 2 _ rfl
    have z3 := (CX.out _ hW).cell 3 _ rfl
    go_simp
    try with_reducible rfl
  try simp only [Act.put, List.setIfInBounds_toArray, List.set_cons_zero, List.set_cons_succ]
  refine wpAnyS_take (i := 21) (v := ?_) G inv F1 (by decide) rfl (by kernel_rfl) (by kernel_rfl) (fun _ _ _ h => h) (Or.inl ⟨by kernel_rfl, fun W hW => ?_⟩) (fun inv => ?_)
  rotate_left
  · have z0 := (CX.out _ hW).cell 0 _ rfl
    have z1 := (CX.out _ hW).cell 1 _ rfl
    have z2 := (CX.out _ hW).cell 2 _ rfl
    have z3 := (CX.out _ hW).cell 3 _ rfl
    go_simp
    try with_reducible rfl
  try simp only [Act.put, List.setIfInBounds_toArray, List.set_cons_zero, List.set_cons_succ]
  refine wpAnyS_take (i := 22) (v := ?_) G inv F1 (by decide) rfl (by kernel_rfl) (by kernel_rfl) (fun _ _ _ h => h) (Or.inl ⟨by kernel_rfl, fun W hW => ?_⟩) (fun inv => ?_)
  rotate_left
  · have z0 := (CX.out _ hW).cell 0 _ rfl
    have z1 := (CX.out _ hW).cell 1 _ rfl
    have z2 := (CX.out _ hW).cell 2 _ rfl
    have z3 := (CX.out _ hW).cell 3 _ rfl
    go_simp
    try with_reducible rfl
  try simp only [Act.put, List.setIfInBounds_toArray, List.set_cons_zero, List.set_cons_succ]
  refine wpAnyS_take (i := 23) (v := ?_) G inv F1 (by decide) rfl (by kernel_rfl) (by kernel_rfl) (fun _ _ _ h => h) (Or.inl ⟨by kernel_rfl, fun W hW => ?_⟩) (fun inv => ?_)
  rotate_left
  · have z0 := (CX.out _ hW).cell 0 _ rfl
    have z1 := (CX.out _ hW).cell 1 _ rfl
    have z2 := (CX.out _ hW).cell 2 _ rfl
    have z3 := (CX.out _ hW).cell 3 _ rfl
    go_simp
    try with_reducible rfl
  try simp only [Act.put, List.setIfInBounds_toArray, List.set_cons_zero, List.set_cons_succ]
  refine wpAnyS_take (i := 24) (v := ?_) G inv F1 (by decide) rfl (by kernel_rfl) (by kernel_rfl) (fun _ _ _ h => h) (Or.inl ⟨by kernel_rfl, fun W hW => ?_⟩) (fun inv => ?_)
  rotate_left
  · have z0 := (CX.out _ hW).cell 0 _ rfl
    have z1 := (CX.out _ hW).cell 1 _ rfl
    have z2 := (CX.out _ hW).cell 2 _ rfl
    have z3 := (CX.out _ hW).cell 3 _ rfl
    go_simp
    try with_reducible rfl
  try simp only [Act.put, List.setIfInBounds_toArray, List.set_cons_zero, List.set_cons_succ]
  refine wpAnyS_take (i := 25) (v := ?_) G inv F1 (by decide) rfl (by kernel_rfl) (by kernel_rfl) (fun _ _ _ h => h) (Or.inl ⟨by kernel_rfl, fun W hW => ?_⟩) (fun inv => ?_)
  rotate_left
  · have z0 := (CX.out _ hW).cell 0 _ rfl
    have z1 := (CX.out _ hW).cell 1 _ rfl
    have z2 := (CX.out _ hW).cell 2 _ rfl
    have z3 := (CX.out _ hW).cell 3 _ rfl
    go_simp
    try with_reducible rfl
  try simp only [Act.put, List.setIfInBounds_toArray, List.set_cons_zero, List.set_cons_succ]
  refine wpAnyS_take (i := 26) (v := ?_) G inv F1 (by decide) rfl (by kernel_rfl) (by kernel_rfl) (fun _ _ _ h => h) (Or.inl ⟨by kernel_rfl, fun W hW => ?_⟩) (fun inv => ?_)
  rotate_left
  · have z0 := (CX.out _ hW).cell 0 _ rfl
    have z1 := (CX.out _ hW).cell 1 _ rfl
    have z2 := (CX.out _ hW).cell 2 _ rfl
    have z3 := (CX.out _ hW).cell 3 _ rfl
    go_simp
    try with_reducible rfl
  try simp only [Act.put, List.setIfInBounds_toArray, List.set_cons_zero, List.set_cons_succ]
  refine wpAnyS_take (i := 28) (v := ?_) G inv F1 (by decide) rfl (by kernel_rfl) (by kernel_rfl) (fun _ _ _ h => h) (Or.inl ⟨by kernel_rfl, fun W hW => ?_⟩) (fun inv => ?_)
  rotate_left
  · have z0 := (CX.out _ hW).cell 0 _ rfl
    have z1 := (CX.out _ hW).cell 1 _ rfl
    have z2 := (CX.out _ hW).cell 2 _ rfl
    have z3 := (CX.out _ hW).cell 3 _ rfl
    go_simp
    try with_reducible rfl
  try simp only [Act.put, List.setIfInBounds_toArray, List.set_cons_zero, List.set_cons_succ]
  refine wpAnyS_take (i := 29) (v := ?_) G inv F1 (by decide) rfl (by kernel_rfl) (by kernel_rfl) (fun _ _ _ h => h) (Or.inl ⟨by kernel_rfl, fun W hW => ?_⟩) (fun inv => ?_)
  rotate_left
  · have z0 := (CX.out _ hW).cell 0 _ rfl
    have z1 := (CX.out _ hW).cell 1 _ rfl
    have z2 := (CX.out _ hW).cell 2 _ rfl
    have z3 := (CX.out _ hW).cell 3 _ rfl
    go_simp
    try with_reducible rfl
  try simp only [Act.put, List.setIfInBounds_toArray, List.set_cons_zero, List.set_cons_succ]
  refine wpAnyS_take (i := 30) (v := ?_) G inv F1 (by decide) rfl (by kernel_rfl) (by kernel_rfl) (fun _ _ _ h => h) (Or.inl ⟨by kernel_rfl, fun W hW => ?_⟩) (fun inv => ?_)
  rotate_left
  · have z0 := (CX.out _ hW).cell 0 _ rfl
    have z1 := (CX.out _ hW).cell 1 _ rfl
    have z2 := (CX.out _ hW).cell 2 _ rfl
    have z3 := (CX.out _ hW).cell 3 _ rfl
    go_simp
    try with_reducible rfl
  try simp only [Act.put, List.setIfInBounds_toArray, List.set_cons_zero, List.set_cons_succ]
  refine wpAnyS_take (i := 31) (v := ?_) G inv F1 (by decide) rfl (by kernel_rfl) (by kernel_rfl) (fun _ _ _ h => h) (Or.inl ⟨by kernel_rfl, fun W hW => ?_⟩) (fun inv => ?_)
  rotate_left
  · have z0 := (CX.out _ hW).cell 0 _ rfl
    have z1 := (CX.out _ hW).cell 1 _ rfl
    have z2 := (CX.out _ hW).cell 2 _ rfl
    have z3 := (CX.out _ hW).cell 3 _ rfl
    go_simp
    try with_reducible rfl
  try simp only [Act.put, List.setIfInBounds_toArray, List.set_cons_zero, List.set_cons_succ]
  refine wpAnyS_stepH (i := 27) (by kernel_rfl) rfl (by kernel_rfl) ?_
  go_wp2_with (go_at_call 60; refine (HE.out _ (HA.out.next (CB.out _ F1))).mono ?_; rintro e w2 ⟨A2, k2, cap2, rfl, rfl, hb, hE⟩)
  have F2 : Φ w2 := SP.out _ _ F1 hb
  have HE2 := Lib.hid hE.rr
  clear hb hE
  change (27 ≠ 34 → Φ w2) ∧ _
  refine ⟨fun _ => F2, ?_⟩
  have inv := HeadInv.setD (i := 27) inv (by kernel_rfl) (by decide)
  refine wpAnyS_stepH (i := 32) (by kernel_rfl) rfl (by kernel_rfl) ?_
  go_wp2_with (go_at_call 66; refine (HQ.out _ _ HE2.out (HA.out.next (CB.out _ F2))).mono ?_; rintro e w3 ⟨rfl, hb⟩)
  have F3 : Φ w3 := SP.out _ _ F2 hb
  clear hb
  change (32 ≠ 34 → Φ w3) ∧ _
  refine ⟨fun _ => F3, ?_⟩
  have inv := HeadInv.setD (i := 32) inv (by kernel_rfl) (by decide)
  refine wpAnyS_take (i := 33) (v := ?_) G inv F3 (by decide) rfl (by kernel_rfl) (by kernel_rfl) (fun _ _ _ h => h) (Or.inl ⟨by kernel_rfl, fun W hW => ?_⟩) (fun inv => ?_)
  rotate_left
  · have z0 := (CX.out _ hW).cell 0 _ rfl
    have z1 := (CX.out _ hW).cell 1 _ rfl
    have z2 := (CX.out _ hW).cell 2 _ rfl
    have z3 := (CX.out _ hW).cell 3 _ rfl
    go_simp
    try with_reducible rfl
  try simp only [Act.put, List.setIfInBounds_toArray, List.set_cons_zero, List.set_cons_succ]
  refine wpAnyS_step (i := 34) (by kernel_rfl) rfl ?_
  go_wp2
  refine ⟨fun h => absurd rfl h, ?_⟩
  refine wpAnyS_done (by kernel_rfl) ?_ _
  have HB := Lib.hid (CB.out _ F3)
  clear F1 F2 F3 hS inv G
  go_wp2_with fail
  go_ret
  exact ⟨rfl, HB.out⟩

theorem l04Ok_any (d p l : Int) (v : Value) (rows : List (List Int)) (w : World) (q : Nat) (hX : LB w q (codL d p l v)) (hA : RR w v rows) :
    Calls Try.prog 64 #[.pointer (some ⟨q, 0, none⟩)] w fun e w' => e = .returned (.bool (fValidCode d p l rows)) ∧ Below w.heap.size w w' := by
  obtain ⟨A, cap, rfl⟩ := hA.is
  rcases cRows_cases d p l rows with h | h
  · obtain ⟨m, P, N, len, rfl, rfl, rfl, hN, hF, hl0, hl5, h10, hok⟩ := cRows_zero h
    rw [fValidCode_yes hN h]
    exact l04Ok_yes m P N len hN hF hl0 hl5 A _ cap rows h10 hok h w q hX hA
  · obtain ⟨c, hc⟩ : ∃ c, cRows d p l rows = c := ⟨_, rfl⟩
    rw [hc] at h
    rw [fValidCode_no hc (by omega)]
    exact l04Ok_no d p l c h A _ cap rows hc w q hX hA

set_option maxHeartbeats 1600000 in
theorem specValidCode_any (d p l : Int) (v : Value) (rows : List (List Int)) (w : World) (hA : RR w v rows) :
    Calls Try.prog 31 #[.agg (codL d p l v).toArray] w fun e w' => e = .returned (.bool (fValidCode d p l rows)) ∧ Below w.heap.size w w' := by
  have HG := Lib.hid (G1.start w (codL d p l v) 36)
  have HO := Lib.hid (fun W a b => l04Ok_any d p l v rows W w.heap.size a b)
  have HA := Lib.hid hA
  clear hA
  obtain ⟨r, hr⟩ : ∃ r, fValidCode d p l rows = r := ⟨_, rfl⟩
  rw [hr] at HO ⊢
  clear hr
  go_enter Try.func31, Try.ntmps31
  go_wp2_with fail
  refine (HO.out _ HG.out.x (HA.out.next HG.out.b)).mono ?_
  rintro e w1 ⟨rfl, hb⟩
  have HB := Lib.hid (HG.out.next hb).b
  clear hb
  go_wp2_with fail
  go_ret
  exact ⟨rfl, HB.out⟩
end Go.Proofs.Ytfpahdbkcdpchaa
