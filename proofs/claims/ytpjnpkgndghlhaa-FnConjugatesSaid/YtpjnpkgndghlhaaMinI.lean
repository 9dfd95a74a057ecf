/- Minimal polynomials: the program's method. -/
import Derived.Test.YtpjnpkgndghlhaaMinPure
import Derived.Test.YtpjnpkgndghlhaaEPlus
import Derived.Test.YtpjnpkgndghlhaaGrid
import Derived.Deep.RegionLaw
namespace Go.Proofs.Ytpjnpkgndghlhaa
open Go.RowKit Go.Joins
set_option linter.unusedVariables false
set_option linter.unusedSimpArgs false

/-- Six elements in a block of the call's own. -/
structure A6 (W : World) (q : Nat) (f : Nat → Nat) : Prop where
  cell : ∀ j, j < 6 → W.cell? ⟨q, j, none⟩ = some (.int .u8 (f j : Nat))
  free : ∀ j, j < 6 → W.frozen? ⟨q, j, none⟩ = false
  lt : q < W.heap.size
theorem A6.set {W : World} {q : Nat} {f g : Nat → Nat} (h : A6 W q f) (i : Nat) (hi : i < 6) (x : Nat) (hg : ∀ j, j < 6 → g j = if j = i then x else f j) : A6 (W.setCell ⟨q, i, none⟩ (.int .u8 (x : Nat))) q g := by
  refine ⟨fun j hj => ?_, fun j hj => by rw [World.frozen?_setCell]; exact h.free j hj, by rw [size_setCell_]; exact h.lt⟩
  rw [hg j hj]
  by_cases e : j = i
  · subst e
    rw [if_pos rfl]
    exact World.cell?_setCell_same' _ _ _ (by rw [h.cell j hj]; rfl)
  · rw [if_neg e, World.cell?_setCell_other _ ⟨q, i, none⟩ ⟨q, j, none⟩ _ (fun h => e (by injection h with _ h _; omega))]
    exact h.cell j hj
theorem A6.next {W W' : World} {q : Nat} {f : Nat → Nat} (h : A6 W q f) (hb : Below W.heap.size W W') : A6 W' q f :=
  ⟨fun j hj => (hb.cell (p := ⟨q, j, none⟩) h.lt).trans (h.cell j hj), fun j hj => (hb.frozen (p := ⟨q, j, none⟩) h.lt).trans (h.free j hj), Nat.lt_of_lt_of_le h.lt hb.size⟩
theorem A6.drewN {W : World} {q : Nat} {f : Nat → Nat} (h : A6 W q f) (k : Nat) : A6 (W.drewN k) q f := ⟨h.cell, h.free, h.lt⟩
theorem A6.congr {W : World} {q : Nat} {f g : Nat → Nat} (h : A6 W q f) (hg : ∀ j, j < 6 → g j = f j) : A6 W q g := ⟨fun j hj => by rw [hg j hj]; exact h.cell j hj, h.free, h.lt⟩
theorem conjL_get (P a r j : Nat) (hj : j < r) : (conjL P a r)[j]?.getD 0 = ((sq P a j : Nat) : Int) := by simp [conjL, hj]
theorem mpS_lo {P c : Nat} {f : Nat → Nat} {i : Nat} : mpS P c f (i + 1) = f i ^^^ mul P (f (i + 1)) c := by simp [mpS]
theorem mpS_zero {P c : Nat} {f : Nat → Nat} : mpS P c f 0 = mul P (f 0) c := by simp [mpS]

set_option maxRecDepth 100000 in
set_option maxHeartbeats 6400000 in
theorem minimalPoly_any (c m P n : Nat) (hF : Fld m P n) (a : Nat) (ha : a < n) (w : World) (hC : Calc c m P n w) :
    Calls Try.prog 41 #[.pointer (some ⟨c, 0, none⟩), .int .u8 a] w fun e w' => e = .returned (.int .i64 (mpV P a m : Nat)) ∧ Below w.heap.size w w' := by
  obtain ⟨r, hrm, ho⟩ := orb_some hF ha
  have h32 := hF.n32
  have hn2 := hF.n2
  have hm5 := hF.m5
  have hcl : c < w.heap.size := World.block_lt_of_cell? w ⟨c, 0, none⟩ hC.deg
  have HV := Lib.hid (mpV_six hF ha ho hrm)
  have hA0 : A6 (w.alloc (.cells #[.int .u8 1, .int .u8 0, .int .u8 0, .int .u8 0, .int .u8 0, .int .u8 0] 91)) w.heap.size (mpF P a 0) :=
    ⟨fun j hj => by
      rw [World.cell?_alloc_at _ _ _ _ rfl]
      match j, hj with
      | 0, _ => rfl
      | 1, _ => rfl
      | 2, _ => rfl
      | 3, _ => rfl
      | 4, _ => rfl
      | 5, _ => rfl, fun j hj => by rw [World.frozen?_alloc_at _ _ _ _ rfl], by simp⟩
  have hb0 := below_alloc1 w (.cells #[.int .u8 1, .int .u8 0, .int .u8 0, .int .u8 0, .int .u8 0, .int .u8 0] 91)
  have CJ := Lib.hid (conjugates_any c m P n hF a ha r ho hrm _ (hC.at3 hcl hb0))
  have HA := Lib.hid hA0
  have HB := Lib.hid hb0
  have HC := Lib.hid hC
  clear hA0 hb0 hC
  go_enter Try.func41, Try.ntmps41
  go_wp2_with fail
  refine CJ.out.mono ?_
  rintro e w1 ⟨v, rfl, hb1, hM⟩
  obtain ⟨A, k, cap, rfl⟩ := hM.form
  have hl : r = k := by
    obtain ⟨L, hL⟩ : ∃ L, conjL P a r = L := ⟨_, rfl⟩
    rw [hL] at hM
    have h1 : L.length = k := by cases hM <;> first | rfl | assumption
    rw [← hL, conjL_len] at h1
    exact h1
  subst hl
  have hr1 := ho.r1
  obtain ⟨g, hA, hg, hcl2⟩ : ∃ g, A = some ⟨g, 0, none⟩ ∧ (w.heap.size + 1 ≤ g ∧ g < w1.heap.size) ∧ ∀ j, j < r → w1.cell? ⟨g, j, none⟩ = some (.int .i64 (sq P a j : Nat)) := by
    obtain ⟨L, hL⟩ : ∃ L, conjL P a r = L := ⟨_, rfl⟩
    rw [hL] at hM
    cases hM with
    | nil A cap => omega
    | row g n cap xs k1 k2 k3 k4 k5 k6 k7 => exact ⟨g, rfl, ⟨by simpa using k1, by omega⟩, fun j hj => by rw [k6 j hj, ← hL, conjL_get P a r j hj]⟩
  subst hA
  have HC1 := Lib.hid (HC.out.at3 hcl (HB.out.trans (hb1.mono (by simp))))
  have HA1 := Lib.hid (HA.out.next hb1)
  have HB1 := Lib.hid (HB.out.trans (hb1.mono (by simp)))
  have HL := Lib.hid hcl2
  clear hM hb1 HA HB HC hcl2 CJ
  go_wp2_with fail
  go_loopw [17] (fun i wr => ∃ t : Nat, t ≤ r ∧ i = .int .i64 t ∧ A6 wr w.heap.size (mpF P a t) ∧ Only w.heap.size w1 wr) (fun i _ => r - (intOf i).toNat)
  case atStart => exact ⟨0, Nat.zero_le _, rfl, HA1.out, Only.refl _ _⟩
  case round =>
    obtain ⟨t, ht, rfl, hS, hO⟩ := hrel
    clear HA1
    by_cases hlt : t < r
    · have hrow : wr.cell? ⟨g, t, none⟩ = some (.int .i64 (sq P a t : Nat)) := (hO.cell (p := ⟨g, t, none⟩) (by show g ≠ w.heap.size; omega)).trans (HL.out t hlt)
      have hx := sq_lt hF ha t
      have hbd := mpF_lt (a := a) hF t
      have hnx : mpF P a (t + 1) = mpS P (sq P a t) (mpF P a t) := rfl
      generalize sq P a t = x at hrow hx hnx
      have e1 : IntKind.u8.wrap (x : Int) = x := by rw [IntKind.wrap_u8']; omega
      generalize mpF P a t = f at hS hbd hnx
      have HNX := Lib.hid hnx
      have HO := Lib.hid hO
      have HS := Lib.hid hS
      have HBD := Lib.hid hbd
      clear hnx hO hS hbd
      go_wp2_with fail
      go_loopw [8] (fun i wx => ∃ k : Nat, k ≤ 5 ∧ i = .int .i64 k ∧ A6 wx w.heap.size (fun j => if k < j then mpS P x f j else f j) ∧ Only w.heap.size w1 wx) (fun i _ => (intOf i).toNat)
      case atStart => exact ⟨5, by omega, rfl, HS.out.congr (fun j hj => by rw [if_neg (by omega)]), HO.out⟩
      case round =>
        obtain ⟨k, hk, rfl, hS, hO⟩ := hrel
        clear HS HO
        have hCx := HC1.out.at3 hcl (hO.below (Below.refl _ _) (Nat.le_refl _))
        by_cases hk0 : 0 < k
        · obtain ⟨k, rfl⟩ : ∃ k', k = k' + 1 := ⟨k - 1, by omega⟩
          have d0 : wr.cell? ⟨w.heap.size, k, none⟩ = some (.int .u8 (f k : Nat)) := by have := hS.cell k (by omega); simpa [show ¬ k + 1 < k by omega] using this
          have d1 : wr.cell? ⟨w.heap.size, k + 1, none⟩ = some (.int .u8 (f (k + 1) : Nat)) := by have := hS.cell (k + 1) (by omega); simpa using this
          have fr := hS.free (k + 1) (by omega)
          have e2 : (k : Int) + 1 - 1 = k := by omega
          have e3 : IntKind.i64.wrap (k : Int) = k := by rw [IntKind.wrap_i64]; omega
          have e4 : (k : Int) < 6 := by omega
          have e5 : (k : Int) + 1 < 6 := by omega
          have e6 : (0 : Int) ≤ (k : Int) + 1 := by omega
          have hb0 := HBD.out k
          have hb1 := HBD.out (k + 1)
          have hst := hS.set (k + 1) (by omega) (mpS P x f (k + 1)) (g := fun j => if k < j then mpS P x f j else f j) (fun j hj => by
            by_cases e : j = k + 1
            · subst e; simp
            · rw [if_neg e]
              by_cases e2 : k < j
              · rw [if_pos e2, if_pos (by omega)]
              · rw [if_neg e2, if_neg (by omega)])
          have hml := hF.mul_lt (f (k + 1)) x
          rw [mpS_lo] at hst
          have PR := fun (W : World) (hC : Calc c m P n W) => product_any c m P n hF (f (k + 1)) x hb1 hx W hC
          generalize mul P (f (k + 1)) x = y at hst hml PR
          generalize f (k + 1) = z at d1 hb1 PR
          generalize f k = u at d0 hb0 hst
          have HPR := Lib.hid PR
          have HST := Lib.hid hst
          have HO := Lib.hid hO
          have HCX := Lib.hid hCx
          clear PR hst hO hCx hS
          go_wp2_with fail
          go_region_law (go_simp; go_wp2_with (first
            | (go_at_call 52; refine (HPR.out _ (HCX.out.at3 (B := c + 1) (Nat.lt_succ_self _) (below_draws _ _ _))).mono ?_; rintro e w3 ⟨rfl, rfl⟩)
            | (go_at_call 60; refine (ePlus_any u y (by omega) (by omega) _).mono ?_; rintro e w3 ⟨rfl, rfl⟩)))
          all_goals
            go_wp2_with fail
            go_roundw
            case rel => exact ⟨k, by omega, by go_num, ⟨HST.out.cell, HST.out.free, HST.out.lt⟩, by first | exact (HO.out.setCell _ _).drew | exact (HO.out.drew).setCell _ _ | exact HO.out.setCell _ _⟩
            case measure => simp [intOf] <;> omega
        · obtain rfl : k = 0 := by omega
          have d0 : wr.cell? ⟨w.heap.size, 0, none⟩ = some (.int .u8 (f 0 : Nat)) := by have := hS.cell 0 (by omega); simpa using this
          have fr := hS.free 0 (by omega)
          have hb0 := HBD.out 0
          have hst := hS.set 0 (by omega) (mpS P x f 0) (g := mpS P x f) (fun j hj => by
            by_cases e : j = 0
            · subst e; simp
            · rw [if_neg e, if_pos (by omega)])
          rw [mpS_zero] at hst
          have PR := fun (W : World) (hC : Calc c m P n W) => product_any c m P n hF (f 0) x hb0 hx W hC
          generalize mul P (f 0) x = y at hst PR
          generalize f 0 = z at d0 hb0 PR
          have HPR := Lib.hid PR
          have HST := Lib.hid hst
          have HO := Lib.hid hO
          have HCX := Lib.hid hCx
          clear PR hst hO hCx hS
          go_wp2_with (go_at_call 52; refine (HPR.out _ HCX.out).mono ?_; rintro e w3 ⟨rfl, rfl⟩)
          go_roundw
          case rel => exact ⟨t + 1, by omega, by go_num, by rw [HNX.out]; exact HST.out, HO.out.setCell _ _⟩
          case measure => simp [intOf]; omega
    · obtain rfl : t = r := by omega
      have hbd := mpF_lt (a := a) hF t
      have hbd' : ∀ i, mpF P a t i < 32 := fun i => Nat.lt_of_lt_of_le (hbd i) h32
      have hv := HV.out
      have d0 := hS.cell 0 (by omega); have d1 := hS.cell 1 (by omega); have d2 := hS.cell 2 (by omega); have d3 := hS.cell 3 (by omega); have d4 := hS.cell 4 (by omega); have d5 := hS.cell 5 (by omega)
      generalize mpF P a t = f at hbd' hv d0 d1 d2 d3 d4 d5
      have i0 : ∀ w, (Instr.index 91 (.agg #[.int .u8 (f 0 : Nat), .int .u8 (f 1 : Nat), .int .u8 (f 2 : Nat), .int .u8 (f 3 : Nat), .int .u8 (f 4 : Nat), .int .u8 (f 5 : Nat)]) (.int .i64 0)).run Try.prog w = .ok (.int .u8 (f 0 : Nat)) w := fun _ => by kernel_rfl
      have i1 : ∀ w, (Instr.index 91 (.agg #[.int .u8 (f 0 : Nat), .int .u8 (f 1 : Nat), .int .u8 (f 2 : Nat), .int .u8 (f 3 : Nat), .int .u8 (f 4 : Nat), .int .u8 (f 5 : Nat)]) (.int .i64 1)).run Try.prog w = .ok (.int .u8 (f 1 : Nat)) w := fun _ => by kernel_rfl
      have i2 : ∀ w, (Instr.index 91 (.agg #[.int .u8 (f 0 : Nat), .int .u8 (f 1 : Nat), .int .u8 (f 2 : Nat), .int .u8 (f 3 : Nat), .int .u8 (f 4 : Nat), .int .u8 (f 5 : Nat)]) (.int .i64 2)).run Try.prog w = .ok (.int .u8 (f 2 : Nat)) w := fun _ => by kernel_rfl
      have i3 : ∀ w, (Instr.index 91 (.agg #[.int .u8 (f 0 : Nat), .int .u8 (f 1 : Nat), .int .u8 (f 2 : Nat), .int .u8 (f 3 : Nat), .int .u8 (f 4 : Nat), .int .u8 (f 5 : Nat)]) (.int .i64 3)).run Try.prog w = .ok (.int .u8 (f 3 : Nat)) w := fun _ => by kernel_rfl
      have i4 : ∀ w, (Instr.index 91 (.agg #[.int .u8 (f 0 : Nat), .int .u8 (f 1 : Nat), .int .u8 (f 2 : Nat), .int .u8 (f 3 : Nat), .int .u8 (f 4 : Nat), .int .u8 (f 5 : Nat)]) (.int .i64 4)).run Try.prog w = .ok (.int .u8 (f 4 : Nat)) w := fun _ => by kernel_rfl
      have i5 : ∀ w, (Instr.index 91 (.agg #[.int .u8 (f 0 : Nat), .int .u8 (f 1 : Nat), .int .u8 (f 2 : Nat), .int .u8 (f 3 : Nat), .int .u8 (f 4 : Nat), .int .u8 (f 5 : Nat)]) (.int .i64 5)).run Try.prog w = .ok (.int .u8 (f 5 : Nat)) w := fun _ => by kernel_rfl
      have ho' : ∀ k, k ≤ 6 → mpO f k < 4611686018427387904 := fun k hk => Nat.lt_of_lt_of_le (mpO_lt hbd' k) (Nat.le_trans (Nat.pow_le_pow_right (n := 2) (by omega) (show k + 5 ≤ 11 by omega)) (by decide))
      have HBD := Lib.hid hbd'
      have HV' := Lib.hid hv
      have HBF := Lib.hid (hO.below HB1.out (Nat.le_refl _))
      clear hS hO hbd hbd' hv HV
      go_wp2_with fail
      go_loop [9, 48] (fun p i => ∃ k : Nat, k ≤ 6 ∧ i = .int .i64 k ∧ p = .int .i64 (mpO f k : Nat)) (fun _ i => 6 - (intOf i).toNat)
      case atStart => exact ⟨0, by omega, rfl, rfl⟩
      case round =>
        obtain ⟨k, hk, rfl, rfl⟩ := hrel
        by_cases h6 : k < 6
        · match k, h6 with
          | 0, _ =>
            have O := Lib.hid (show bits .or .i64 ((mpO f 0 : Nat) : Int) ((f 0 : Nat) * 2 ^ 0) = ((mpO f (0 + 1) : Nat) : Int) from or_step _ _ 0 (ho' 0 (by omega)) (HBD.out 0) (by omega))
            have hx0 := HBD.out 0
            generalize mpO f 0 = o at O ⊢
            go_wp2_with fail
            go_round
            case rel => exact ⟨0 + 1, by omega, by go_num, by have := O.out; rw [Int.pow_zero, Int.mul_one] at this; rw [this]⟩
            case measure => simp [intOf]
          | 1, _ =>
            have O := Lib.hid (show bits .or .i64 ((mpO f 1 : Nat) : Int) ((f 1 : Nat) * 2 ^ 1) = ((mpO f (1 + 1) : Nat) : Int) from or_step _ _ 1 (ho' 1 (by omega)) (HBD.out 1) (by omega))
            have hx1 := HBD.out 1
            generalize mpO f 1 = o at O ⊢
            go_wp2_with fail
            go_round
            case rel => exact ⟨1 + 1, by omega, by go_num, by have := O.out; simp only [Int.reducePow, Int.mul_one, Nat.reducePow, Int.pow_zero] at this ⊢; first | rw [this] | (simp at this ⊢; rw [this]) | (simpa using this)⟩
            case measure => simp [intOf]
          | 2, _ =>
            have O := Lib.hid (show bits .or .i64 ((mpO f 2 : Nat) : Int) ((f 2 : Nat) * 2 ^ 2) = ((mpO f (2 + 1) : Nat) : Int) from or_step _ _ 2 (ho' 2 (by omega)) (HBD.out 2) (by omega))
            have hx2 := HBD.out 2
            generalize mpO f 2 = o at O ⊢
            go_wp2_with fail
            go_round
            case rel => exact ⟨2 + 1, by omega, by go_num, by have := O.out; simp only [Int.reducePow, Int.mul_one, Nat.reducePow, Int.pow_zero] at this ⊢; first | rw [this] | (simp at this ⊢; rw [this]) | (simpa using this)⟩
            case measure => simp [intOf]
          | 3, _ =>
            have O := Lib.hid (show bits .or .i64 ((mpO f 3 : Nat) : Int) ((f 3 : Nat) * 2 ^ 3) = ((mpO f (3 + 1) : Nat) : Int) from or_step _ _ 3 (ho' 3 (by omega)) (HBD.out 3) (by omega))
            have hx3 := HBD.out 3
            generalize mpO f 3 = o at O ⊢
            go_wp2_with fail
            go_round
            case rel => exact ⟨3 + 1, by omega, by go_num, by have := O.out; simp only [Int.reducePow, Int.mul_one, Nat.reducePow, Int.pow_zero] at this ⊢; first | rw [this] | (simp at this ⊢; rw [this]) | (simpa using this)⟩
            case measure => simp [intOf]
          | 4, _ =>
            have O := Lib.hid (show bits .or .i64 ((mpO f 4 : Nat) : Int) ((f 4 : Nat) * 2 ^ 4) = ((mpO f (4 + 1) : Nat) : Int) from or_step _ _ 4 (ho' 4 (by omega)) (HBD.out 4) (by omega))
            have hx4 := HBD.out 4
            generalize mpO f 4 = o at O ⊢
            go_wp2_with fail
            go_round
            case rel => exact ⟨4 + 1, by omega, by go_num, by have := O.out; simp only [Int.reducePow, Int.mul_one, Nat.reducePow, Int.pow_zero] at this ⊢; first | rw [this] | (simp at this ⊢; rw [this]) | (simpa using this)⟩
            case measure => simp [intOf]
          | 5, _ =>
            have O := Lib.hid (show bits .or .i64 ((mpO f 5 : Nat) : Int) ((f 5 : Nat) * 2 ^ 5) = ((mpO f (5 + 1) : Nat) : Int) from or_step _ _ 5 (ho' 5 (by omega)) (HBD.out 5) (by omega))
            have hx5 := HBD.out 5
            generalize mpO f 5 = o at O ⊢
            go_wp2_with fail
            go_round
            case rel => exact ⟨5 + 1, by omega, by go_num, by have := O.out; simp only [Int.reducePow, Int.mul_one, Nat.reducePow, Int.pow_zero] at this ⊢; first | rw [this] | (simp at this ⊢; rw [this]) | (simpa using this)⟩
            case measure => simp [intOf]
          | k + 6, h6 => omega
        · obtain rfl : k = 6 := by omega
          rw [← HV'.out]
          go_wp2_with fail
          go_ret
          exact ⟨rfl, HBF.out⟩
end Go.Proofs.Ytpjnpkgndghlhaa
