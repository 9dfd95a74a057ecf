/- Minimal polynomials: the model's function. -/
import Derived.Test.YtpjnpkgndghlhaaMinPure
import Derived.Test.YtpjnpkgndghlhaaGiven
import Derived.Test.YtpjnpkgndghlhaaGrid
import Derived.Test.YtpjnpkgndghlhaaWr
import Derived.Test.YtpjnpkgndghlhaaHeld2
import Derived.Deep.RegionLaw
import Derived.Deep.RegionHeld3
import Derived.Deep.DeepCutAuto
namespace Go.Proofs.Ytpjnpkgndghlhaa
open Go.RowKit Go.Joins
set_option linter.unusedVariables false
set_option linter.unusedSimpArgs false

theorem conjL_getS (P a r j : Nat) (hj : j < r) : (conjL P a r)[j]?.getD 0 = ((sq P a j : Nat) : Int) := by simp [conjL, hj]
/-- The product so far, k rounds into one factor more. -/
def mpG (P c : Nat) (f : Nat → Nat) (k j : Nat) : Nat := if j < k then mpS P c f j else if j = k ∧ 0 < k then f (k - 1) else 0
theorem mpG_step (P c : Nat) (f : Nat → Nat) (k : Nat) : put (put (mpG P c f k) (k + 1) (f k)) k (mpG P c f k k ^^^ mul P (f k) c) = mpG P c f (k + 1) := by
  funext j
  simp only [put, mpG]
  by_cases e1 : j = k
  · subst e1
    simp
    unfold mpS
    by_cases h : j = 0
    · subst h; simp
    · simp [h, show 0 < j by omega]
  · by_cases e2 : j = k + 1
    · subst e2; simp
    · rw [if_neg e1, if_neg e2]
      by_cases h : j < k
      · rw [if_pos h, if_pos (by omega)]
      · rw [if_neg h, if_neg (by omega), if_neg (by omega), if_neg (by omega)]
theorem mpG_end {m P n c : Nat} (hF : Fld m P n) (hc : c < n) {f : Nat → Nat} {t : Nat} (hf : ∀ i, t < i → f i = 0) (j : Nat) (hj : j < t + 2) : mpG P c f (t + 1) j = mpS P c f j := by
  unfold mpG
  by_cases h : j < t + 1
  · rw [if_pos h]
  · obtain rfl : j = t + 1 := by omega
    rw [if_neg h, if_pos ⟨rfl, by omega⟩, mpS, if_neg (by omega), hf (t + 1) (by omega), zero_mul' hF hc, Nat.xor_zero]

set_option maxRecDepth 100000 in
set_option maxHeartbeats 12800000 in
theorem specMinimalPoly_C (m P n : Nat) (hF : Fld m P n) (a : Nat) (ha : a < n) (w : World) :
    Calls Try.prog 17 #[.agg #[.int .i64 m, .int .i64 P], .int .i64 a] w fun e w' => e = .returned (.tuple #[.int .i64 (mpV P a m : Nat), .int .i64 0]) ∧ Below w.heap.size w w' := by
  obtain ⟨r, hrm, ho⟩ := orb_some hF ha
  obtain ⟨i0, hi, hz0, hz1, hz2⟩ := info_parts Try.infoI'
  have h32 := hF.n32
  have hn2 := hF.n2
  have hm5 := hF.m5
  have hr1 := ho.r1
  have HV := Lib.hid (mpV_eq ho hrm)
  have h0 := FAt.start w m P 23
  go_enter Try.func17, Try.ntmps17
  go_wp2_with fail
  refine (l01Given_C _ _ _ hF _ 0 ha (by omega) _).mono ?_
  rintro e w1 ⟨rfl, hb1⟩
  have h1 := h0.next hb1
  have z1 := h1.z; have c1 := h1.c0; have d1 := h1.c1
  clear hb1 h0
  go_wp2_with fail
  refine (l01Conjugates_any m P n hF a ha r ho hrm _).mono ?_
  rintro e w2 ⟨v, rfl, hb2, hM⟩
  obtain ⟨A, k, cap, rfl⟩ := hM.form
  have hl : r = k := by
    obtain ⟨L, hL⟩ : ∃ L, conjL P a r = L := ⟨_, rfl⟩
    rw [hL] at hM
    have h1 : L.length = k := by cases hM <;> first | rfl | assumption
    rw [← hL, conjL_len] at h1
    exact h1
  subst hl
  obtain ⟨g, hA, hg, hcl2⟩ : ∃ g, A = some ⟨g, 0, none⟩ ∧ g < w2.heap.size ∧ ∀ j, j < r → w2.cell? ⟨g, j, none⟩ = some (.int .i64 (sq P a j : Nat)) := by
    obtain ⟨L, hL⟩ : ∃ L, conjL P a r = L := ⟨_, rfl⟩
    rw [hL] at hM
    cases hM with
    | nil A cap => omega
    | row g n cap xs k1 k2 k3 k4 k5 k6 k7 => exact ⟨g, rfl, by omega, fun j hj => by rw [k6 j hj, ← hL, conjL_getS P a r j hj]⟩
  subst hA
  have h2 := h1.next hb2
  have h3 := h2.next (below_alloc1 w2 (.cells #[.int .i64 1] 2))
  have hW0 : Wr (w2.alloc (.cells #[.int .i64 1] 2)) .i64 w2.heap.size (0 + 1) (mpF P a 0) := ⟨fun j hj => by
    obtain rfl : j = 0 := by omega
    rw [World.cell?_alloc_at _ _ _ _ rfl]; rfl, fun j => by rw [World.frozen?_alloc_at _ _ _ _ rfl], by simp⟩
  have hC0 : ∀ j, j < r → (w2.alloc (.cells #[.int .i64 1] 2)).cell? ⟨g, j, none⟩ = some (.int .i64 (sq P a j : Nat)) := fun j hj => ((below_alloc1 w2 (.cells #[.int .i64 1] 2)).cell (p := ⟨g, j, none⟩) hg).trans (hcl2 j hj)
  have H3 := Lib.hid h3
  have HW0 := Lib.hid hW0
  have HC0 := Lib.hid hC0
  have hgz : g < w2.heap.size + 1 := by omega
  clear hb2 hM h1 h2 h3 hW0 hC0 hcl2 z1 c1 d1
  go_wp2_with fail
  go_loopw [8, 9] (fun u i wr => ∃ t pb cp : Nat, u = .slice (some ⟨pb, 0, none⟩) (t + 1) cp ∧ i = .int .i64 t ∧ t ≤ r ∧ Wr wr .i64 pb (t + 1) (mpF P a t) ∧ (∀ j, j < r → wr.cell? ⟨g, j, none⟩ = some (.int .i64 (sq P a j : Nat))) ∧ FAt w m P wr ∧ w2.heap.size + 1 ≤ wr.heap.size) (fun _ i _ => r - (intOf i).toNat)
  case atStart => exact ⟨0, _, _, rfl, rfl, Nat.zero_le _, HW0.out, HC0.out, H3.out, by simp⟩
  case round =>
    obtain ⟨t, pb, cp, rfl, rfl, ht, hW, hC, hA, hz⟩ := hrel
    clear HW0 HC0 H3
    by_cases hlt : t < r
    · have hx0 := hC t hlt
      have hx := sq_lt hF ha t
      have hbd := mpF_lt (a := a) hF t
      have htop := mpF_top hF ha t
      have hnx : mpF P a (t + 1) = mpS P (sq P a t) (mpF P a t) := rfl
      generalize sq P a t = x at hx0 hx hnx
      generalize mpF P a t = f at hW hbd htop hnx
      obtain ⟨nb, hnb⟩ : ∃ nb, wr.heap.size = nb := ⟨_, rfl⟩
      obtain ⟨Φ, hΦ⟩ : ∃ Φ : World → Prop, Φ = fun W => Below wr.heap.size wr W := ⟨_, rfl⟩
      have CA : Hid (∀ W, Φ W → FAt w m P W) := Lib.hid fun W h => by rw [hΦ] at h; exact hA.next h
      have CX : Hid (∀ W, Φ W → W.cell? ⟨g, t, none⟩ = some (.int .i64 (x : Nat))) := Lib.hid fun W h => by rw [hΦ] at h; exact (h.cell (p := ⟨g, t, none⟩) (by show g < wr.heap.size; omega)).trans hx0
      have CC : Hid (∀ W, Φ W → ∀ j, j < r → W.cell? ⟨g, j, none⟩ = some (.int .i64 (sq P a j : Nat))) := Lib.hid fun W h j hj => by rw [hΦ] at h; exact (h.cell (p := ⟨g, j, none⟩) (by show g < wr.heap.size; omega)).trans (hC j hj)
      have CP : Hid (∀ W, Φ W → ∀ j, j < t + 1 → W.cell? ⟨pb, j, none⟩ = some (.int .i64 (f j : Nat))) := Lib.hid fun W h j hj => by rw [hΦ] at h; exact (h.cell (p := ⟨pb, j, none⟩) hW.lt).trans (hW.cell j hj)
      have CZ : Hid (∀ W, Φ W → w2.heap.size + 1 ≤ W.heap.size) := Lib.hid fun W h => by rw [hΦ] at h; exact Nat.le_trans hz h.size
      have SP : Hid (∀ W W', Φ W → Below W.heap.size W W' → Φ W') := Lib.hid fun W W' h hb => by
        rw [hΦ] at h ⊢
        exact h.trans (hb.mono h.size)
      have SS : Hid (∀ W (i : Nat) (v : Value), Φ W → Φ (W.setCell ⟨nb, i, none⟩ v)) := Lib.hid fun W i v h => by
        rw [hΦ] at h ⊢
        exact h.setCell (p := ⟨nb, i, none⟩) (by show wr.heap.size ≤ nb; omega) v
      have SD : Hid (∀ W, Φ W → Φ W.drew) := Lib.hid fun W h => by rw [hΦ] at h ⊢; exact h.drew
      have CI : Hid (∀ W, Below wr.heap.size wr W → Φ W) := Lib.hid fun W h => by rw [hΦ]; exact h
      have HNX := Lib.hid hnx
      have HTOP := Lib.hid htop
      have HBD := Lib.hid hbd
      have hplt := hW.lt
      have hpn : pb ≠ nb := by omega
      clear hΦ hnx htop hbd hC hA hW hx0
      go_wp2_with (at_make; refine wpList_make_full _ rfl _ _ 47 rfl wr.heap.size 2 i0 (.int .i64 0) 1 Try.underlying47 hi hz0 hz1 .i64 .i64 _ _ (t + 2) rfl rfl (by first | rfl | omega) (by first | rfl | omega) (by rw [hz2]; omega) (by unfold maxLen; omega) (Nat.le_refl _) ?_; intro w4 hown hgrow; have hb4 : Below wr.heap.size wr w4 := (Below.refl _ wr).grown hgrow (Nat.le_refl _) (fun k h => by cases h); have HW4 := Lib.hid (Wr.made (K := .i64) hown); have F4 := CI.out _ hb4; clear hown hgrow hb4)
      rw [hnb] at HW4
      clear hnb
      go_loopw [11] (fun i wx => ∃ k : Nat, i = .int .i64 k ∧ k ≤ t + 1 ∧ Wr wx .i64 nb (t + 2) (mpG P x f k) ∧ Φ wx) (fun i _ => t + 1 - (intOf i).toNat)
      case atStart => exact ⟨0, rfl, by omega, HW4.out.congr (fun j hj => by simp [mpG]), F4⟩
      case round =>
        obtain ⟨k, rfl, hk, hW, hF5⟩ := hrel
        clear HW4 F4
        by_cases hkt : k < t + 1
        · have e0 : wr.cell? ⟨nb, k + 1, none⟩ = some (.int .i64 0) := by have := hW.cell (k + 1) (by omega); simpa [mpG, show ¬ k + 1 < k by omega] using this
          have e1 := CP.out _ hF5 k hkt
          have e2 := hW.free (k + 1)
          have hu := HBD.out k
          have hst := hW.set (k + 1) (by omega) (f k)
          have hgst := mpG_step P x f k
          have hy0 : mpG P x f k k < n := by
            unfold mpG
            rw [if_neg (by omega)]
            split
            · exact HBD.out _
            · omega
          have hxo : bits .xor .i64 0 ((f k : Nat) : Int) = ((f k : Nat) : Int) := by have := i64_xor_nat 0 (f k) (by omega) (by omega); simpa using this
          obtain ⟨u, hfu⟩ : ∃ u, f k = u := ⟨_, rfl⟩
          rw [hfu] at e1 hu hst hgst hxo
          have HU := Lib.hid hfu
          clear hfu
          have HST := Lib.hid hst
          have HGS := Lib.hid hgst
          have HF5 := Lib.hid hF5
          have hyc : (put (mpG P x f k) (k + 1) u) k = mpG P x f k k := by simp [put]
          have HYC := Lib.hid hyc
          have HY0 := Lib.hid hy0
          have i1 : (k : Int) + 1 < (t : Int) + 2 := by omega
          have i2 : (k : Int) < (t : Int) + 2 := by omega
          have i3 : (0 : Int) ≤ (k : Int) + 1 := by omega
          have i4 : (t : Int) < (r : Int) := by omega
          clear hst hgst hF5 hW hyc hy0
          go_wp2_with fail
          go_cut [10] (fun p wx => p = .slice (some ⟨nb, 0, none⟩) (t + 2) (t + 2) ∧ Wr wx .i64 nb (t + 2) (put (mpG P x f k) (k + 1) u) ∧ Φ wx)
          case first =>
            go_region
            all_goals
              go_wp2_with fail
              go_meet
              exact ⟨rfl, ⟨HST.out.cell, HST.out.free, HST.out.lt⟩, SD.out _ (SS.out _ _ _ HF5.out)⟩
          case rest =>
            obtain ⟨W5, rfl⟩ : ∃ x, x = wc := ⟨wc, rfl⟩
            obtain ⟨rfl, hW5, hF6⟩ := hcut
            have hyc := HYC.out
            have hgs := HGS.out
            have hy := HY0.out
            generalize mpG P x f k k = y0 at hyc hgs hy
            generalize put (mpG P x f k) (k + 1) u = F at hyc hgs hW5
            have hml := hF.mul_lt u x
            have hxr := i64_xor_nat y0 (mul P u x) (by omega) (by omega)
            have HM := Lib.hid (fun W => l01Mul_any m P n hF u x hu hx W)
            generalize mul P u x = z at hxr hgs HM
            have HXR := Lib.hid hxr
            have HGT := Lib.hid hgs
            have HYK := Lib.hid hyc
            have KA : Hid (∀ W, Φ W → Wr W .i64 nb (t + 2) F → W.cell? ⟨w.heap.size, 0, none⟩ = some (.int .i64 m) ∧ W.cell? ⟨w.heap.size, 1, none⟩ = some (.int .i64 P) ∧ W.cell? ⟨nb, k, none⟩ = some (.int .i64 (y0 : Nat)) ∧ W.cell? ⟨pb, k, none⟩ = some (.int .i64 (u : Nat)) ∧ W.cell? ⟨g, t, none⟩ = some (.int .i64 (x : Nat)) ∧ W.frozen? ⟨nb, k, none⟩ = false ∧ Φ W ∧ Wr W .i64 nb (t + 2) F) := Lib.hid fun W h hw =>
              ⟨(CA.out _ h).c0, (CA.out _ h).c1, by rw [hw.cell k (by omega), HYK.out], by have := CP.out _ h k hkt; rw [HU.out] at this; exact this, CX.out _ h, hw.free k, h, hw⟩
            have hK0 := KA.out W5.drew (SD.out _ hF6) ⟨hW5.cell, hW5.free, hW5.lt⟩
            clear hK0
            obtain ⟨Ψ, hΨ⟩ : ∃ Ψ : World → Prop, Ψ = fun W => Φ W ∧ Wr W .i64 nb (t + 2) F := ⟨_, rfl⟩
            have F0 : Ψ W5.drew := by rw [hΨ]; exact ⟨SD.out _ hF6, ⟨hW5.cell, hW5.free, hW5.lt⟩⟩
            have KB : Hid (∀ W, Ψ W → W.cell? ⟨w.heap.size, 0, none⟩ = some (.int .i64 m) ∧ W.cell? ⟨w.heap.size, 1, none⟩ = some (.int .i64 P) ∧ W.cell? ⟨nb, k, none⟩ = some (.int .i64 (y0 : Nat)) ∧ W.cell? ⟨pb, k, none⟩ = some (.int .i64 (u : Nat)) ∧ W.cell? ⟨g, t, none⟩ = some (.int .i64 (x : Nat)) ∧ W.frozen? ⟨nb, k, none⟩ = false) := Lib.hid fun W h => by
              rw [hΨ] at h
              obtain ⟨z0, z1, z2, z3, z4, z5, -, -⟩ := KA.out W h.1 h.2
              exact ⟨z0, z1, z2, z3, z4, z5⟩
            have KP : Hid (∀ W W', Ψ W → Below W.heap.size W W' → Ψ W') := Lib.hid fun W W' h hb => by
              rw [hΨ] at h ⊢
              exact ⟨SP.out _ _ h.1 hb, h.2.below hb⟩
            have KE : Hid (∀ W, Ψ W → Φ W ∧ Wr W .i64 nb (t + 2) F) := Lib.hid fun W h => by rw [hΨ] at h; exact h
            clear hΨ HST HGS HYC hyc hgs hxr hW5 hF6 HF5 HY0 e0 e1 e2 hxo
            go_wp2_with fail
            refine wp_region_S (n := 16) (S := Ψ) (by kernel_rfl) (by kernel_rfl) F0 (fun G inv hS => ?_)
            clear F0
            refine wpAnyS_take (i := 0) (v := ?_) G inv hS (by decide) rfl (by kernel_rfl) (by kernel_rfl) (fun _ _ _ h => h) (Or.inl ⟨by kernel_rfl, fun W hW => ?_⟩) (fun inv => ?_)
            rotate_left
            · obtain ⟨z0, z1, z2, z3, z4, z5⟩ := KB.out _ hW
              go_simp
              try with_reducible rfl
            try simp only [Act.put, List.setIfInBounds_toArray, List.set_cons_zero, List.set_cons_succ]
            refine wpAnyS_take (i := 1) (v := ?_) G inv hS (by decide) rfl (by kernel_rfl) (by kernel_rfl) (fun _ _ _ h => h) (Or.inl ⟨by kernel_rfl, fun W hW => ?_⟩) (fun inv => ?_)
            rotate_left
            · obtain ⟨z0, z1, z2, z3, z4, z5⟩ := KB.out _ hW
              go_simp
              try with_reducible rfl
            try simp only [Act.put, List.setIfInBounds_toArray, List.set_cons_zero, List.set_cons_succ]
            refine wpAnyS_take (i := 2) (v := ?_) G inv hS (by decide) rfl (by kernel_rfl) (by kernel_rfl) (fun _ _ _ h => h) (Or.inl ⟨by kernel_rfl, fun W hW => ?_⟩) (fun inv => ?_)
            rotate_left
            · obtain ⟨z0, z1, z2, z3, z4, z5⟩ := KB.out _ hW
              go_simp
              try with_reducible rfl
            try simp only [Act.put, List.setIfInBounds_toArray, List.set_cons_zero, List.set_cons_succ]
            refine wpAnyS_take (i := 3) (v := ?_) G inv hS (by decide) rfl (by kernel_rfl) (by kernel_rfl) (fun _ _ _ h => h) (Or.inl ⟨by kernel_rfl, fun W hW => ?_⟩) (fun inv => ?_)
            rotate_left
            · obtain ⟨z0, z1, z2, z3, z4, z5⟩ := KB.out _ hW
              go_simp
              try with_reducible rfl
            try simp only [Act.put, List.setIfInBounds_toArray, List.set_cons_zero, List.set_cons_succ]
            refine wpAnyS_take (i := 4) (v := .agg #[.int .i64 (m : Nat), .int .i64 (P : Nat)]) G inv hS (by decide) rfl (by kernel_rfl) (by kernel_rfl) (fun _ _ _ h => h) (Or.inl ⟨by kernel_rfl, fun W hW => ?_⟩) (fun inv => ?_)
            skip
            · obtain ⟨z0, z1, z2, z3, z4, z5⟩ := KB.out _ hW
              go_simp
              try with_reducible rfl
            try simp only [Act.put, List.setIfInBounds_toArray, List.set_cons_zero, List.set_cons_succ]
            refine wpAnyS_take (i := 5) (v := ?_) G inv hS (by decide) rfl (by kernel_rfl) (by kernel_rfl) (fun _ _ _ h => h) (Or.inl ⟨by kernel_rfl, fun W hW => ?_⟩) (fun inv => ?_)
            rotate_left
            · obtain ⟨z0, z1, z2, z3, z4, z5⟩ := KB.out _ hW
              go_simp
              try with_reducible rfl
            try simp only [Act.put, List.setIfInBounds_toArray, List.set_cons_zero, List.set_cons_succ]
            refine wpAnyS_take (i := 6) (v := ?_) G inv hS (by decide) rfl (by kernel_rfl) (by kernel_rfl) (fun _ _ _ h => h) (Or.inl ⟨by kernel_rfl, fun W hW => ?_⟩) (fun inv => ?_)
            rotate_left
            · obtain ⟨z0, z1, z2, z3, z4, z5⟩ := KB.out _ hW
              go_simp
              try with_reducible rfl
            try simp only [Act.put, List.setIfInBounds_toArray, List.set_cons_zero, List.set_cons_succ]
            refine wpAnyS_take (i := 7) (v := ?_) G inv hS (by decide) rfl (by kernel_rfl) (by kernel_rfl) (fun _ _ _ h => h) (Or.inl ⟨by kernel_rfl, fun W hW => ?_⟩) (fun inv => ?_)
            rotate_left
            · obtain ⟨z0, z1, z2, z3, z4, z5⟩ := KB.out _ hW
              go_simp
              try with_reducible rfl
            try simp only [Act.put, List.setIfInBounds_toArray, List.set_cons_zero, List.set_cons_succ]
            refine wpAnyS_take (i := 8) (v := ?_) G inv hS (by decide) rfl (by kernel_rfl) (by kernel_rfl) (fun _ _ _ h => h) (Or.inl ⟨by kernel_rfl, fun W hW => ?_⟩) (fun inv => ?_)
            rotate_left
            · obtain ⟨z0, z1, z2, z3, z4, z5⟩ := KB.out _ hW
              go_simp
              try with_reducible rfl
            try simp only [Act.put, List.setIfInBounds_toArray, List.set_cons_zero, List.set_cons_succ]
            refine wpAnyS_take (i := 9) (v := ?_) G inv hS (by decide) rfl (by kernel_rfl) (by kernel_rfl) (fun _ _ _ h => h) (Or.inl ⟨by kernel_rfl, fun W hW => ?_⟩) (fun inv => ?_)
            rotate_left
            · obtain ⟨z0, z1, z2, z3, z4, z5⟩ := KB.out _ hW
              go_simp
              try with_reducible rfl
            try simp only [Act.put, List.setIfInBounds_toArray, List.set_cons_zero, List.set_cons_succ]
            refine wpAnyS_take (i := 10) (v := ?_) G inv hS (by decide) rfl (by kernel_rfl) (by kernel_rfl) (fun _ _ _ h => h) (Or.inl ⟨by kernel_rfl, fun W hW => ?_⟩) (fun inv => ?_)
            rotate_left
            · obtain ⟨z0, z1, z2, z3, z4, z5⟩ := KB.out _ hW
              go_simp
              try with_reducible rfl
            try simp only [Act.put, List.setIfInBounds_toArray, List.set_cons_zero, List.set_cons_succ]
            refine wpAnyS_take (i := 11) (v := .pointer (some ⟨g, t, none⟩)) G inv hS (by decide) rfl (by kernel_rfl) (by kernel_rfl) (fun _ _ _ h => h) (Or.inl ⟨by kernel_rfl, fun W hW => ?_⟩) (fun inv => ?_)
            skip
            · obtain ⟨z0, z1, z2, z3, z4, z5⟩ := KB.out _ hW
              go_simp
              try with_reducible rfl
            try simp only [Act.put, List.setIfInBounds_toArray, List.set_cons_zero, List.set_cons_succ]
            refine wpAnyS_take (i := 12) (v := .int .i64 (x : Nat)) G inv hS (by decide) rfl (by kernel_rfl) (by kernel_rfl) (fun _ _ _ h => h) (Or.inl ⟨by kernel_rfl, fun W hW => ?_⟩) (fun inv => ?_)
            skip
            · obtain ⟨z0, z1, z2, z3, z4, z5⟩ := KB.out _ hW
              go_simp
              try with_reducible rfl
            try simp only [Act.put, List.setIfInBounds_toArray, List.set_cons_zero, List.set_cons_succ]
            refine wpAnyS_step (i := 13) (by kernel_rfl) rfl ?_
            go_wp2_with (go_at_call 39; with_reducible refine Calls.mono (HM.out _) ?_; rintro e w6 ⟨rfl, hb6⟩)
            have F2 : Ψ w6 := KP.out _ _ hS hb6
            change (13 ≠ 16 → Ψ w6) ∧ _
            refine ⟨fun _ => F2, ?_⟩
            have inv := HeadInv.setD (i := 13) inv (by kernel_rfl) (by decide)
            refine wpAnyS_take (i := 14) (v := ?_) G inv F2 (by decide) rfl (by kernel_rfl) (by kernel_rfl) (fun _ _ _ h => h) (Or.inl ⟨by kernel_rfl, fun W hW => ?_⟩) (fun inv => ?_)
            rotate_left
            · obtain ⟨z0, z1, z2, z3, z4, z5⟩ := KB.out _ hW
              go_simp
              try with_reducible rfl
            try simp only [Act.put, List.setIfInBounds_toArray, List.set_cons_zero, List.set_cons_succ]
            refine wpAnyS_take (i := 15) (v := ?_) G inv F2 (by decide) rfl (by kernel_rfl) (by kernel_rfl) (fun _ _ _ h => h) (Or.inl ⟨by kernel_rfl, fun W hW => ?_⟩) (fun inv => ?_)
            rotate_left
            · obtain ⟨z0, z1, z2, z3, z4, z5⟩ := KB.out _ hW
              go_simp
              try with_reducible rfl
            try simp only [Act.put, List.setIfInBounds_toArray, List.set_cons_zero, List.set_cons_succ]
            obtain ⟨z0, z1, z2, z3, z4, z5⟩ := KB.out _ F2
            have HE := Lib.hid (KE.out _ F2)
            refine wpAnyS_step (i := 16) (by kernel_rfl) rfl ?_
            go_wp2
            refine ⟨fun h => absurd rfl h, ?_⟩
            refine wpAnyS_done (by kernel_rfl) ?_ _
            clear inv G F2 hS z0 z1 z2 z3 z4 z5
            go_wp2_with fail
            go_roundw
            case rel =>
              exact ⟨k + 1, by go_num, by omega, by rw [HXR.out, ← HGT.out]; exact HE.out.2.set k (by omega) _, SS.out _ _ _ HE.out.1⟩
            case measure => simp [intOf]; omega
        · obtain rfl : k = t + 1 := by omega
          have HW5 := Lib.hid (hW.congr (f' := mpS P x f) (fun j hj => (mpG_end hF hx HTOP.out j hj).symm))
          have HF5 := Lib.hid hF5
          clear hW hF5
          go_wp2_with fail
          go_roundw
          case rel => exact ⟨t + 1, nb, _, rfl, by go_num, by omega, by rw [HNX.out]; exact HW5.out, CC.out _ HF5.out, CA.out _ HF5.out, CZ.out _ HF5.out⟩
          case measure => simp [intOf]; omega
    · obtain rfl : t = r := by omega
      have hbd := mpF_lt (a := a) hF t
      have hbd' : ∀ i, mpF P a t i < 32 := fun i => Nat.lt_of_lt_of_le (hbd i) h32
      have hv := HV.out
      generalize mpF P a t = f at hW hbd' hv
      have ho' : ∀ k, k ≤ 6 → mpO f k < 4611686018427387904 := fun k hk => Nat.lt_of_lt_of_le (mpO_lt hbd' k) (Nat.le_trans (Nat.pow_le_pow_right (n := 2) (by omega) (show k + 5 ≤ 11 by omega)) (by decide))
      have HBD := Lib.hid hbd'
      have HV' := Lib.hid hv
      have HW := Lib.hid hW
      have HB := Lib.hid hA.b
      clear hbd hbd' hv HV hW hC hA
      go_wp2_with fail
      go_loop [12, 13] (fun p i => ∃ k : Nat, k ≤ t + 1 ∧ i = .int .i64 k ∧ p = .int .i64 (mpO f k : Nat)) (fun _ i => t + 1 - (intOf i).toNat)
      case atStart => exact ⟨0, by omega, rfl, rfl⟩
      case round =>
        obtain ⟨k, hk, rfl, rfl⟩ := hrel
        by_cases h6 : k < t + 1
        · have d := HW.out.cell k h6
          have hxk := HBD.out k
          have O := Lib.hid (show bits .or .i64 ((mpO f k : Nat) : Int) ((f k : Nat) * 2 ^ k) = ((mpO f (k + 1) : Nat) : Int) from or_step _ _ k (ho' k (by omega)) (HBD.out k) (by omega))
          generalize mpO f k = o at O ⊢
          generalize f k = z at d hxk O
          have hk5 : k ≤ 5 := by omega
          have eu : (IntKind.u64.wrap (k : Int)).toNat = k := by rw [IntKind.wrap_u64]; omega
          have em : min k 64 = k := by omega
          have h2k : 2 ^ k ≤ 2 ^ 5 := Nat.pow_le_pow_right (by omega) hk5
          have ezb : z * 2 ^ k ≤ 31 * 32 := Nat.mul_le_mul (by omega) h2k
          have ew : IntKind.i64.wrap ((z : Int) * 2 ^ k) = (z : Int) * 2 ^ k := by
            have e : (z : Int) * 2 ^ k = ((z * 2 ^ k : Nat) : Int) := by simp
            rw [e, IntKind.wrap_i64]; omega
          go_wp2_with fail
          go_round
          case rel => exact ⟨k + 1, by omega, by go_num, by have := O.out; rw [this]⟩
          case measure => simp [intOf]; omega
        · obtain rfl : k = t + 1 := by omega
          rw [← HV'.out]
          go_wp2_with fail
          go_ret2
          exact ⟨rfl, HB.out⟩
end Go.Proofs.Ytpjnpkgndghlhaa
