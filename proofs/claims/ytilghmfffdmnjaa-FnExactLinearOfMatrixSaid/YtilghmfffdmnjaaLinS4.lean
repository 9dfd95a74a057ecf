/- The model's composition of linear polynomials. -/
import Derived.Test.YtilghmfffdmnjaaLinS3
import Derived.Test.YtilghmfffdmnjaaHeld2
namespace Go.Proofs.Ytilghmfffdmnjaa
open Go.RowKit Go.Joins
set_option linter.unusedVariables false
set_option linter.unusedSimpArgs false

theorem Wr.drewN' {W : World} {K : IntKind} {g n : Nat} {f : Nat → Nat} (h : Wr W K g n f) (k : Nat) : Wr (W.drewN k) K g n f := h.same rfl
/-- What a list of the model's looks like, of the call's own: a literal without elements, too. -/
structure Rs (W : World) (B : Nat) (A : Option Addr) (n cap : Nat) (p : List Nat) : Prop where
  sv : Sv W A n cap p
  res : n ≤ 1048576 → Res W B W.heap.size (.slice A n cap) (ints p)
theorem OL.rs {W : World} {B : Nat} {A : Option Addr} {n cap : Nat} {p : List Nat} (h : OL W B A n cap p) {B' : Nat} (hB : B' ≤ B) : Rs W B' A n cap p := ⟨h.sv, fun hn => h.res hn hB⟩

set_option maxRecDepth 100000 in
set_option maxHeartbeats 6400000 in
theorem l03Compose_any (m P n : Nat) (hF : Fld m P n) (A B : Option Addr) (k l ca cb : Nat) (p q : List Nat) (hp : ∀ j, nth p j < n) (hq : ∀ j, nth q j < n) (tp : Trm p) (tq : Trm q) (hk : k ≤ 100000) (hl : l ≤ 100000) (w : World) (hS : Sv w A k ca p) (hT : Sv w B l cb q) :
    Calls Try.prog 113 #[.agg #[.int .i64 m, .int .i64 P], .slice A k ca, .slice B l cb] w fun e w' => ∃ D r cd, e = .returned (.slice D r cd) ∧ Below w.heap.size w w' ∧ Rs w' w.heap.size D r cd (cmp P p q) := by
  obtain ⟨i0, hi, hz0, hz1, hz2⟩ := info_parts Try.infoI
  have h32 := hF.n32
  have hkp := hS.len
  have hlq := hT.len
  have HP := Lib.hid hp
  have HQ := Lib.hid hq
  have HS := Lib.hid hS
  have HT := Lib.hid hT
  have HTR := Lib.hid (cmp_trm hF tp tq hp hq)
  clear hp hq hS hT
  by_cases h0 : k = 0 ∨ l = 0
  · have e0 : cmp P p q = [] := by unfold cmp; rw [if_pos (by rw [hkp, hlq]; exact h0)]
    rw [e0]
    rcases h0 with rfl | rfl
    · go_enter Try.func113, Try.ntmps113
      go_wp2
      go_ret
      exact ⟨_, _, _, rfl, (below_alloc1 w _).alloc (by simp) _, ⟨rfl, Nat.le_refl _, (fun e => by cases e), fun h => by omega⟩, fun _ => .nil _ _⟩
    · by_cases hk0 : k = 0
      · subst hk0
        go_enter Try.func113, Try.ntmps113
        go_wp2
        go_ret
        exact ⟨_, _, _, rfl, (below_alloc1 w _).alloc (by simp) _, ⟨rfl, Nat.le_refl _, (fun e => by cases e), fun h => by omega⟩, fun _ => .nil _ _⟩
      · have g1 : ((k : Int) == 0) = false := by simp; omega
        go_enter Try.func113, Try.ntmps113
        go_wp2
        go_ret
        exact ⟨_, _, _, rfl, (below_alloc1 w _).alloc (by simp) _, ⟨rfl, Nat.le_refl _, (fun e => by cases e), fun h => by omega⟩, fun _ => .nil _ _⟩
  have hk0 : ¬ k = 0 := by omega
  have hl0 : ¬ l = 0 := by omega
  clear h0
  have g1 : ((k : Int) == 0) = false := by simp; omega
  have g2 : ((l : Int) == 0) = false := by simp; omega
  obtain ⟨N, hN⟩ : ∃ N, k + l - 1 = N := ⟨_, rfl⟩
  have eN : (k : Int) + (l : Int) - 1 = (N : Int) := by omega
  have eN2 : IntKind.i64.wrap ((k : Int) + (l : Int)) = (k : Int) + (l : Int) := by rw [IntKind.wrap_i64]; omega
  have eN3 : IntKind.i64.wrap ((k : Int) + (l : Int) - 1) = (N : Int) := by rw [IntKind.wrap_i64]; omega
  have eC : cmp P p q = lst (call P p q k) N := by unfold cmp; rw [if_neg (by omega), hkp, hlq, hN, cmpF, hkp]
  have HEC := Lib.hid eC
  clear eC
  go_enter Try.func113, Try.ntmps113
  have hA0 := FAt.start w m P 23
  have HA0 := Lib.hid hA0
  clear hA0
  go_wp2_with (at_make; refine wpList_make_full _ rfl _ _ 46 rfl (w.heap.size + 1) 2 i0 (.int .i64 0) 1 Try.underlying46 hi hz0 hz1 .i64 .i64 _ _ N rfl rfl (by first | rfl | omega) (by first | rfl | omega) (by rw [hz2]; omega) (by unfold maxLen; omega) (by simp) ?_; intro w1 hown hgrow)
  have hA1 := Lib.hid (HA0.out.next ((Below.refl _ _).grown hgrow (Nat.le_refl _) (fun k h => by cases h)))
  have HW := Lib.hid (Wr.made (K := .i64) hown)
  have HN := Lib.hid hN
  have hz1' : (w.alloc (.cells #[.int .i64 m, .int .i64 P] 23)).heap.size = w.heap.size + 1 := by simp
  clear hown hgrow hz0 hz1 hz2 hi hN eN eN2 eN3 HA0
  rw [hz1'] at HW
  go_loopw [8] (fun i wr => ∃ (I : Nat), I ≤ k ∧ i = .int .i64 I ∧ FAt w m P wr ∧ Wr wr .i64 (w.heap.size + 1) N (call P p q I)) (fun i _ => k - (intOf i).toNat)
  case atStart => exact ⟨0, Nat.zero_le _, rfl, hA1.out, HW.out⟩
  case round =>
    obtain ⟨I, hI, rfl, hA, hW⟩ := hrel
    clear HW hA1
    by_cases hlt : I < k
    · have HA2 := Lib.hid hA
      have HW2 := Lib.hid hW
      clear hA hW
      go_wp2
      go_loopw [9] (fun i wr => ∃ (J : Nat), J ≤ l ∧ i = .int .i64 J ∧ FAt w m P wr ∧ Wr wr .i64 (w.heap.size + 1) N (crow P p q I (call P p q I) J)) (fun i _ => l - (intOf i).toNat)
      case atStart => exact ⟨0, Nat.zero_le _, rfl, HA2.out, HW2.out⟩
      case round =>
        obtain ⟨J, hJ, rfl, hA0, hW0⟩ := hrel
        clear HW2 HA2
        by_cases hltJ : J < l
        · have hA := hA0.drew
          have hW := hW0.drewN' 1
          obtain ⟨g, rfl, hg, hc⟩ := HS.out.row (by omega)
          have hck0 := hc I hlt
          obtain ⟨g2, rfl, hg2, hc2⟩ := HT.out.row (by omega)
          have hcq0 := hc2 J hltJ
          clear hc hc2
          have hx := HP.out I
          obtain ⟨x, hxe⟩ : ∃ x, nth p I = x := ⟨_, rfl⟩
          rw [hxe] at hck0 hx
          have HX := Lib.hid hxe
          clear hxe
          have hy := HQ.out J
          obtain ⟨y, hye⟩ : ∃ y, nth q J = y := ⟨_, rfl⟩
          rw [hye] at hcq0 hy
          have HY := Lib.hid hye
          clear hye
          have HCK := Lib.hid hck0
          have HCQ := Lib.hid hcq0
          clear hck0 hcq0
          have hIJ : I + J < N := by have := HN.out; omega
          have hvl := crow_lt hF p q I (call_lt hF p q I) J (I + J)
          have hcw0 := hW0.cell (I + J) hIJ
          obtain ⟨v, hv⟩ : ∃ v, crow P p q I (call P p q I) J (I + J) = v := ⟨_, rfl⟩
          rw [hv] at hcw0 hvl
          have HV := Lib.hid hv
          have hs := sq_lt hF hy I
          obtain ⟨s, hse⟩ : ∃ s, sq P y I = s := ⟨_, rfl⟩
          have HSQ := Lib.hid (fun W => l01Square_any m P n hF y hy I (by omega) W)
          rw [hse] at hs HSQ
          have hm := hF.mul_lt x s
          have HXR := Lib.hid (i64_xor_nat v (mul P x s) (by omega) (by omega))
          have HCR : Hid (∀ j, crow P p q I (call P p q I) (J + 1) j = put (crow P p q I (call P p q I) J) (I + J) (v ^^^ mul P x s) j) := fun j => by
            rw [← hv, ← HX.out, ← hse, ← HY.out]; rfl
          clear hv hse
          have e3 : IntKind.i64.wrap ((I : Int) + (J : Int)) = (I : Int) + (J : Int) := by rw [IntKind.wrap_i64]; omega
          have e4 : (0 : Int) ≤ (I : Int) + (J : Int) := by omega
          have e5 : (I : Int) + (J : Int) < (N : Int) := by omega
          have e6 : ((I : Int) + (J : Int)).toNat = I + J := by omega
          obtain ⟨Φ, hΦ⟩ : ∃ Φ : World → Prop, Φ = fun W => FAt w m P W ∧ Wr W .i64 (w.heap.size + 1) N (crow P p q I (call P p q I) J) := ⟨_, rfl⟩
          have F0 : Φ wr.drew := by rw [hΦ]; exact ⟨hA, hW⟩
          have SP : Hid (∀ W W', Φ W → Below W.heap.size W W' → Φ W') := fun W W' h hb => by rw [hΦ] at h ⊢; exact ⟨h.1.next hb, h.2.below hb⟩
          have CA : Hid (∀ W, Φ W → FAt w m P W) := fun W h => by rw [hΦ] at h; exact h.1
          have CP : Hid (∀ W, Φ W → W.cell? ⟨g, I, none⟩ = some (.int .i64 (x : Int))) := fun W h => by rw [hΦ] at h; exact (h.1.b.cell (p := ⟨g, I, none⟩) hg).trans HCK.out
          have CQ : Hid (∀ W, Φ W → W.cell? ⟨g2, J, none⟩ = some (.int .i64 (y : Int))) := fun W h => by rw [hΦ] at h; exact (h.1.b.cell (p := ⟨g2, J, none⟩) hg2).trans HCQ.out
          have CPF : Hid (∀ W, FAt w m P W → W.cell? ⟨g, I, none⟩ = some (.int .i64 (x : Int))) := fun W h => (h.b.cell (p := ⟨g, I, none⟩) hg).trans HCK.out
          have CQF : Hid (∀ W, FAt w m P W → W.cell? ⟨g2, J, none⟩ = some (.int .i64 (y : Int))) := fun W h => (h.b.cell (p := ⟨g2, J, none⟩) hg2).trans HCQ.out
          have CW : Hid (∀ W, Φ W → W.cell? ⟨w.heap.size + 1, I + J, none⟩ = some (.int .i64 (v : Int))) := fun W h => by rw [hΦ] at h; have := h.2.cell (I + J) hIJ; rwa [HV.out] at this
          have CF : Hid (∀ W, Φ W → W.frozen? ⟨w.heap.size + 1, I + J, none⟩ = false) := fun W h => by rw [hΦ] at h; exact h.2.free _
          have CN : Hid (∀ W, Φ W → FAt w m P (W.setCell ⟨w.heap.size + 1, I + J, none⟩ (.int .i64 (bits .xor .i64 (v : Int) (mul P x s : Nat)))) ∧ Wr (W.setCell ⟨w.heap.size + 1, I + J, none⟩ (.int .i64 (bits .xor .i64 (v : Int) (mul P x s : Nat)))) .i64 (w.heap.size + 1) N (crow P p q I (call P p q I) (J + 1))) := fun W h => by
            rw [hΦ] at h
            rw [HXR.out]
            refine ⟨?_, (h.2.set (I + J) hIJ _).congr fun j hj => HCR.out j⟩
            have hz := h.1.z
            refine ⟨below_set h.1.b _ _ (by omega) _, by show _ ≤ (Array.modify _ _ _).size; rw [Array.size_modify]; exact hz, ?_, ?_⟩
            · rw [World.cell?_setCell_other _ ⟨w.heap.size + 1, I + J, none⟩ ⟨w.heap.size, 0, none⟩ _ (fun e => by injection e with e; omega)]; exact h.1.c0
            · rw [World.cell?_setCell_other _ ⟨w.heap.size + 1, I + J, none⟩ ⟨w.heap.size, 1, none⟩ _ (fun e => by injection e with e; omega)]; exact h.1.c1
          have a0 := (CA.out _ F0).c0
          have a1 := (CA.out _ F0).c1
          have a2 := CP.out _ F0
          have a3 := CQ.out _ F0
          have a4 := CW.out _ F0
          have a5 := CF.out _ F0
          clear hΦ hA hW hA0 hW0 hcw0
          go_wp2
          refine wp_region_S (n := 21) (S := Φ) (by kernel_rfl) (by kernel_rfl) F0 (fun G inv hS => ?_)
          refine wpAnyS_take (i := 0) (v := ?_) G inv hS (by decide) rfl (by kernel_rfl) (by kernel_rfl) (fun _ _ _ h => h) (Or.inl ⟨by rfl, fun W hW => ?_⟩) (fun inv => ?_)
          rotate_left
          · have z0 := (CA.out _ hW).c0
            have z1 := (CA.out _ hW).c1
            have z2 := CP.out _ hW
            have z3 := CQ.out _ hW
            have z4 := CW.out _ hW
            go_simp
            try with_reducible rfl
          try simp only [Act.put, List.setIfInBounds_toArray, List.set_cons_zero, List.set_cons_succ]
          refine wpAnyS_take (i := 1) (v := ?_) G inv hS (by decide) rfl (by kernel_rfl) (by kernel_rfl) (fun _ _ _ h => h) (Or.inl ⟨by rfl, fun W hW => ?_⟩) (fun inv => ?_)
          rotate_left
          · have z0 := (CA.out _ hW).c0
            have z1 := (CA.out _ hW).c1
            have z2 := CP.out _ hW
            have z3 := CQ.out _ hW
            have z4 := CW.out _ hW
            go_simp
            try with_reducible rfl
          try simp only [Act.put, List.setIfInBounds_toArray, List.set_cons_zero, List.set_cons_succ]
          refine wpAnyS_take (i := 2) (v := ?_) G inv hS (by decide) rfl (by kernel_rfl) (by kernel_rfl) (fun _ _ _ h => h) (Or.inl ⟨by rfl, fun W hW => ?_⟩) (fun inv => ?_)
          rotate_left
          · have z0 := (CA.out _ hW).c0
            have z1 := (CA.out _ hW).c1
            have z2 := CP.out _ hW
            have z3 := CQ.out _ hW
            have z4 := CW.out _ hW
            go_simp
            try with_reducible rfl
          try simp only [Act.put, List.setIfInBounds_toArray, List.set_cons_zero, List.set_cons_succ]
          refine wpAnyS_take (i := 3) (v := ?_) G inv hS (by decide) rfl (by kernel_rfl) (by kernel_rfl) (fun _ _ _ h => h) (Or.inl ⟨by rfl, fun W hW => ?_⟩) (fun inv => ?_)
          rotate_left
          · have z0 := (CA.out _ hW).c0
            have z1 := (CA.out _ hW).c1
            have z2 := CP.out _ hW
            have z3 := CQ.out _ hW
            have z4 := CW.out _ hW
            go_simp
            try with_reducible rfl
          try simp only [Act.put, List.setIfInBounds_toArray, List.set_cons_zero, List.set_cons_succ]
          refine wpAnyS_take (i := 4) (v := ?_) G inv hS (by decide) rfl (by kernel_rfl) (by kernel_rfl) (fun _ _ _ h => h) (Or.inl ⟨by rfl, fun W hW => ?_⟩) (fun inv => ?_)
          rotate_left
          · have z0 := (CA.out _ hW).c0
            have z1 := (CA.out _ hW).c1
            have z2 := CP.out _ hW
            have z3 := CQ.out _ hW
            have z4 := CW.out _ hW
            go_simp
            try with_reducible rfl
          try simp only [Act.put, List.setIfInBounds_toArray, List.set_cons_zero, List.set_cons_succ]
          refine wpAnyS_take (i := 5) (v := ?_) G inv hS (by decide) rfl (by kernel_rfl) (by kernel_rfl) (fun _ _ _ h => h) (Or.inl ⟨by rfl, fun W hW => ?_⟩) (fun inv => ?_)
          rotate_left
          · have z0 := (CA.out _ hW).c0
            have z1 := (CA.out _ hW).c1
            have z2 := CP.out _ hW
            have z3 := CQ.out _ hW
            have z4 := CW.out _ hW
            go_simp
            try with_reducible rfl
          try simp only [Act.put, List.setIfInBounds_toArray, List.set_cons_zero, List.set_cons_succ]
          refine wpAnyS_take (i := 6) (v := ?_) G inv hS (by decide) rfl (by kernel_rfl) (by kernel_rfl) (fun _ _ _ h => h) (Or.inl ⟨by rfl, fun W hW => ?_⟩) (fun inv => ?_)
          rotate_left
          · have z0 := (CA.out _ hW).c0
            have z1 := (CA.out _ hW).c1
            have z2 := CP.out _ hW
            have z3 := CQ.out _ hW
            have z4 := CW.out _ hW
            go_simp
            try with_reducible rfl
          try simp only [Act.put, List.setIfInBounds_toArray, List.set_cons_zero, List.set_cons_succ]
          refine wpAnyS_take (i := 7) (v := ?_) G inv hS (by decide) rfl (by kernel_rfl) (by kernel_rfl) (fun _ _ _ h => h) (Or.inl ⟨by rfl, fun W hW => ?_⟩) (fun inv => ?_)
          rotate_left
          · have z0 := (CA.out _ hW).c0
            have z1 := (CA.out _ hW).c1
            have z2 := CP.out _ hW
            have z3 := CQ.out _ hW
            have z4 := CW.out _ hW
            go_simp
            try with_reducible rfl
          try simp only [Act.put, List.setIfInBounds_toArray, List.set_cons_zero, List.set_cons_succ]
          refine wpAnyS_take (i := 8) (v := ?_) G inv hS (by decide) rfl (by kernel_rfl) (by kernel_rfl) (fun _ _ _ h => h) (Or.inl ⟨by rfl, fun W hW => ?_⟩) (fun inv => ?_)
          rotate_left
          · have z0 := (CA.out _ hW).c0
            have z1 := (CA.out _ hW).c1
            have z2 := CP.out _ hW
            have z3 := CQ.out _ hW
            have z4 := CW.out _ hW
            go_simp
            try with_reducible rfl
          try simp only [Act.put, List.setIfInBounds_toArray, List.set_cons_zero, List.set_cons_succ]
          refine wpAnyS_take (i := 9) (v := ?_) G inv hS (by decide) rfl (by kernel_rfl) (by kernel_rfl) (fun _ _ _ h => h) (Or.inl ⟨by rfl, fun W hW => ?_⟩) (fun inv => ?_)
          rotate_left
          · have z0 := (CA.out _ hW).c0
            have z1 := (CA.out _ hW).c1
            have z2 := CP.out _ hW
            have z3 := CQ.out _ hW
            have z4 := CW.out _ hW
            go_simp
            try with_reducible rfl
          try simp only [Act.put, List.setIfInBounds_toArray, List.set_cons_zero, List.set_cons_succ]
          refine wpAnyS_take (i := 10) (v := ?_) G inv hS (by decide) rfl (by kernel_rfl) (by kernel_rfl) (fun _ _ _ h => h) (Or.inl ⟨by rfl, fun W hW => ?_⟩) (fun inv => ?_)
          rotate_left
          · have z0 := (CA.out _ hW).c0
            have z1 := (CA.out _ hW).c1
            have z2 := CP.out _ hW
            have z3 := CQ.out _ hW
            have z4 := CW.out _ hW
            go_simp
            try with_reducible rfl
          try simp only [Act.put, List.setIfInBounds_toArray, List.set_cons_zero, List.set_cons_succ]
          refine wpAnyS_take (i := 11) (v := ?_) G inv hS (by decide) rfl (by kernel_rfl) (by kernel_rfl) (fun _ _ _ h => h) (Or.inl ⟨by rfl, fun W hW => ?_⟩) (fun inv => ?_)
          rotate_left
          · have z0 := (CA.out _ hW).c0
            have z1 := (CA.out _ hW).c1
            have z2 := CP.out _ hW
            have z3 := CQ.out _ hW
            have z4 := CW.out _ hW
            go_simp
            try with_reducible rfl
          try simp only [Act.put, List.setIfInBounds_toArray, List.set_cons_zero, List.set_cons_succ]
          refine wpAnyS_take (i := 12) (v := ?_) G inv hS (by decide) rfl (by kernel_rfl) (by kernel_rfl) (fun _ _ _ h => h) (Or.inl ⟨by rfl, fun W hW => ?_⟩) (fun inv => ?_)
          rotate_left
          · have z0 := (CA.out _ hW).c0
            have z1 := (CA.out _ hW).c1
            have z2 := CP.out _ hW
            have z3 := CQ.out _ hW
            have z4 := CW.out _ hW
            go_simp
            try with_reducible rfl
          try simp only [Act.put, List.setIfInBounds_toArray, List.set_cons_zero, List.set_cons_succ]
          refine wpAnyS_take (i := 13) (v := ?_) G inv hS (by decide) rfl (by kernel_rfl) (by kernel_rfl) (fun _ _ _ h => h) (Or.inl ⟨by rfl, fun W hW => ?_⟩) (fun inv => ?_)
          rotate_left
          · have z0 := (CA.out _ hW).c0
            have z1 := (CA.out _ hW).c1
            have z2 := CP.out _ hW
            have z3 := CQ.out _ hW
            have z4 := CW.out _ hW
            go_simp
            try with_reducible rfl
          try simp only [Act.put, List.setIfInBounds_toArray, List.set_cons_zero, List.set_cons_succ]
          refine wpAnyS_take (i := 14) (v := ?_) G inv hS (by decide) rfl (by kernel_rfl) (by kernel_rfl) (fun _ _ _ h => h) (Or.inl ⟨by rfl, fun W hW => ?_⟩) (fun inv => ?_)
          rotate_left
          · have z0 := (CA.out _ hW).c0
            have z1 := (CA.out _ hW).c1
            have z2 := CP.out _ hW
            have z3 := CQ.out _ hW
            have z4 := CW.out _ hW
            go_simp
            try with_reducible rfl
          try simp only [Act.put, List.setIfInBounds_toArray, List.set_cons_zero, List.set_cons_succ]
          refine wpAnyS_take (i := 15) (v := ?_) G inv hS (by decide) rfl (by kernel_rfl) (by kernel_rfl) (fun _ _ _ h => h) (Or.inl ⟨by rfl, fun W hW => ?_⟩) (fun inv => ?_)
          rotate_left
          · have z0 := (CA.out _ hW).c0
            have z1 := (CA.out _ hW).c1
            have z2 := CP.out _ hW
            have z3 := CQ.out _ hW
            have z4 := CW.out _ hW
            go_simp
            try with_reducible rfl
          try simp only [Act.put, List.setIfInBounds_toArray, List.set_cons_zero, List.set_cons_succ]
          refine wpAnyS_take (i := 16) (v := ?_) G inv hS (by decide) rfl (by kernel_rfl) (by kernel_rfl) (fun _ _ _ h => h) (Or.inl ⟨by rfl, fun W hW => ?_⟩) (fun inv => ?_)
          rotate_left
          · have z0 := (CA.out _ hW).c0
            have z1 := (CA.out _ hW).c1
            have z2 := CP.out _ hW
            have z3 := CQ.out _ hW
            have z4 := CW.out _ hW
            go_simp
            try with_reducible rfl
          try simp only [Act.put, List.setIfInBounds_toArray, List.set_cons_zero, List.set_cons_succ]
          refine wpAnyS_step (i := 17) (by kernel_rfl) rfl ?_
          go_wp2_with (go_at_call 122; refine (HSQ.out _).mono ?_; rintro e w1 ⟨rfl, hb1⟩)
          have F1 : Φ w1 := SP.out _ _ hS hb1
          clear hb1
          change (17 ≠ 21 → Φ w1) ∧ _
          refine ⟨fun _ => F1, ?_⟩
          refine wpAnyS_step (i := 18) (by kernel_rfl) rfl ?_
          go_wp2_with (go_at_call 86; refine (l01Mul_any _ _ _ hF _ _ hx hs _).mono ?_; rintro e w2 ⟨rfl, hb2⟩)
          have F2 : Φ w2 := SP.out _ _ F1 hb2
          clear hb2
          change (18 ≠ 21 → Φ w2) ∧ _
          refine ⟨fun _ => F2, ?_⟩
          refine wpAnyS_step (i := 19) (by kernel_rfl) rfl ?_
          go_wp2
          change (19 ≠ 21 → Φ w2) ∧ _
          refine ⟨fun _ => F2, ?_⟩
          refine wpAnyS_step (i := 20) (by kernel_rfl) rfl ?_
          go_wp2
          change (20 ≠ 21 → Φ w2) ∧ _
          refine ⟨fun _ => F2, ?_⟩
          refine wpAnyS_step (i := 21) (by kernel_rfl) rfl ?_
          have d4 := CW.out _ F2
          have d5 := CF.out _ F2
          go_wp2
          refine ⟨fun h => absurd rfl h, ?_⟩
          refine wpAnyS_done (by kernel_rfl) ?_ _
          have HEND := CN.out _ F2
          go_wp2
          go_roundw
          case rel => exact ⟨J + 1, by omega, by go_num, HEND.1, HEND.2⟩
          case measure => simp [intOf]; omega
        · obtain rfl : J = l := by omega
          have HA2 := Lib.hid hA0
          have HW2 := Lib.hid hW0
          clear hA0 hW0
          go_wp2
          go_roundw
          case rel => exact ⟨I + 1, by omega, by go_num, HA2.out, by
            have h1 := HW2.out
            simp only [call]
            rw [hlq]
            exact h1⟩
          case measure => simp [intOf]; omega
    · obtain rfl : I = k := by omega
      have HA2 := Lib.hid hA
      have hT3 := l03Trim_any (some ⟨w.heap.size + 1, 0, none⟩) N N (lst (call P p q I) N) (by have := HN.out; omega) wr hW.sv
      rw [← HEC.out, trim_id HTR.out] at hT3
      have HT3 := Lib.hid hT3
      clear hT3 hA hW
      go_wp2_with (go_at_call 108; refine HT3.out.mono ?_; rintro e w2 ⟨A', k', cap', rfl, hb2, hO2⟩)
      go_ret
      have hs := HA2.out.b.size
      exact ⟨_, _, _, rfl, HA2.out.b.trans (hb2.mono hs), hO2.rs hs⟩
end Go.Proofs.Ytilghmfffdmnjaa
