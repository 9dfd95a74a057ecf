/- The word of a message: the program's. -/
import Derived.Test.YtljaabmemjehpaaValidCode
namespace Go.Proofs.Ytljaabmemjehpaa
open Go.RowKit Go.Joins
set_option linter.unusedVariables false
set_option linter.unusedSimpArgs false

/-- The word of a message, row after row. -/
def encP (P len : Nat) (hs : Nat → List Nat) (p : List Nat) : Nat → List Nat
  | 0 => lst (fun _ => 0) len
  | j + 1 => xorW (encP P len hs p j) (scl P (nth p j) (hs j)) len
theorem encP_len (P len : Nat) (hs : Nat → List Nat) (p : List Nat) (j : Nat) : (encP P len hs p j).length = len := by
  cases j with
  | zero => exact lst_length _ _
  | succ j => exact lst_length _ _
theorem encP_lt {m P N : Nat} (hF : Fld m P N) {len n : Nat} {hs : Nat → List Nat} {p : List Nat} (hp : ∀ j, nth p j < N) (hl : ∀ j, j < n → (hs j).length = len ∧ ∀ i, nth (hs j) i < N) : ∀ j, j ≤ n → ∀ i, nth (encP P len hs p j) i < N := by
  intro j
  induction j with
  | zero =>
    intro _ i
    rcases Nat.lt_or_ge i len with h | h
    · rw [encP, lst_nth _ h]; have := hF.n2; show 0 < N; omega
    · rw [nth_ge (by rw [encP_len]; exact h)]; have := hF.n2; omega
  | succ j ih =>
    intro hj i
    rw [encP, nth_xorW (encP_len ..) (by rw [scl, lst_length]; exact (hl j (by omega)).1), nth_scl' hF (hp j)]
    exact hF.xor_lt (ih (by omega) i) (hF.mul_lt _ _)

set_option maxRecDepth 100000 in
set_option maxHeartbeats 12800000 in
theorem encoded_any (m P N : Nat) (hF : Fld m P N) (q c : Nat) (d p : Int) (B len n : Nat) (hl0 : 0 < len) (hl5 : len ≤ 5) (hn : n ≤ 900) (v : Value) (hs : Nat → List Nat) (vs : Nat → Value) (b : Nat → Nat) (hlt : ∀ j, j < n → ∀ i, nth (hs j) i < N) (A : Option Addr) (cp : Nat) (pw : List Nat) (hpw : ∀ j, nth pw j < N) (w : World) (hK : KA w q c d p m P N B len n v hs vs b) (hR : Rl w .u8 A n pw) :
    Calls Try.prog 71 #[.pointer (some ⟨q, 0, none⟩), .slice A n cp] w fun e w' => ∃ g, e = .returned (.slice (some ⟨g, 0, none⟩) len len) ∧ w.heap.size ≤ g ∧ Below w.heap.size w w' ∧ Rl w' .u8 (some ⟨g, 0, none⟩) len (encP P len hs pw n) := by
  obtain ⟨i0, hi, hz0, hz1, hz2⟩ := info_parts Try.infoE
  have hN32 := hF.n32
  have HK := Lib.hid hK
  have HLT := Lib.hid hlt
  have HPW := Lib.hid hpw
  have HR := Lib.hid hR
  have HEL : Hid (∀ j, j ≤ n → ∀ i, nth (encP P len hs pw j) i < N) := Lib.hid (encP_lt hF hpw (fun j hj => ⟨(hK.r.row j hj).len, hlt j hj⟩))
  have x3 := hK.x.b.cell 3 _ rfl
  have HV : ∃ A0 c0, v = .slice A0 n c0 := by
    rcases ownsRow_forms hK.r.head with ⟨rfl, rfl⟩ | ⟨g, cap, rfl⟩
    · exact ⟨_, _, rfl⟩
    · exact ⟨_, _, rfl⟩
  obtain ⟨A0, c0, rfl⟩ := HV
  clear hK hlt hpw hR
  go_enter Try.func71, Try.ntmps71
  go_wp2_with (at_make; refine wpList_make_full _ rfl _ _ 96 rfl w.heap.size 109 i0 (.int .u8 0) 1 Try.underlying96 hi hz0 hz1 .i64 .i64 _ _ len rfl rfl rfl rfl (by rw [hz2]; omega) (by unfold maxLen; omega) (Nat.le_refl _) ?_; intro w1 hown hgrow)
  have hb1 : Below w.heap.size w w1 := (Below.refl _ w).grown hgrow (Nat.le_refl _) (fun k h => by cases h)
  have HW := Lib.hid (Wr.made (K := .u8) hown)
  have HB := Lib.hid hb1
  clear hown hgrow hz0 hz1 hz2 hi hb1 x3
  go_loopw [5, 15] (fun wv iv wr => ∃ (j g : Nat), j ≤ n ∧ iv = .int .i64 j ∧ wv = .slice (some ⟨g, 0, none⟩) len len ∧ w.heap.size ≤ g ∧ Below w.heap.size w wr ∧ Rl wr .u8 (some ⟨g, 0, none⟩) len (encP P len hs pw j)) (fun _ iv _ => n - (intOf iv).toNat)
  case atStart => exact ⟨0, w.heap.size, Nat.zero_le _, rfl, rfl, Nat.le_refl _, HB.out, by rw [encP]; exact HW.out.rl⟩
  case round =>
    obtain ⟨j, ge, hj, rfl, rfl, hge0, hb, hE⟩ := hrel
    clear HW HB
    by_cases hlt : j < n
    · have hK := HK.out.next hb
      obtain ⟨g, cap, cj, e, hgB, hgl, hck, hvj, hfr⟩ := hK.r.at hlt
      injection e with e1 e2 e3
      subst e1 e3
      obtain ⟨bj, hbj⟩ : ∃ x, b j = x := ⟨_, rfl⟩
      rw [hbj] at hck
      obtain ⟨gp, rfl, hgp, hcp⟩ := (HR.out.below hb).row (by omega)
      have hcj := hcp j hlt
      have hxN := HPW.out j
      obtain ⟨x, hx⟩ : ∃ x, nth pw j = x := ⟨_, rfl⟩
      rw [hx] at hcj hxN
      have HX := Lib.hid hx
      have HBJ := Lib.hid hbj
      obtain ⟨Φ, hΦ⟩ : ∃ Φ : World → Prop, Φ = fun W => KA W q c d p m P N B len n (.slice (some ⟨g, 0, none⟩) n c0) hs vs b ∧ Rl W .u8 (some ⟨ge, 0, none⟩) len (encP P len hs pw j) ∧ Below w.heap.size w W := ⟨_, rfl⟩
      have F0 : Φ wr.drew := by rw [hΦ]; exact ⟨hK.next (Below.refl _ wr).drew, hE.below (Below.refl _ wr).drew, hb.drew⟩
      have SP : Hid (∀ W W', Φ W → Below W.heap.size W W' → Φ W') := Lib.hid fun W W' h hb => by rw [hΦ] at h ⊢; exact ⟨h.1.next hb, h.2.1.below hb, h.2.2.trans (hb.mono h.2.2.size)⟩
      have CB : Hid (∀ W, Φ W → Below w.heap.size w W) := Lib.hid fun W h => by rw [hΦ] at h; exact h.2.2
      have CK : Hid (∀ W, Φ W → W.cell? ⟨q, 0, none⟩ = some (.pointer (some ⟨c, 0, none⟩))) := Lib.hid fun W h => by rw [hΦ] at h; exact h.1.x.b.cell 0 _ rfl
      have CV : Hid (∀ W, Φ W → W.cell? ⟨q, 4, none⟩ = some (.slice (some ⟨g, 0, none⟩) n c0)) := Lib.hid fun W h => by rw [hΦ] at h; exact h.1.x.b.cell 4 _ rfl
      have CI : Hid (∀ W, Φ W → W.cell? ⟨g, j, none⟩ = some (.slice (some ⟨bj, 0, none⟩) len cj)) := Lib.hid fun W h => by
        rw [hΦ] at h
        have hB := (HK.out.next h.2.2).r.at hlt
        obtain ⟨g', cap', cj', e, _, _, h1, h2, _⟩ := h.1.r.at hlt
        injection e with e1 e2 e3
        injection e1 with e1; injection e1 with e1
        rw [e1, h1, HBJ.out]
        rw [hvj] at h2
        injection h2 with _ _ h2
        rw [h2]
      have CZ : Hid (∀ W g, Φ W → W.heap.size ≤ g → w.heap.size ≤ g) := Lib.hid fun W g h hg => by rw [hΦ] at h; have := h.2.2.size; omega
      have CMu : Hid (∀ W, Φ W → Calls Try.prog 118 #[.pointer (some ⟨c, 0, none⟩), .int .u8 (x : Int), .slice (some ⟨bj, 0, none⟩) len cj] W fun e w' => ∃ b, e = .returned (.slice (some ⟨b, 0, none⟩) len len) ∧ W.heap.size ≤ b ∧ Below W.heap.size W w' ∧ Rl w' .u8 (some ⟨b, 0, none⟩) len (scl P x (hs j))) := Lib.hid fun W h => by
        rw [hΦ] at h
        have h1 := h.1.r.row j hlt
        rw [HBJ.out] at h1
        exact multiple_new c m P N hF x hxN (some ⟨bj, 0, none⟩) len cj (hs j) (HLT.out j hlt) (by omega) W h.1.k h1
      have CPl : Hid (∀ W b1, Φ W → Rl W .u8 (some ⟨b1, 0, none⟩) len (scl P x (hs j)) → Calls Try.prog 117 #[.slice (some ⟨ge, 0, none⟩) len len, .slice (some ⟨b1, 0, none⟩) len len] W fun e w' => ∃ g, e = .returned (.slice (some ⟨g, 0, none⟩) len len) ∧ W.heap.size ≤ g ∧ Below W.heap.size W w' ∧ Rl w' .u8 (some ⟨g, 0, none⟩) len (xorW (encP P len hs pw j) (scl P x (hs j)) len)) := Lib.hid fun W b1 h h1 => by
        rw [hΦ] at h
        exact wplus_new (some ⟨ge, 0, none⟩) (some ⟨b1, 0, none⟩) len len len (encP P len hs pw j) (scl P x (hs j)) (fun i => by have := HEL.out j (by omega) i; omega) (fun i => by rw [nth_scl' hF hxN]; have := hF.mul_lt x (nth (hs j) i); show mul P x (nth (hs j) i) < 256; omega) (by omega) W h.2.1 h1
      have a0 := CK.out _ F0
      have a1 := CV.out _ F0
      have a2 := CI.out _ F0
      clear hΦ hK hb hE hbj hx hvj hfr hgl hck hcp hgB
      go_wp2_with fail
      refine wp_region_S (n := 15) (S := Φ) (by kernel_rfl) (by kernel_rfl) F0 (fun G inv hS => ?_)
      clear a0 a1 a2 F0
      refine wpAnyS_take (i := 0) (v := ?_) G inv hS (by decide) rfl (by kernel_rfl) (by kernel_rfl) (fun _ _ _ h => h) (Or.inl ⟨by kernel_rfl, fun W hW => ?_⟩) (fun inv => ?_)
      rotate_left
      · have z0 := CK.out _ hW
        have z1 := CV.out _ hW
        have z2 := CI.out _ hW
        go_simp
        try with_reducible rfl
      try simp only [Act.put, List.setIfInBounds_toArray, List.set_cons_zero, List.set_cons_succ]
      refine wpAnyS_take (i := 1) (v := ?_) G inv hS (by decide) rfl (by kernel_rfl) (by kernel_rfl) (fun _ _ _ h => h) (Or.inl ⟨by kernel_rfl, fun W hW => ?_⟩) (fun inv => ?_)
      rotate_left
      · have z0 := CK.out _ hW
        have z1 := CV.out _ hW
        have z2 := CI.out _ hW
        go_simp
        try with_reducible rfl
      try simp only [Act.put, List.setIfInBounds_toArray, List.set_cons_zero, List.set_cons_succ]
      refine wpAnyS_take (i := 2) (v := ?_) G inv hS (by decide) rfl (by kernel_rfl) (by kernel_rfl) (fun _ _ _ h => h) (Or.inl ⟨by kernel_rfl, fun W hW => ?_⟩) (fun inv => ?_)
      rotate_left
      · have z0 := CK.out _ hW
        have z1 := CV.out _ hW
        have z2 := CI.out _ hW
        go_simp
        try with_reducible rfl
      try simp only [Act.put, List.setIfInBounds_toArray, List.set_cons_zero, List.set_cons_succ]
      refine wpAnyS_take (i := 3) (v := ?_) G inv hS (by decide) rfl (by kernel_rfl) (by kernel_rfl) (fun _ _ _ h => h) (Or.inl ⟨by kernel_rfl, fun W hW => ?_⟩) (fun inv => ?_)
      rotate_left
      · have z0 := CK.out _ hW
        have z1 := CV.out _ hW
        have z2 := CI.out _ hW
        go_simp
        try with_reducible rfl
      try simp only [Act.put, List.setIfInBounds_toArray, List.set_cons_zero, List.set_cons_succ]
      refine wpAnyS_take (i := 4) (v := ?_) G inv hS (by decide) rfl (by kernel_rfl) (by kernel_rfl) (fun _ _ _ h => h) (Or.inl ⟨by kernel_rfl, fun W hW => ?_⟩) (fun inv => ?_)
      rotate_left
      · have z0 := CK.out _ hW
        have z1 := CV.out _ hW
        have z2 := CI.out _ hW
        go_simp
        try with_reducible rfl
      try simp only [Act.put, List.setIfInBounds_toArray, List.set_cons_zero, List.set_cons_succ]
      refine wpAnyS_take (i := 5) (v := ?_) G inv hS (by decide) rfl (by kernel_rfl) (by kernel_rfl) (fun _ _ _ h => h) (Or.inl ⟨by kernel_rfl, fun W hW => ?_⟩) (fun inv => ?_)
      rotate_left
      · have z0 := CK.out _ hW
        have z1 := CV.out _ hW
        have z2 := CI.out _ hW
        go_simp
        try with_reducible rfl
      try simp only [Act.put, List.setIfInBounds_toArray, List.set_cons_zero, List.set_cons_succ]
      refine wpAnyS_take (i := 6) (v := ?_) G inv hS (by decide) rfl (by kernel_rfl) (by kernel_rfl) (fun _ _ _ h => h) (Or.inl ⟨by kernel_rfl, fun W hW => ?_⟩) (fun inv => ?_)
      rotate_left
      · have z0 := CK.out _ hW
        have z1 := CV.out _ hW
        have z2 := CI.out _ hW
        go_simp
        try with_reducible rfl
      try simp only [Act.put, List.setIfInBounds_toArray, List.set_cons_zero, List.set_cons_succ]
      refine wpAnyS_take (i := 7) (v := ?_) G inv hS (by decide) rfl (by kernel_rfl) (by kernel_rfl) (fun _ _ _ h => h) (Or.inl ⟨by kernel_rfl, fun W hW => ?_⟩) (fun inv => ?_)
      rotate_left
      · have z0 := CK.out _ hW
        have z1 := CV.out _ hW
        have z2 := CI.out _ hW
        go_simp
        try with_reducible rfl
      try simp only [Act.put, List.setIfInBounds_toArray, List.set_cons_zero, List.set_cons_succ]
      refine wpAnyS_take (i := 8) (v := ?_) G inv hS (by decide) rfl (by kernel_rfl) (by kernel_rfl) (fun _ _ _ h => h) (Or.inl ⟨by kernel_rfl, fun W hW => ?_⟩) (fun inv => ?_)
      rotate_left
      · have z0 := CK.out _ hW
        have z1 := CV.out _ hW
        have z2 := CI.out _ hW
        go_simp
        try with_reducible rfl
      try simp only [Act.put, List.setIfInBounds_toArray, List.set_cons_zero, List.set_cons_succ]
      refine wpAnyS_take (i := 9) (v := ?_) G inv hS (by decide) rfl (by kernel_rfl) (by kernel_rfl) (fun _ _ _ h => h) (Or.inl ⟨by kernel_rfl, fun W hW => ?_⟩) (fun inv => ?_)
      rotate_left
      · have z0 := CK.out _ hW
        have z1 := CV.out _ hW
        have z2 := CI.out _ hW
        go_simp
        try with_reducible rfl
      try simp only [Act.put, List.setIfInBounds_toArray, List.set_cons_zero, List.set_cons_succ]
      refine wpAnyS_take (i := 10) (v := ?_) G inv hS (by decide) rfl (by kernel_rfl) (by kernel_rfl) (fun _ _ _ h => h) (Or.inl ⟨by kernel_rfl, fun W hW => ?_⟩) (fun inv => ?_)
      rotate_left
      · have z0 := CK.out _ hW
        have z1 := CV.out _ hW
        have z2 := CI.out _ hW
        go_simp
        try with_reducible rfl
      try simp only [Act.put, List.setIfInBounds_toArray, List.set_cons_zero, List.set_cons_succ]
      refine wpAnyS_take (i := 11) (v := ?_) G inv hS (by decide) rfl (by kernel_rfl) (by kernel_rfl) (fun _ _ _ h => h) (Or.inl ⟨by kernel_rfl, fun W hW => ?_⟩) (fun inv => ?_)
      rotate_left
      · have z0 := CK.out _ hW
        have z1 := CV.out _ hW
        have z2 := CI.out _ hW
        go_simp
        try with_reducible rfl
      try simp only [Act.put, List.setIfInBounds_toArray, List.set_cons_zero, List.set_cons_succ]
      refine wpAnyS_take (i := 12) (v := ?_) G inv hS (by decide) rfl (by kernel_rfl) (by kernel_rfl) (fun _ _ _ h => h) (Or.inl ⟨by kernel_rfl, fun W hW => ?_⟩) (fun inv => ?_)
      rotate_left
      · have z0 := CK.out _ hW
        have z1 := CV.out _ hW
        have z2 := CI.out _ hW
        go_simp
        try with_reducible rfl
      try simp only [Act.put, List.setIfInBounds_toArray, List.set_cons_zero, List.set_cons_succ]
      refine wpAnyS_step (i := 13) (by kernel_rfl) rfl ?_
      go_wp2_with (go_at_call 118; refine (CMu.out _ hS).mono ?_; rintro e w1 ⟨b1, rfl, hge1, hb1, hR1⟩)
      have F1 : Φ w1 := SP.out _ _ hS hb1
      clear hb1
      change (13 ≠ 15 → Φ w1) ∧ _
      refine ⟨fun _ => F1, ?_⟩
      refine wpAnyS_step (i := 14) (by kernel_rfl) rfl ?_
      go_wp2_with (go_at_call 117; refine (CPl.out _ _ F1 hR1).mono ?_; rintro e w2 ⟨g2, rfl, hge, hb2, hR2⟩)
      have F2 : Φ w2 := SP.out _ _ F1 hb2
      have hge2 := CZ.out _ _ F1 hge
      clear hb2 hge hge1
      change (14 ≠ 15 → Φ w2) ∧ _
      refine ⟨fun _ => F2, ?_⟩
      refine wpAnyS_step (i := 15) (by kernel_rfl) rfl ?_
      go_wp2
      refine ⟨fun h => absurd rfl h, ?_⟩
      refine wpAnyS_done (by kernel_rfl) ?_ _
      have HEND := CB.out _ F2
      clear F1 F2 hS inv G hR1
      go_wp2_with fail
      go_roundw
      case rel => exact ⟨j + 1, _, by omega, by go_num, rfl, hge2, HEND, by rw [encP, HX.out]; exact hR2⟩
      case measure => simp [intOf]; omega
    · obtain rfl : n = j := by omega
      have HB := Lib.hid hb
      have HE := Lib.hid hE
      clear hb hE
      go_wp2_with fail
      go_ret
      exact ⟨ge, rfl, hge0, HB.out, HE.out⟩
end Go.Proofs.Ytljaabmemjehpaa
