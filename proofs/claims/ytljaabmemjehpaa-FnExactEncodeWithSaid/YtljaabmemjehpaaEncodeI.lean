/- The word of a message by a code: the program's. -/
import Derived.Test.YtljaabmemjehpaaEncodeWith
namespace Go.Proofs.Ytljaabmemjehpaa
open Go.RowKit Go.Joins Go.ChangeShapes Go.WideShapes Go.Deep
set_option linter.unusedVariables false
set_option linter.unusedSimpArgs false

set_option maxRecDepth 100000 in
set_option maxHeartbeats 12800000 in
theorem implEncodeWith_bad (m P N len : Nat) (hN : 2 ^ m = N) (hF : Fld m P N) (hh : (P : Int) ≤ 9223372036854775807) (A : Option Addr) (n cap : Nat) (rows : List (List Int)) (hn : rows.length = n) (h10 : rows.length ≤ 10) (hok : okS N len rows = true) (hv : fValidCode m P len rows = true) (hech : echL P N len rows = rows) (A1 : Option Addr) (k1 c1 : Nat) (msg : List Int) (w : World) {B T : Nat} (hA : RR w (.slice A n cap) rows) (hM : Res w B T (.slice A1 k1 c1) msg) (hbad : (k1 : Int) ≠ (n : Int) ∨ allIn N msg = false) :
    Calls Try.prog 18 #[.agg (codL m P len (.slice A n cap)).toArray, .slice A1 k1 c1] w fun e w' => e = .returned (.tuple #[.slice none 0 0, .int .i64 2]) ∧ Below w.heap.size w w' := by
  have hO := fun W a => codeFor_any (m : Int) P len (by omega) hh (.slice A n cap) rows W a
  rw [hv] at hO
  have HO := Lib.hid hO
  have HV := Lib.hid hv
  have HN := Lib.hid hN
  have HECH := Lib.hid hech
  have HG := Lib.hid (G1.start w (codL m P len (.slice A n cap)) 33)
  have HA := Lib.hid hA
  have HM := Lib.hid hM
  have HBAD := Lib.hid hbad
  clear hO hv hech hA hM hbad hN
  go_enter Try.func18, Try.ntmps18
  have y0 := HG.out.x.cell 0 _ rfl; have y1 := HG.out.x.cell 1 _ rfl; have y2 := HG.out.x.cell 2 _ rfl; have y3 := HG.out.x.cell 3 _ rfl
  go_wp2_with fail
  refine (HO.out _ (HA.out.next HG.out.b)).mono ?_
  rintro e w1 ⟨o, rfl, hb, hK⟩
  have HG1 := Lib.hid (HG.out.next hb)
  clear hb y0 y1 y2 y3
  · skip
    obtain ⟨q, rfl, hko⟩ := hK (by trivial)
    obtain ⟨c, n', v', hs, vs, b, _, hn', hKA, hE, hfs, hlt, hrows⟩ := (hko m P N len rfl rfl rfl HN.out).rows hF hok
    obtain rfl : n' = n := by
      have e1 := congrArg List.length hrows
      rw [HECH.out] at e1
      simp at e1
      omega
    obtain ⟨A0, c0, hv0, _⟩ := hKA.r.rk
    subst hv0
    have hcd := hKA.k.deg
    obtain ⟨Φ, hΦ⟩ : ∃ Φ : World → Prop, Φ = fun W => KA W q c m P m P N (q + 1) len n' (.slice A0 n' c0) hs vs b ∧ Below w.heap.size w W := ⟨_, rfl⟩
    have F0 : Φ w1.drew := by rw [hΦ]; exact ⟨hKA.next (Below.refl _ w1).drew, HG1.out.b.drew⟩
    have SP : Hid (∀ W W', Φ W → Below W.heap.size W W' → Φ W') := Lib.hid fun W W' h hb => by rw [hΦ] at h ⊢; exact ⟨h.1.next hb, h.2.trans (hb.mono h.2.size)⟩
    have CB : Hid (∀ W, Φ W → Below w.heap.size w W) := Lib.hid fun W h => by rw [hΦ] at h; exact h.2
    have CA : Hid (∀ W, Φ W → KA W q c m P m P N (q + 1) len n' (.slice A0 n' c0) hs vs b) := Lib.hid fun W h => by rw [hΦ] at h; exact h.1
    have CK : Hid (∀ W, Φ W → W.cell? ⟨q, 0, none⟩ = some (.pointer (some ⟨c, 0, none⟩))) := Lib.hid fun W h => (CA.out W h).x.b.cell 0 _ rfl
    have CV : Hid (∀ W, Φ W → W.cell? ⟨q, 4, none⟩ = some (.slice A0 n' c0)) := Lib.hid fun W h => (CA.out W h).x.b.cell 4 _ rfl
    have HROWS := Lib.hid hrows
    have HLT := Lib.hid hlt
    have CW : Hid (∀ W, Φ W → Calls Try.prog 69 #[.pointer (some ⟨c, 0, none⟩), .slice A1 k1 c1, .int .i64 (n' : Int)] W fun e w' => e = .returned (.tuple #[.slice none 0 0, .bool false]) ∧ W = w') := Lib.hid fun W h =>
      wordR_no c m P N hF A1 k1 c1 msg n' W (HM.out.next (CB.out W h)) (CA.out W h).k.deg HBAD.out
    clear hΦ hKA hK hko hE hfs hlt hrows hn' hcd
    simp only [if_true]
    go_wp2_with fail
    refine wp_region_S (n := 15) (S := Φ) (by kernel_rfl) (by kernel_rfl) F0 (fun G inv hS => ?_)
    clear F0
    refine wpAnyS_take (i := 0) (v := ?_) G inv hS (by decide) rfl (by kernel_rfl) (by kernel_rfl) (fun _ _ _ h => h) (Or.inl ⟨by kernel_rfl, fun W hW => ?_⟩) (fun inv => ?_)
    rotate_left
    · have z0 := CK.out _ hW
      have z1 := CV.out _ hW
      go_simp
      try with_reducible rfl
    try simp only [Act.put, List.setIfInBounds_toArray, List.set_cons_zero, List.set_cons_succ]
    refine wpAnyS_take (i := 1) (v := ?_) G inv hS (by decide) rfl (by kernel_rfl) (by kernel_rfl) (fun _ _ _ h => h) (Or.inl ⟨by kernel_rfl, fun W hW => ?_⟩) (fun inv => ?_)
    rotate_left
    · have z0 := CK.out _ hW
      have z1 := CV.out _ hW
      go_simp
      try with_reducible rfl
    try simp only [Act.put, List.setIfInBounds_toArray, List.set_cons_zero, List.set_cons_succ]
    refine wpAnyS_take (i := 2) (v := ?_) G inv hS (by decide) rfl (by kernel_rfl) (by kernel_rfl) (fun _ _ _ h => h) (Or.inl ⟨by kernel_rfl, fun W hW => ?_⟩) (fun inv => ?_)
    rotate_left
    · have z0 := CK.out _ hW
      have z1 := CV.out _ hW
      go_simp
      try with_reducible rfl
    try simp only [Act.put, List.setIfInBounds_toArray, List.set_cons_zero, List.set_cons_succ]
    refine wpAnyS_take (i := 3) (v := ?_) G inv hS (by decide) rfl (by kernel_rfl) (by kernel_rfl) (fun _ _ _ h => h) (Or.inl ⟨by kernel_rfl, fun W hW => ?_⟩) (fun inv => ?_)
    rotate_left
    · have z0 := CK.out _ hW
      have z1 := CV.out _ hW
      go_simp
      try with_reducible rfl
    try simp only [Act.put, List.setIfInBounds_toArray, List.set_cons_zero, List.set_cons_succ]
    refine wpAnyS_take (i := 4) (v := ?_) G inv hS (by decide) rfl (by kernel_rfl) (by kernel_rfl) (fun _ _ _ h => h) (Or.inl ⟨by kernel_rfl, fun W hW => ?_⟩) (fun inv => ?_)
    rotate_left
    · have z0 := CK.out _ hW
      have z1 := CV.out _ hW
      go_simp
      try with_reducible rfl
    try simp only [Act.put, List.setIfInBounds_toArray, List.set_cons_zero, List.set_cons_succ]
    refine wpAnyS_take (i := 5) (v := ?_) G inv hS (by decide) rfl (by kernel_rfl) (by kernel_rfl) (fun _ _ _ h => h) (Or.inl ⟨by kernel_rfl, fun W hW => ?_⟩) (fun inv => ?_)
    rotate_left
    · have z0 := CK.out _ hW
      have z1 := CV.out _ hW
      go_simp
      try with_reducible rfl
    try simp only [Act.put, List.setIfInBounds_toArray, List.set_cons_zero, List.set_cons_succ]
    refine wpAnyS_take (i := 6) (v := ?_) G inv hS (by decide) rfl (by kernel_rfl) (by kernel_rfl) (fun _ _ _ h => h) (Or.inl ⟨by kernel_rfl, fun W hW => ?_⟩) (fun inv => ?_)
    rotate_left
    · have z0 := CK.out _ hW
      have z1 := CV.out _ hW
      go_simp
      try with_reducible rfl
    try simp only [Act.put, List.setIfInBounds_toArray, List.set_cons_zero, List.set_cons_succ]
    refine wpAnyS_take (i := 7) (v := ?_) G inv hS (by decide) rfl (by kernel_rfl) (by kernel_rfl) (fun _ _ _ h => h) (Or.inl ⟨by kernel_rfl, fun W hW => ?_⟩) (fun inv => ?_)
    rotate_left
    · have z0 := CK.out _ hW
      have z1 := CV.out _ hW
      go_simp
      try with_reducible rfl
    try simp only [Act.put, List.setIfInBounds_toArray, List.set_cons_zero, List.set_cons_succ]
    refine wpAnyS_take (i := 8) (v := ?_) G inv hS (by decide) rfl (by kernel_rfl) (by kernel_rfl) (fun _ _ _ h => h) (Or.inl ⟨by kernel_rfl, fun W hW => ?_⟩) (fun inv => ?_)
    rotate_left
    · have z0 := CK.out _ hW
      have z1 := CV.out _ hW
      go_simp
      try with_reducible rfl
    try simp only [Act.put, List.setIfInBounds_toArray, List.set_cons_zero, List.set_cons_succ]
    refine wpAnyS_take (i := 9) (v := ?_) G inv hS (by decide) rfl (by kernel_rfl) (by kernel_rfl) (fun _ _ _ h => h) (Or.inl ⟨by kernel_rfl, fun W hW => ?_⟩) (fun inv => ?_)
    rotate_left
    · have z0 := CK.out _ hW
      have z1 := CV.out _ hW
      go_simp
      try with_reducible rfl
    try simp only [Act.put, List.setIfInBounds_toArray, List.set_cons_zero, List.set_cons_succ]
    refine wpAnyS_step (i := 10) (by kernel_rfl) rfl ?_
    go_wp2_with (go_at_call 69; refine (CW.out _ hS).mono ?_; rintro e w2 ⟨rfl, rfl⟩)
    change (10 ≠ 15 → Φ _) ∧ _
    refine ⟨fun _ => hS, ?_⟩
    have inv := HeadInv.setD (i := 10) inv (by kernel_rfl) (by decide)
    refine wpAnyS_take (i := 11) (v := ?_) G inv hS (by decide) rfl (by kernel_rfl) (by kernel_rfl) (fun _ _ _ h => h) (Or.inl ⟨by kernel_rfl, fun W hW => ?_⟩) (fun inv => ?_)
    rotate_left
    · have z0 := CK.out _ hW
      have z1 := CV.out _ hW
      go_simp
      try with_reducible rfl
    try simp only [Act.put, List.setIfInBounds_toArray, List.set_cons_zero, List.set_cons_succ]
    refine wpAnyS_take (i := 12) (v := ?_) G inv hS (by decide) rfl (by kernel_rfl) (by kernel_rfl) (fun _ _ _ h => h) (Or.inl ⟨by kernel_rfl, fun W hW => ?_⟩) (fun inv => ?_)
    rotate_left
    · have z0 := CK.out _ hW
      have z1 := CV.out _ hW
      go_simp
      try with_reducible rfl
    try simp only [Act.put, List.setIfInBounds_toArray, List.set_cons_zero, List.set_cons_succ]
    refine wpAnyS_take (i := 13) (v := ?_) G inv hS (by decide) rfl (by kernel_rfl) (by kernel_rfl) (fun _ _ _ h => h) (Or.inl ⟨by kernel_rfl, fun W hW => ?_⟩) (fun inv => ?_)
    rotate_left
    · have z0 := CK.out _ hW
      have z1 := CV.out _ hW
      go_simp
      try with_reducible rfl
    try simp only [Act.put, List.setIfInBounds_toArray, List.set_cons_zero, List.set_cons_succ]
    refine wpAnyS_take (i := 14) (v := ?_) G inv hS (by decide) rfl (by kernel_rfl) (by kernel_rfl) (fun _ _ _ h => h) (Or.inl ⟨by kernel_rfl, fun W hW => ?_⟩) (fun inv => ?_)
    rotate_left
    · have z0 := CK.out _ hW
      have z1 := CV.out _ hW
      go_simp
      try with_reducible rfl
    try simp only [Act.put, List.setIfInBounds_toArray, List.set_cons_zero, List.set_cons_succ]
    refine wpAnyS_step (i := 15) (by kernel_rfl) rfl ?_
    go_wp2
    refine ⟨fun h => absurd rfl h, ?_⟩
    refine wpAnyS_done (by kernel_rfl) ?_ _
    have HB := Lib.hid (CB.out _ hS)
    clear hS inv G
    go_wp2_with fail
    go_ret2
    exact ⟨rfl, HB.out⟩
set_option maxRecDepth 100000 in
set_option maxHeartbeats 12800000 in
theorem implEncodeWith_good (m P N len : Nat) (hN : 2 ^ m = N) (hF : Fld m P N) (hl0 : 0 < len) (hl5 : len ≤ 5) (hh : (P : Int) ≤ 9223372036854775807) (A : Option Addr) (n cap : Nat) (rows : List (List Int)) (hn : rows.length = n) (h10 : rows.length ≤ 10) (hok : okS N len rows = true) (hv : fValidCode m P len rows = true) (hech : echL P N len rows = rows) (A1 : Option Addr) (c1 : Nat) (msg : List Int) (w : World) {B T : Nat} (hA : RR w (.slice A n cap) rows) (hM : Res w B T (.slice A1 n c1) msg) (hin : allIn N msg = true) :
    Calls Try.prog 18 #[.agg (codL m P len (.slice A n cap)).toArray, .slice A1 n c1] w fun e w' => ∃ v, e = .returned (.tuple #[v, .int .i64 0]) ∧ Below w.heap.size w w' ∧ Res w' w.heap.size w'.heap.size v (ints (encS P len rows (nats msg) n)) := by
  have hO := fun W a => codeFor_any (m : Int) P len (by omega) hh (.slice A n cap) rows W a
  rw [hv] at hO
  have HO := Lib.hid hO
  have HV := Lib.hid hv
  have HN := Lib.hid hN
  have HECH := Lib.hid hech
  have HG := Lib.hid (G1.start w (codL m P len (.slice A n cap)) 33)
  have HA := Lib.hid hA
  have HM := Lib.hid hM
  have HIN := Lib.hid hin
  have h10' : n ≤ 10 := by omega
  have hpw : ∀ j, nth (nats msg) j < N := nats_lt hin (by have := hF.n2; omega)
  clear hO hv hech hA hM hin hN h10
  go_enter Try.func18, Try.ntmps18
  have y0 := HG.out.x.cell 0 _ rfl; have y1 := HG.out.x.cell 1 _ rfl; have y2 := HG.out.x.cell 2 _ rfl; have y3 := HG.out.x.cell 3 _ rfl
  go_wp2_with fail
  refine (HO.out _ (HA.out.next HG.out.b)).mono ?_
  rintro e w1 ⟨o, rfl, hb, hK⟩
  have HG1 := Lib.hid (HG.out.next hb)
  clear hb y0 y1 y2 y3
  · skip
    obtain ⟨q, rfl, hko⟩ := hK (by trivial)
    obtain ⟨c, n', v', hs, vs, b, _, hn', hKA, hE, hfs, hlt, hrows⟩ := (hko m P N len rfl rfl rfl HN.out).rows hF hok
    obtain rfl : n' = n := by
      have e1 := congrArg List.length hrows
      rw [HECH.out] at e1
      simp at e1
      omega
    obtain ⟨A0, c0, hv0, _⟩ := hKA.r.rk
    subst hv0
    have hcd := hKA.k.deg
    obtain ⟨Φ, hΦ⟩ : ∃ Φ : World → Prop, Φ = fun W => KA W q c m P m P N (q + 1) len n' (.slice A0 n' c0) hs vs b ∧ Below w.heap.size w W := ⟨_, rfl⟩
    have F0 : Φ w1.drew := by rw [hΦ]; exact ⟨hKA.next (Below.refl _ w1).drew, HG1.out.b.drew⟩
    have SP : Hid (∀ W W', Φ W → Below W.heap.size W W' → Φ W') := Lib.hid fun W W' h hb => by rw [hΦ] at h ⊢; exact ⟨h.1.next hb, h.2.trans (hb.mono h.2.size)⟩
    have CB : Hid (∀ W, Φ W → Below w.heap.size w W) := Lib.hid fun W h => by rw [hΦ] at h; exact h.2
    have CA : Hid (∀ W, Φ W → KA W q c m P m P N (q + 1) len n' (.slice A0 n' c0) hs vs b) := Lib.hid fun W h => by rw [hΦ] at h; exact h.1
    have CK : Hid (∀ W, Φ W → W.cell? ⟨q, 0, none⟩ = some (.pointer (some ⟨c, 0, none⟩))) := Lib.hid fun W h => (CA.out W h).x.b.cell 0 _ rfl
    have CV : Hid (∀ W, Φ W → W.cell? ⟨q, 4, none⟩ = some (.slice A0 n' c0)) := Lib.hid fun W h => (CA.out W h).x.b.cell 4 _ rfl
    have HROWS := Lib.hid hrows
    have HLT := Lib.hid hlt
    have hL : ∀ j, j < n' → (hs j).length = len := fun j hj => (hKA.r.row j hj).len
    have HENC : Hid (encP P len hs (nats msg) n' = encS P len rows (nats msg) n') := Lib.hid (enc_eq hF hpw (fun j hj => ⟨hL j hj, hlt j hj⟩) (fun j hj => by rw [rw', ← HECH.out, ← hrows]; simp [List.getD, hj]) n' (Nat.le_refl _))
    have HLTE := Lib.hid (encP_lt hF hpw (fun j hj => ⟨hL j hj, hlt j hj⟩) n' (Nat.le_refl _))
    have CW : Hid (∀ W, Φ W → Calls Try.prog 69 #[.pointer (some ⟨c, 0, none⟩), .slice A1 n' c1, .int .i64 (n' : Int)] W fun e w' => ∃ g, e = .returned (.tuple #[.slice (some ⟨g, 0, none⟩) n' n', .bool true]) ∧ Below W.heap.size W w' ∧ Rl w' .u8 (some ⟨g, 0, none⟩) n' (nats msg)) := Lib.hid fun W h => by
      have hM := HM.out.next (CB.out W h)
      have hd := (CA.out W h).k.deg
      rcases Nat.eq_zero_or_pos n' with h0 | h0
      · clear HENC HLTE hL hKA hrows hlt hE hfs hΦ CA CB CK CV SP F0 hko HROWS HLT hK HG1 hcd
        subst h0
        obtain rfl : msg = [] := List.length_eq_zero_iff.mp hM.len
        exact wordR_zero c m P N hF A1 c1 W hM hd
      · exact wordR_yes c m P N hF A1 n' c1 msg h0 W hM hd HIN.out
    have CE : Hid (∀ W g, Φ W → Rl W .u8 (some ⟨g, 0, none⟩) n' (nats msg) → Calls Try.prog 71 #[.pointer (some ⟨q, 0, none⟩), .slice (some ⟨g, 0, none⟩) n' n'] W fun e w' => ∃ g, e = .returned (.slice (some ⟨g, 0, none⟩) len len) ∧ W.heap.size ≤ g ∧ Below W.heap.size W w' ∧ Rl w' .u8 (some ⟨g, 0, none⟩) len (encP P len hs (nats msg) n')) := Lib.hid fun W g h hR =>
      encoded_any m P N hF q c m P (q + 1) len n' hl0 hl5 (by omega) _ hs vs b hlt _ n' (nats msg) hpw W (CA.out W h) hR
    have HS256 := Lib.hid (fun j => Nat.lt_of_lt_of_le (HLTE.out j) (show N ≤ 256 by have := hF.n32; omega))
    clear hΦ hKA hK hko hE hfs hlt hrows hn' hcd hL hpw
    simp only [if_true]
    go_wp2_with fail
    refine wp_region_S (n := 15) (S := Φ) (by kernel_rfl) (by kernel_rfl) F0 (fun G inv hS => ?_)
    clear F0
    refine wpAnyS_take (i := 0) (v := ?_) G inv hS (by decide) rfl (by kernel_rfl) (by kernel_rfl) (fun _ _ _ h => h) (Or.inl ⟨by kernel_rfl, fun W hW => ?_⟩) (fun inv => ?_)
    rotate_left
    · have z0 := CK.out _ hW
      have z1 := CV.out _ hW
      go_simp
      try with_reducible rfl
    try simp only [Act.put, List.setIfInBounds_toArray, List.set_cons_zero, List.set_cons_succ]
    refine wpAnyS_take (i := 1) (v := ?_) G inv hS (by decide) rfl (by kernel_rfl) (by kernel_rfl) (fun _ _ _ h => h) (Or.inl ⟨by kernel_rfl, fun W hW => ?_⟩) (fun inv => ?_)
    rotate_left
    · have z0 := CK.out _ hW
      have z1 := CV.out _ hW
      go_simp
      try with_reducible rfl
    try simp only [Act.put, List.setIfInBounds_toArray, List.set_cons_zero, List.set_cons_succ]
    refine wpAnyS_take (i := 2) (v := ?_) G inv hS (by decide) rfl (by kernel_rfl) (by kernel_rfl) (fun _ _ _ h => h) (Or.inl ⟨by kernel_rfl, fun W hW => ?_⟩) (fun inv => ?_)
    rotate_left
    · have z0 := CK.out _ hW
      have z1 := CV.out _ hW
      go_simp
      try with_reducible rfl
    try simp only [Act.put, List.setIfInBounds_toArray, List.set_cons_zero, List.set_cons_succ]
    refine wpAnyS_take (i := 3) (v := ?_) G inv hS (by decide) rfl (by kernel_rfl) (by kernel_rfl) (fun _ _ _ h => h) (Or.inl ⟨by kernel_rfl, fun W hW => ?_⟩) (fun inv => ?_)
    rotate_left
    · have z0 := CK.out _ hW
      have z1 := CV.out _ hW
      go_simp
      try with_reducible rfl
    try simp only [Act.put, List.setIfInBounds_toArray, List.set_cons_zero, List.set_cons_succ]
    refine wpAnyS_take (i := 4) (v := ?_) G inv hS (by decide) rfl (by kernel_rfl) (by kernel_rfl) (fun _ _ _ h => h) (Or.inl ⟨by kernel_rfl, fun W hW => ?_⟩) (fun inv => ?_)
    rotate_left
    · have z0 := CK.out _ hW
      have z1 := CV.out _ hW
      go_simp
      try with_reducible rfl
    try simp only [Act.put, List.setIfInBounds_toArray, List.set_cons_zero, List.set_cons_succ]
    refine wpAnyS_take (i := 5) (v := ?_) G inv hS (by decide) rfl (by kernel_rfl) (by kernel_rfl) (fun _ _ _ h => h) (Or.inl ⟨by kernel_rfl, fun W hW => ?_⟩) (fun inv => ?_)
    rotate_left
    · have z0 := CK.out _ hW
      have z1 := CV.out _ hW
      go_simp
      try with_reducible rfl
    try simp only [Act.put, List.setIfInBounds_toArray, List.set_cons_zero, List.set_cons_succ]
    refine wpAnyS_take (i := 6) (v := ?_) G inv hS (by decide) rfl (by kernel_rfl) (by kernel_rfl) (fun _ _ _ h => h) (Or.inl ⟨by kernel_rfl, fun W hW => ?_⟩) (fun inv => ?_)
    rotate_left
    · have z0 := CK.out _ hW
      have z1 := CV.out _ hW
      go_simp
      try with_reducible rfl
    try simp only [Act.put, List.setIfInBounds_toArray, List.set_cons_zero, List.set_cons_succ]
    refine wpAnyS_take (i := 7) (v := ?_) G inv hS (by decide) rfl (by kernel_rfl) (by kernel_rfl) (fun _ _ _ h => h) (Or.inl ⟨by kernel_rfl, fun W hW => ?_⟩) (fun inv => ?_)
    rotate_left
    · have z0 := CK.out _ hW
      have z1 := CV.out _ hW
      go_simp
      try with_reducible rfl
    try simp only [Act.put, List.setIfInBounds_toArray, List.set_cons_zero, List.set_cons_succ]
    refine wpAnyS_take (i := 8) (v := ?_) G inv hS (by decide) rfl (by kernel_rfl) (by kernel_rfl) (fun _ _ _ h => h) (Or.inl ⟨by kernel_rfl, fun W hW => ?_⟩) (fun inv => ?_)
    rotate_left
    · have z0 := CK.out _ hW
      have z1 := CV.out _ hW
      go_simp
      try with_reducible rfl
    try simp only [Act.put, List.setIfInBounds_toArray, List.set_cons_zero, List.set_cons_succ]
    refine wpAnyS_take (i := 9) (v := ?_) G inv hS (by decide) rfl (by kernel_rfl) (by kernel_rfl) (fun _ _ _ h => h) (Or.inl ⟨by kernel_rfl, fun W hW => ?_⟩) (fun inv => ?_)
    rotate_left
    · have z0 := CK.out _ hW
      have z1 := CV.out _ hW
      go_simp
      try with_reducible rfl
    try simp only [Act.put, List.setIfInBounds_toArray, List.set_cons_zero, List.set_cons_succ]
    refine wpAnyS_step (i := 10) (by kernel_rfl) rfl ?_
    go_wp2_with (go_at_call 69; refine (CW.out _ hS).mono ?_; rintro e w2 ⟨g2, rfl, hb2, hR2⟩)
    have F2 : Φ w2 := SP.out _ _ hS hb2
    clear hb2
    change (10 ≠ 15 → Φ w2) ∧ _
    refine ⟨fun _ => F2, ?_⟩
    have inv := HeadInv.setD (i := 10) inv (by kernel_rfl) (by decide)
    refine wpAnyS_take (i := 11) (v := ?_) G inv F2 (by decide) rfl (by kernel_rfl) (by kernel_rfl) (fun _ _ _ h => h) (Or.inl ⟨by kernel_rfl, fun W hW => ?_⟩) (fun inv => ?_)
    rotate_left
    · have z0 := CK.out _ hW
      have z1 := CV.out _ hW
      go_simp
      try with_reducible rfl
    try simp only [Act.put, List.setIfInBounds_toArray, List.set_cons_zero, List.set_cons_succ]
    refine wpAnyS_take (i := 12) (v := ?_) G inv F2 (by decide) rfl (by kernel_rfl) (by kernel_rfl) (fun _ _ _ h => h) (Or.inl ⟨by kernel_rfl, fun W hW => ?_⟩) (fun inv => ?_)
    rotate_left
    · have z0 := CK.out _ hW
      have z1 := CV.out _ hW
      go_simp
      try with_reducible rfl
    try simp only [Act.put, List.setIfInBounds_toArray, List.set_cons_zero, List.set_cons_succ]
    refine wpAnyS_take (i := 13) (v := ?_) G inv F2 (by decide) rfl (by kernel_rfl) (by kernel_rfl) (fun _ _ _ h => h) (Or.inl ⟨by kernel_rfl, fun W hW => ?_⟩) (fun inv => ?_)
    rotate_left
    · have z0 := CK.out _ hW
      have z1 := CV.out _ hW
      go_simp
      try with_reducible rfl
    try simp only [Act.put, List.setIfInBounds_toArray, List.set_cons_zero, List.set_cons_succ]
    refine wpAnyS_take (i := 14) (v := ?_) G inv F2 (by decide) rfl (by kernel_rfl) (by kernel_rfl) (fun _ _ _ h => h) (Or.inl ⟨by kernel_rfl, fun W hW => ?_⟩) (fun inv => ?_)
    rotate_left
    · have z0 := CK.out _ hW
      have z1 := CV.out _ hW
      go_simp
      try with_reducible rfl
    try simp only [Act.put, List.setIfInBounds_toArray, List.set_cons_zero, List.set_cons_succ]
    refine wpAnyS_step (i := 15) (by kernel_rfl) rfl ?_
    go_wp2
    refine ⟨fun h => absurd rfl h, ?_⟩
    refine wpAnyS_done (by kernel_rfl) ?_ _
    have HB := Lib.hid (CB.out _ F2)
    go_wp2_with fail
    refine (CE.out _ g2 F2 hR2).mono ?_
    clear hS inv G
    rintro e w3 ⟨g3, rfl, hg3, hb, hR3⟩
    have HB3 := Lib.hid (HB.out.trans (hb.mono HB.out.size))
    clear hb F2 hR2
    go_wp2_with fail
    refine (numbersOf_any (some ⟨g3, 0, none⟩) len len _ (by omega) HS256.out _ hR3).mono ?_
    rintro e w4 ⟨g4, rfl, hg4, hb, hMt⟩
    rw [HENC.out] at hMt
    have HB4 := Lib.hid (HB3.out.trans (hb.mono HB3.out.size))
    have HR4 := Lib.hid (hMt.res (B := w.heap.size) (cap := len) (by have := HB3.out.size; omega))
    clear hb hMt hR3 hg3 hg4
    go_wp2_with fail
    go_ret2
    exact ⟨_, rfl, HB4.out, HR4.out⟩

set_option maxRecDepth 100000 in
set_option maxHeartbeats 12800000 in
theorem implEncodeWith_inv (d p l : Int) (hl : -9223372036854775808 ≤ p) (hh : p ≤ 9223372036854775807) (A : Option Addr) (n cap : Nat) (rows : List (List Int)) (hv : fValidCode d p l rows = false) (vm : Value) (w : World) (hA : RR w (.slice A n cap) rows) :
    Calls Try.prog 18 #[.agg (codL d p l (.slice A n cap)).toArray, vm] w fun e w' => e = .returned (.tuple #[.slice none 0 0, .int .i64 1]) ∧ Below w.heap.size w w' := by
  have hO := fun W a => codeFor_any d p l hl hh (.slice A n cap) rows W a
  rw [hv] at hO
  have HO := Lib.hid hO
  have HG := Lib.hid (G1.start w (codL d p l (.slice A n cap)) 33)
  have HA := Lib.hid hA
  clear hO hv hA
  go_enter Try.func18, Try.ntmps18
  have y0 := HG.out.x.cell 0 _ rfl; have y1 := HG.out.x.cell 1 _ rfl; have y2 := HG.out.x.cell 2 _ rfl; have y3 := HG.out.x.cell 3 _ rfl
  go_wp2_with fail
  refine (HO.out _ (HA.out.next HG.out.b)).mono ?_
  rintro e w1 ⟨o, rfl, hb, hK⟩
  have HB := Lib.hid (HG.out.next hb).b
  clear hb y0 y1 y2 y3 hK
  simp only [if_neg (show ¬ (false = true) by decide)]
  go_wp2_with fail
  go_ret2
  exact ⟨rfl, HB.out⟩

theorem implEncodeWith_any (d p l : Int) (v : Value) (rows : List (List Int)) (vm : Value) (msg : List Int) (w : World) {B T : Nat} (hl : -9223372036854775808 ≤ p) (hh : p ≤ 9223372036854775807) (hA : RR w v rows) (hM : Res w B T vm msg) :
    Calls Try.prog 18 #[.agg (codL d p l v).toArray, vm] w fun e w' => ∃ v, e = .returned (.tuple #[v, .int .i64 (fEncodeWith d p l rows msg).2]) ∧ Below w.heap.size w w' ∧ Res w' w.heap.size w'.heap.size v (fEncodeWith d p l rows msg).1 := by
  obtain ⟨A, cap, rfl⟩ := hA.is
  obtain ⟨A1, k1, c1, rfl⟩ := hM.form
  have hlen := hM.len
  cases hv : fValidCode d p l rows with
  | false =>
    have e : fEncodeWith d p l rows msg = ([], 1) := by rw [fEncodeWith, if_pos hv]
    rw [e]
    refine (implEncodeWith_inv d p l hl hh A _ cap rows hv _ w hA).mono ?_
    rintro e w' ⟨rfl, hb⟩
    exact ⟨_, rfl, hb, .nil _ _⟩
  | true =>
    have h0 := valid_zero hv
    obtain ⟨m, P, N, len, rfl, rfl, rfl, hN, hF, hl0, hl5, h10, hok⟩ := cRows_zero h0
    have hech : echL P N len rows = rows := by rw [fValidCode_yes hN h0] at hv; exact of_decide_eq_true hv
    by_cases hk : k1 = rows.length ∧ allIn N msg = true
    · obtain ⟨rfl, hin⟩ := hk
      have e : fEncodeWith m P len rows msg = (ints (encS P len rows (nats msg) rows.length), 0) := by
        rw [fEncodeWith, if_neg (by rw [hv]; simp), if_neg (by rw [Int.toNat_natCast, hN, hin]; intro h; exact h ⟨by omega, rfl⟩), Int.toNat_natCast, Int.toNat_natCast]
      rw [e]
      exact implEncodeWith_good m P N len hN hF hl0 hl5 hh A _ cap rows rfl h10 hok hv hech A1 c1 msg w hA hM hin
    · have e : fEncodeWith m P len rows msg = ([], 2) := by
        rw [fEncodeWith, if_neg (by rw [hv]; simp), if_pos (by rw [Int.toNat_natCast, hN]; intro h; exact hk ⟨by omega, h.2⟩)]
      rw [e]
      refine (implEncodeWith_bad m P N len hN hF hh A _ cap rows rfl h10 hok hv hech A1 k1 c1 msg w hA hM ?_).mono ?_
      · by_cases h1 : k1 = rows.length
        · right
          cases h2 : allIn N msg with
          | false => rfl
          | true => exact absurd ⟨h1, h2⟩ hk
        · left; omega
      · rintro e w' ⟨rfl, hb⟩
        exact ⟨_, rfl, hb, .nil _ _⟩
end Go.Proofs.Ytljaabmemjehpaa
