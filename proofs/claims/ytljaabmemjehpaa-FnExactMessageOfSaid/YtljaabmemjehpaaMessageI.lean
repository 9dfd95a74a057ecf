/- A code and a word of its length: the program's codeWordFor. · Two words are equal: the program's slices.Equal. · The message of a word: the program's MessageOf at a good code and word. -/
import Derived.Test.YtljaabmemjehpaaValidCode
import Derived.OwnWalk
import Derived.Test.YtljaabmemjehpaaCoder
import Derived.Test.YtljaabmemjehpaaEncodeWith
namespace Go.Proofs.Ytljaabmemjehpaa
open Go.RowKit Go.Joins Go.ChangeShapes Go.WideShapes Go.Deep
set_option linter.unusedVariables false
set_option linter.unusedSimpArgs false

theorem KO.low {W : World} {B0 B1 m P N len : Nat} {rows : List (List Int)} {q : Nat} (h : KO W B0 m P N len rows q) (hb : B1 ≤ B0) : KO W B1 m P N len rows q := by
  obtain ⟨c, n, v, hs, vs, b, h0, h1⟩ := h.ex
  exact ⟨c, n, v, hs, vs, b, Nat.le_trans hb h0, h1⟩
set_option maxRecDepth 100000 in
set_option maxHeartbeats 12800000 in
theorem codeWordFor_bad (m P N len : Nat) (hN : 2 ^ m = N) (hF : Fld m P N) (hl0 : 0 < len) (hh : (P : Int) ≤ 9223372036854775807) (A : Option Addr) (n cap : Nat) (rows : List (List Int)) (hok : okS N len rows = true) (hv : fValidCode m P len rows = true) (A1 : Option Addr) (k1 : Nat) (c1 : Nat) (msg : List Int) (w : World) {B T : Nat} (hA : RR w (.slice A n cap) rows) (hM : Res w B T (.slice A1 k1 c1) msg) (hbad : (k1 : Int) ≠ (len : Int) ∨ allIn N msg = false) :
    Calls Try.prog 75 #[.agg (codL m P len (.slice A n cap)).toArray, .slice A1 k1 c1] w fun e w' => e = .returned (.tuple #[.pointer none, .slice none 0 0, .int .i64 2]) ∧ Below w.heap.size w w' := by
  have hO := fun W a => codeFor_any (m : Int) P len (by omega) hh (.slice A n cap) rows W a
  rw [hv] at hO
  have HO := Lib.hid hO
  have HN := Lib.hid hN
  have HG := Lib.hid (G1.start w (codL m P len (.slice A n cap)) 33)
  have HA := Lib.hid hA
  have HM := Lib.hid hM
  have HI := Lib.hid hbad
  clear hO hv hA hM hbad hN
  go_enter Try.func75, Try.ntmps75
  have y0 := HG.out.x.cell 0 _ rfl; have y1 := HG.out.x.cell 1 _ rfl; have y2 := HG.out.x.cell 2 _ rfl; have y3 := HG.out.x.cell 3 _ rfl
  go_wp2_with fail
  refine (HO.out _ (HA.out.next HG.out.b)).mono ?_
  rintro e w1 ⟨o, rfl, hb, hK⟩
  have HG1 := Lib.hid (HG.out.next hb)
  clear hb y0 y1 y2 y3
  · skip
    obtain ⟨q, rfl, hko⟩ := hK (by trivial)
    have hKO := (hko m P N len rfl rfl rfl HN.out).low (B1 := w.heap.size) (by simp)
    obtain ⟨c, n', v', hs, vs, b, _, hn', hKA, hE, hfs, hlt, hrows⟩ := hKO.rows hF hok
    obtain ⟨Φ, hΦ⟩ : ∃ Φ : World → Prop, Φ = fun W => KA W q c m P m P N (q + 1) len n' v' hs vs b ∧ KO W w.heap.size m P N len rows q ∧ Below w.heap.size w W := ⟨_, rfl⟩
    have F0 : Φ w1.drew := by rw [hΦ]; exact ⟨hKA.next (Below.refl _ w1).drew, hKO.next (Below.refl _ w1).drew, HG1.out.b.drew⟩
    have SP : Hid (∀ W W', Φ W → Below W.heap.size W W' → Φ W') := Lib.hid fun W W' h hb => by rw [hΦ] at h ⊢; exact ⟨h.1.next hb, h.2.1.next hb, h.2.2.trans (hb.mono h.2.2.size)⟩
    have CB : Hid (∀ W, Φ W → Below w.heap.size w W) := Lib.hid fun W h => by rw [hΦ] at h; exact h.2.2
    have CO : Hid (∀ W, Φ W → KO W w.heap.size m P N len rows q) := Lib.hid fun W h => by rw [hΦ] at h; exact h.2.1
    have CA : Hid (∀ W, Φ W → KA W q c m P m P N (q + 1) len n' v' hs vs b) := Lib.hid fun W h => by rw [hΦ] at h; exact h.1
    have CK : Hid (∀ W, Φ W → W.cell? ⟨q, 0, none⟩ = some (.pointer (some ⟨c, 0, none⟩))) := Lib.hid fun W h => (CA.out W h).x.b.cell 0 _ rfl
    have CV : Hid (∀ W, Φ W → W.cell? ⟨q, 3, none⟩ = some (.int .i64 (len : Int))) := Lib.hid fun W h => (CA.out W h).x.b.cell 3 _ rfl
    have CW : Hid (∀ W, Φ W → Calls Try.prog 69 #[.pointer (some ⟨c, 0, none⟩), .slice A1 k1 c1, .int .i64 (len : Int)] W fun e w' => e = .returned (.tuple #[.slice none 0 0, .bool false]) ∧ W = w') := Lib.hid fun W h =>
      wordR_no c m P N hF A1 k1 c1 msg len W (HM.out.next (CB.out W h)) (CA.out W h).k.deg HI.out
    clear hΦ hKA hK hko hE hfs hlt hrows hn' hKO
    simp only [if_true]
    go_wp2_with fail
    refine wp_region_S (n := 14) (S := Φ) (by kernel_rfl) (by kernel_rfl) F0 (fun G inv hS => ?_)
    clear F0
    refine wpAnyS_take (i := 0) (v := ?_) G inv hS (by decide) rfl (by kernel_rfl) (by kernel_rfl) (fun _ _ _ h => h) (Or.inl ⟨by kernel_rfl, fun W hW => ?_⟩) (fun inv => ?_)
    rotate_left
    · have z0 := CK.out _ hW
      have z1 := CV.out _ hW
      go_simp
      try with_reducible rfl
    try simp only [Act.put, List.setIfInBounds_toArray, List.set_cons_zero, List.set_cons_succ]
    refine wpAnyS_take (i := 1) (v := ?_) G inv hS (by decide) rfl (by kernel_rfl) (by kernel_rfl) (fun _ _ _ h => h) (Or.inl ⟨by kernel_rfl, fun W hW => ?_⟩) (fun inv => ?_)
    rotate_left
    · have z0 := CK.out _ hW
      have z1 := CV.out _ hW
      go_simp
      try with_reducible rfl
    try simp only [Act.put, List.setIfInBounds_toArray, List.set_cons_zero, List.set_cons_succ]
    refine wpAnyS_take (i := 2) (v := ?_) G inv hS (by decide) rfl (by kernel_rfl) (by kernel_rfl) (fun _ _ _ h => h) (Or.inl ⟨by kernel_rfl, fun W hW => ?_⟩) (fun inv => ?_)
    rotate_left
    · have z0 := CK.out _ hW
      have z1 := CV.out _ hW
      go_simp
      try with_reducible rfl
    try simp only [Act.put, List.setIfInBounds_toArray, List.set_cons_zero, List.set_cons_succ]
    refine wpAnyS_take (i := 3) (v := ?_) G inv hS (by decide) rfl (by kernel_rfl) (by kernel_rfl) (fun _ _ _ h => h) (Or.inl ⟨by kernel_rfl, fun W hW => ?_⟩) (fun inv => ?_)
    rotate_left
    · have z0 := CK.out _ hW
      have z1 := CV.out _ hW
      go_simp
      try with_reducible rfl
    try simp only [Act.put, List.setIfInBounds_toArray, List.set_cons_zero, List.set_cons_succ]
    refine wpAnyS_take (i := 4) (v := ?_) G inv hS (by decide) rfl (by kernel_rfl) (by kernel_rfl) (fun _ _ _ h => h) (Or.inl ⟨by kernel_rfl, fun W hW => ?_⟩) (fun inv => ?_)
    rotate_left
    · have z0 := CK.out _ hW
      have z1 := CV.out _ hW
      go_simp
      try with_reducible rfl
    try simp only [Act.put, List.setIfInBounds_toArray, List.set_cons_zero, List.set_cons_succ]
    refine wpAnyS_take (i := 5) (v := ?_) G inv hS (by decide) rfl (by kernel_rfl) (by kernel_rfl) (fun _ _ _ h => h) (Or.inl ⟨by kernel_rfl, fun W hW => ?_⟩) (fun inv => ?_)
    rotate_left
    · have z0 := CK.out _ hW
      have z1 := CV.out _ hW
      go_simp
      try with_reducible rfl
    try simp only [Act.put, List.setIfInBounds_toArray, List.set_cons_zero, List.set_cons_succ]
    refine wpAnyS_take (i := 6) (v := ?_) G inv hS (by decide) rfl (by kernel_rfl) (by kernel_rfl) (fun _ _ _ h => h) (Or.inl ⟨by kernel_rfl, fun W hW => ?_⟩) (fun inv => ?_)
    rotate_left
    · have z0 := CK.out _ hW
      have z1 := CV.out _ hW
      go_simp
      try with_reducible rfl
    try simp only [Act.put, List.setIfInBounds_toArray, List.set_cons_zero, List.set_cons_succ]
    refine wpAnyS_take (i := 7) (v := ?_) G inv hS (by decide) rfl (by kernel_rfl) (by kernel_rfl) (fun _ _ _ h => h) (Or.inl ⟨by kernel_rfl, fun W hW => ?_⟩) (fun inv => ?_)
    rotate_left
    · have z0 := CK.out _ hW
      have z1 := CV.out _ hW
      go_simp
      try with_reducible rfl
    try simp only [Act.put, List.setIfInBounds_toArray, List.set_cons_zero, List.set_cons_succ]
    refine wpAnyS_take (i := 8) (v := ?_) G inv hS (by decide) rfl (by kernel_rfl) (by kernel_rfl) (fun _ _ _ h => h) (Or.inl ⟨by kernel_rfl, fun W hW => ?_⟩) (fun inv => ?_)
    rotate_left
    · have z0 := CK.out _ hW
      have z1 := CV.out _ hW
      go_simp
      try with_reducible rfl
    try simp only [Act.put, List.setIfInBounds_toArray, List.set_cons_zero, List.set_cons_succ]
    refine wpAnyS_step (i := 9) (by kernel_rfl) rfl ?_
    go_wp2_with (go_at_call 69; refine (CW.out _ hS).mono ?_; rintro e w2 ⟨rfl, rfl⟩)
    change (9 ≠ 14 → Φ _) ∧ _
    refine ⟨fun _ => hS, ?_⟩
    have inv := HeadInv.setD (i := 9) inv (by kernel_rfl) (by decide)
    refine wpAnyS_take (i := 10) (v := ?_) G inv hS (by decide) rfl (by kernel_rfl) (by kernel_rfl) (fun _ _ _ h => h) (Or.inl ⟨by kernel_rfl, fun W hW => ?_⟩) (fun inv => ?_)
    rotate_left
    · have z0 := CK.out _ hW
      have z1 := CV.out _ hW
      go_simp
      try with_reducible rfl
    try simp only [Act.put, List.setIfInBounds_toArray, List.set_cons_zero, List.set_cons_succ]
    refine wpAnyS_take (i := 11) (v := ?_) G inv hS (by decide) rfl (by kernel_rfl) (by kernel_rfl) (fun _ _ _ h => h) (Or.inl ⟨by kernel_rfl, fun W hW => ?_⟩) (fun inv => ?_)
    rotate_left
    · have z0 := CK.out _ hW
      have z1 := CV.out _ hW
      go_simp
      try with_reducible rfl
    try simp only [Act.put, List.setIfInBounds_toArray, List.set_cons_zero, List.set_cons_succ]
    refine wpAnyS_take (i := 12) (v := ?_) G inv hS (by decide) rfl (by kernel_rfl) (by kernel_rfl) (fun _ _ _ h => h) (Or.inl ⟨by kernel_rfl, fun W hW => ?_⟩) (fun inv => ?_)
    rotate_left
    · have z0 := CK.out _ hW
      have z1 := CV.out _ hW
      go_simp
      try with_reducible rfl
    try simp only [Act.put, List.setIfInBounds_toArray, List.set_cons_zero, List.set_cons_succ]
    refine wpAnyS_take (i := 13) (v := ?_) G inv hS (by decide) rfl (by kernel_rfl) (by kernel_rfl) (fun _ _ _ h => h) (Or.inl ⟨by kernel_rfl, fun W hW => ?_⟩) (fun inv => ?_)
    rotate_left
    · have z0 := CK.out _ hW
      have z1 := CV.out _ hW
      go_simp
      try with_reducible rfl
    try simp only [Act.put, List.setIfInBounds_toArray, List.set_cons_zero, List.set_cons_succ]
    refine wpAnyS_step (i := 14) (by kernel_rfl) rfl ?_
    go_wp2
    refine ⟨fun h => absurd rfl h, ?_⟩
    refine wpAnyS_done (by kernel_rfl) ?_ _
    have HB := Lib.hid (CB.out _ hS)
    clear hS inv G
    go_wp2_with fail
    go_ret3
    exact ⟨rfl, HB.out⟩

set_option maxRecDepth 100000 in
set_option maxHeartbeats 12800000 in
theorem codeWordFor_good (m P N len : Nat) (hN : 2 ^ m = N) (hF : Fld m P N) (hl0 : 0 < len) (hh : (P : Int) ≤ 9223372036854775807) (A : Option Addr) (n cap : Nat) (rows : List (List Int)) (hok : okS N len rows = true) (hv : fValidCode m P len rows = true) (A1 : Option Addr) (c1 : Nat) (msg : List Int) (w : World) {B T : Nat} (hA : RR w (.slice A n cap) rows) (hM : Res w B T (.slice A1 len c1) msg) (hin : allIn N msg = true) :
    Calls Try.prog 75 #[.agg (codL m P len (.slice A n cap)).toArray, .slice A1 len c1] w fun e w' => ∃ q g, e = .returned (.tuple #[.pointer (some ⟨q, 0, none⟩), .slice (some ⟨g, 0, none⟩) len len, .int .i64 0]) ∧ Below w.heap.size w w' ∧ KO w' w.heap.size m P N len rows q ∧ Rl w' .u8 (some ⟨g, 0, none⟩) len (nats msg) := by
  have hO := fun W a => codeFor_any (m : Int) P len (by omega) hh (.slice A n cap) rows W a
  rw [hv] at hO
  have HO := Lib.hid hO
  have HN := Lib.hid hN
  have HG := Lib.hid (G1.start w (codL m P len (.slice A n cap)) 33)
  have HA := Lib.hid hA
  have HM := Lib.hid hM
  have HI := Lib.hid hin
  clear hO hv hA hM hin hN
  go_enter Try.func75, Try.ntmps75
  have y0 := HG.out.x.cell 0 _ rfl; have y1 := HG.out.x.cell 1 _ rfl; have y2 := HG.out.x.cell 2 _ rfl; have y3 := HG.out.x.cell 3 _ rfl
  go_wp2_with fail
  refine (HO.out _ (HA.out.next HG.out.b)).mono ?_
  rintro e w1 ⟨o, rfl, hb, hK⟩
  have HG1 := Lib.hid (HG.out.next hb)
  clear hb y0 y1 y2 y3
  · skip
    obtain ⟨q, rfl, hko⟩ := hK (by trivial)
    have hKO := (hko m P N len rfl rfl rfl HN.out).low (B1 := w.heap.size) (by simp)
    obtain ⟨c, n', v', hs, vs, b, _, hn', hKA, hE, hfs, hlt, hrows⟩ := hKO.rows hF hok
    obtain ⟨Φ, hΦ⟩ : ∃ Φ : World → Prop, Φ = fun W => KA W q c m P m P N (q + 1) len n' v' hs vs b ∧ KO W w.heap.size m P N len rows q ∧ Below w.heap.size w W := ⟨_, rfl⟩
    have F0 : Φ w1.drew := by rw [hΦ]; exact ⟨hKA.next (Below.refl _ w1).drew, hKO.next (Below.refl _ w1).drew, HG1.out.b.drew⟩
    have SP : Hid (∀ W W', Φ W → Below W.heap.size W W' → Φ W') := Lib.hid fun W W' h hb => by rw [hΦ] at h ⊢; exact ⟨h.1.next hb, h.2.1.next hb, h.2.2.trans (hb.mono h.2.2.size)⟩
    have CB : Hid (∀ W, Φ W → Below w.heap.size w W) := Lib.hid fun W h => by rw [hΦ] at h; exact h.2.2
    have CO : Hid (∀ W, Φ W → KO W w.heap.size m P N len rows q) := Lib.hid fun W h => by rw [hΦ] at h; exact h.2.1
    have CA : Hid (∀ W, Φ W → KA W q c m P m P N (q + 1) len n' v' hs vs b) := Lib.hid fun W h => by rw [hΦ] at h; exact h.1
    have CK : Hid (∀ W, Φ W → W.cell? ⟨q, 0, none⟩ = some (.pointer (some ⟨c, 0, none⟩))) := Lib.hid fun W h => (CA.out W h).x.b.cell 0 _ rfl
    have CV : Hid (∀ W, Φ W → W.cell? ⟨q, 3, none⟩ = some (.int .i64 (len : Int))) := Lib.hid fun W h => (CA.out W h).x.b.cell 3 _ rfl
    have CW : Hid (∀ W, Φ W → Calls Try.prog 69 #[.pointer (some ⟨c, 0, none⟩), .slice A1 len c1, .int .i64 (len : Int)] W fun e w' => ∃ g, e = .returned (.tuple #[.slice (some ⟨g, 0, none⟩) len len, .bool true]) ∧ Below W.heap.size W w' ∧ Rl w' .u8 (some ⟨g, 0, none⟩) len (nats msg)) := Lib.hid fun W h =>
      wordR_yes c m P N hF A1 len c1 msg hl0 W (HM.out.next (CB.out W h)) (CA.out W h).k.deg HI.out
    clear hΦ hKA hK hko hE hfs hlt hrows hn' hKO
    simp only [if_true]
    go_wp2_with fail
    refine wp_region_S (n := 14) (S := Φ) (by kernel_rfl) (by kernel_rfl) F0 (fun G inv hS => ?_)
    clear F0
    refine wpAnyS_take (i := 0) (v := ?_) G inv hS (by decide) rfl (by kernel_rfl) (by kernel_rfl) (fun _ _ _ h => h) (Or.inl ⟨by kernel_rfl, fun W hW => ?_⟩) (fun inv => ?_)
    rotate_left
    · have z0 := CK.out _ hW
      have z1 := CV.out _ hW
      go_simp
      try with_reducible rfl
    try simp only [Act.put, List.setIfInBounds_toArray, List.set_cons_zero, List.set_cons_succ]
    refine wpAnyS_take (i := 1) (v := ?_) G inv hS (by decide) rfl (by kernel_rfl) (by kernel_rfl) (fun _ _ _ h => h) (Or.inl ⟨by kernel_rfl, fun W hW => ?_⟩) (fun inv => ?_)
    rotate_left
    · have z0 := CK.out _ hW
      have z1 := CV.out _ hW
      go_simp
      try with_reducible rfl
    try simp only [Act.put, List.setIfInBounds_toArray, List.set_cons_zero, List.set_cons_succ]
    refine wpAnyS_take (i := 2) (v := ?_) G inv hS (by decide) rfl (by kernel_rfl) (by kernel_rfl) (fun _ _ _ h => h) (Or.inl ⟨by kernel_rfl, fun W hW => ?_⟩) (fun inv => ?_)
    rotate_left
    · have z0 := CK.out _ hW
      have z1 := CV.out _ hW
      go_simp
      try with_reducible rfl
    try simp only [Act.put, List.setIfInBounds_toArray, List.set_cons_zero, List.set_cons_succ]
    refine wpAnyS_take (i := 3) (v := ?_) G inv hS (by decide) rfl (by kernel_rfl) (by kernel_rfl) (fun _ _ _ h => h) (Or.inl ⟨by kernel_rfl, fun W hW => ?_⟩) (fun inv => ?_)
    rotate_left
    · have z0 := CK.out _ hW
      have z1 := CV.out _ hW
      go_simp
      try with_reducible rfl
    try simp only [Act.put, List.setIfInBounds_toArray, List.set_cons_zero, List.set_cons_succ]
    refine wpAnyS_take (i := 4) (v := ?_) G inv hS (by decide) rfl (by kernel_rfl) (by kernel_rfl) (fun _ _ _ h => h) (Or.inl ⟨by kernel_rfl, fun W hW => ?_⟩) (fun inv => ?_)
    rotate_left
    · have z0 := CK.out _ hW
      have z1 := CV.out _ hW
      go_simp
      try with_reducible rfl
    try simp only [Act.put, List.setIfInBounds_toArray, List.set_cons_zero, List.set_cons_succ]
    refine wpAnyS_take (i := 5) (v := ?_) G inv hS (by decide) rfl (by kernel_rfl) (by kernel_rfl) (fun _ _ _ h => h) (Or.inl ⟨by kernel_rfl, fun W hW => ?_⟩) (fun inv => ?_)
    rotate_left
    · have z0 := CK.out _ hW
      have z1 := CV.out _ hW
      go_simp
      try with_reducible rfl
    try simp only [Act.put, List.setIfInBounds_toArray, List.set_cons_zero, List.set_cons_succ]
    refine wpAnyS_take (i := 6) (v := ?_) G inv hS (by decide) rfl (by kernel_rfl) (by kernel_rfl) (fun _ _ _ h => h) (Or.inl ⟨by kernel_rfl, fun W hW => ?_⟩) (fun inv => ?_)
    rotate_left
    · have z0 := CK.out _ hW
      have z1 := CV.out _ hW
      go_simp
      try with_reducible rfl
    try simp only [Act.put, List.setIfInBounds_toArray, List.set_cons_zero, List.set_cons_succ]
    refine wpAnyS_take (i := 7) (v := ?_) G inv hS (by decide) rfl (by kernel_rfl) (by kernel_rfl) (fun _ _ _ h => h) (Or.inl ⟨by kernel_rfl, fun W hW => ?_⟩) (fun inv => ?_)
    rotate_left
    · have z0 := CK.out _ hW
      have z1 := CV.out _ hW
      go_simp
      try with_reducible rfl
    try simp only [Act.put, List.setIfInBounds_toArray, List.set_cons_zero, List.set_cons_succ]
    refine wpAnyS_take (i := 8) (v := ?_) G inv hS (by decide) rfl (by kernel_rfl) (by kernel_rfl) (fun _ _ _ h => h) (Or.inl ⟨by kernel_rfl, fun W hW => ?_⟩) (fun inv => ?_)
    rotate_left
    · have z0 := CK.out _ hW
      have z1 := CV.out _ hW
      go_simp
      try with_reducible rfl
    try simp only [Act.put, List.setIfInBounds_toArray, List.set_cons_zero, List.set_cons_succ]
    refine wpAnyS_step (i := 9) (by kernel_rfl) rfl ?_
    go_wp2_with (go_at_call 69; refine (CW.out _ hS).mono ?_; rintro e w2 ⟨g2, rfl, hb2, hR2⟩)
    have F2 : Φ w2 := SP.out _ _ hS hb2
    clear hb2
    change (9 ≠ 14 → Φ w2) ∧ _
    refine ⟨fun _ => F2, ?_⟩
    have inv := HeadInv.setD (i := 9) inv (by kernel_rfl) (by decide)
    refine wpAnyS_take (i := 10) (v := ?_) G inv F2 (by decide) rfl (by kernel_rfl) (by kernel_rfl) (fun _ _ _ h => h) (Or.inl ⟨by kernel_rfl, fun W hW => ?_⟩) (fun inv => ?_)
    rotate_left
    · have z0 := CK.out _ hW
      have z1 := CV.out _ hW
      go_simp
      try with_reducible rfl
    try simp only [Act.put, List.setIfInBounds_toArray, List.set_cons_zero, List.set_cons_succ]
    refine wpAnyS_take (i := 11) (v := ?_) G inv F2 (by decide) rfl (by kernel_rfl) (by kernel_rfl) (fun _ _ _ h => h) (Or.inl ⟨by kernel_rfl, fun W hW => ?_⟩) (fun inv => ?_)
    rotate_left
    · have z0 := CK.out _ hW
      have z1 := CV.out _ hW
      go_simp
      try with_reducible rfl
    try simp only [Act.put, List.setIfInBounds_toArray, List.set_cons_zero, List.set_cons_succ]
    refine wpAnyS_take (i := 12) (v := ?_) G inv F2 (by decide) rfl (by kernel_rfl) (by kernel_rfl) (fun _ _ _ h => h) (Or.inl ⟨by kernel_rfl, fun W hW => ?_⟩) (fun inv => ?_)
    rotate_left
    · have z0 := CK.out _ hW
      have z1 := CV.out _ hW
      go_simp
      try with_reducible rfl
    try simp only [Act.put, List.setIfInBounds_toArray, List.set_cons_zero, List.set_cons_succ]
    refine wpAnyS_take (i := 13) (v := ?_) G inv F2 (by decide) rfl (by kernel_rfl) (by kernel_rfl) (fun _ _ _ h => h) (Or.inl ⟨by kernel_rfl, fun W hW => ?_⟩) (fun inv => ?_)
    rotate_left
    · have z0 := CK.out _ hW
      have z1 := CV.out _ hW
      go_simp
      try with_reducible rfl
    try simp only [Act.put, List.setIfInBounds_toArray, List.set_cons_zero, List.set_cons_succ]
    refine wpAnyS_step (i := 14) (by kernel_rfl) rfl ?_
    go_wp2
    refine ⟨fun h => absurd rfl h, ?_⟩
    refine wpAnyS_done (by kernel_rfl) ?_ _
    have HB := Lib.hid (And.intro (CB.out _ F2) (And.intro (CO.out _ F2) hR2))
    clear hS inv G F2 hR2
    go_wp2_with fail
    go_ret3
    exact ⟨q, g2, rfl, HB.out.1, HB.out.2.1, HB.out.2.2⟩

set_option maxRecDepth 100000 in
set_option maxHeartbeats 3200000 in
theorem codeWordFor_inv (d p l : Int) (hl : -9223372036854775808 ≤ p) (hh : p ≤ 9223372036854775807) (A : Option Addr) (n cap : Nat) (rows : List (List Int)) (hv : fValidCode d p l rows = false) (vm : Value) (w : World) (hA : RR w (.slice A n cap) rows) :
    Calls Try.prog 75 #[.agg (codL d p l (.slice A n cap)).toArray, vm] w fun e w' => e = .returned (.tuple #[.pointer none, .slice none 0 0, .int .i64 1]) ∧ Below w.heap.size w w' := by
  have hO := fun W a => codeFor_any d p l hl hh (.slice A n cap) rows W a
  rw [hv] at hO
  have HO := Lib.hid hO
  have HG := Lib.hid (G1.start w (codL d p l (.slice A n cap)) 33)
  have HA := Lib.hid hA
  clear hO hv hA
  go_enter Try.func75, Try.ntmps75
  have y0 := HG.out.x.cell 0 _ rfl; have y1 := HG.out.x.cell 1 _ rfl; have y2 := HG.out.x.cell 2 _ rfl; have y3 := HG.out.x.cell 3 _ rfl
  go_wp2_with fail
  refine (HO.out _ (HA.out.next HG.out.b)).mono ?_
  rintro e w1 ⟨o, rfl, hb, hK⟩
  have HB := Lib.hid (HG.out.next hb).b
  clear hb y0 y1 y2 y3 hK
  simp only [if_neg (show ¬ (false = true) by decide)]
  go_wp2_with fail
  go_ret3
  exact ⟨rfl, HB.out⟩
end Go.Proofs.Ytljaabmemjehpaa
namespace Go.Proofs.Ytljaabmemjehpaa
open Go.RowKit Go.Joins
set_option linter.unusedVariables false

set_option maxHeartbeats 1600000 in
theorem slicesEqualW {w : World} {n cap cap' : Nat} {A A' : Option Addr} {p p' : List Nat} (hn : n ≤ 1048576) (hA : Rl w .u8 A n p) (hB : Rl w .u8 A' n p') :
    Calls Try.prog 77 #[.slice A n cap, .slice A' n cap'] w fun e w' => e = .returned (.bool (decide (p = p'))) ∧ Below w.heap.size w w' := by
  have HA := Lib.hid hA
  have HB := Lib.hid hB
  have HE := Lib.hid (show (∀ j, j < n → nth p j = nth p' j) → p = p' from fun h => List.ext_getElem (hA.len.trans hB.len.symm) fun i h1 h2 => by
    have := h i (by have := hA.len; omega)
    simpa [nth, List.getD, h1, h2] using this)
  clear hA hB
  go_enter Try.func77, Try.ntmps77
  go_wp2
  go_loopw [13] (fun i wr => ∃ k q : Nat, k ≤ n ∧ i = .int .i64 k ∧ wr = w.drewN q ∧ ∀ j, j < k → nth p j = nth p' j) (fun i _ => n - (intOf i).toNat)
  case atStart => exact ⟨0, 0, Nat.zero_le _, rfl, rfl, fun j hj => by omega⟩
  case round =>
    obtain ⟨k, q, hk, rfl, rfl, hs⟩ := hrel
    have HS := Lib.hid hs
    clear hs
    by_cases hlt : k < n
    · obtain ⟨g, rfl, hg1, hc1⟩ := HA.out.row (by omega)
      obtain ⟨g', rfl, hg2, hc2⟩ := HB.out.row (by omega)
      replace hc1 : (w.drewN q).cell? ⟨g, k, none⟩ = _ := hc1 k hlt
      replace hc2 : (w.drewN q).cell? ⟨g', k, none⟩ = _ := hc2 k hlt
      obtain ⟨x, hx⟩ : ∃ x, nth p k = x := ⟨_, rfl⟩
      obtain ⟨y, hy⟩ : ∃ y, nth p' k = y := ⟨_, rfl⟩
      rw [hx] at hc1
      rw [hy] at hc2
      have HX := Lib.hid hx
      have HY := Lib.hid hy
      clear hx hy
      generalize hwq : w.drewN q = W at hc1 hc2 ⊢
      have HW := Lib.hid hwq
      clear hwq
      by_cases hxy : x = y
      · subst hxy
        go_wp2
        go_quiet (fail)
        go_wp2
        go_roundw
        case rel => exact ⟨k + 1, q + _, by omega, by go_num, by rw [← HW.out, World.drewN_drewN], fun i hi => by
          by_cases e : i = k
          · subst e; rw [HX.out, HY.out]
          · exact HS.out i (by omega)⟩
        case measure => simp [intOf]; omega
      · have hxy' : ¬ ((x : Int) = (y : Int)) := by omega
        go_wp2
        go_quiet (fail)
        go_wp2
        go_ret
        exact ⟨ret_bool (Eq.symm (decide_eq_false (fun h => hxy (by rw [← HX.out, ← HY.out, h])))), by rw [← HW.out, World.drewN_drewN]; exact below_draws _ _ _⟩
    · obtain rfl : k = n := by omega
      go_wp2
      go_ret
      exact ⟨ret_bool (Eq.symm (decide_eq_true (HE.out HS.out))), below_draws _ _ _⟩
end Go.Proofs.Ytljaabmemjehpaa
namespace Go.Proofs.Ytljaabmemjehpaa
open Go.RowKit Go.Joins Go.ChangeShapes Go.WideShapes Go.Deep
set_option linter.unusedVariables false
set_option linter.unusedSimpArgs false

/-- The elements of a word at the leads of a code's rows. -/
def msgL (len : Nat) (rows : List (List Int)) (wd : List Nat) (n : Nat) : List Nat := lst (fun i => nth wd (ldv (nth (nats (rw' rows i))) len)) n

set_option maxRecDepth 100000 in
set_option maxHeartbeats 12800000 in
theorem implMessageOf_good (m P N len : Nat) (hN : 2 ^ m = N) (hF : Fld m P N) (hl0 : 0 < len) (hl5 : len ≤ 5) (hh : (P : Int) ≤ 9223372036854775807) (A : Option Addr) (n cap : Nat) (rows : List (List Int)) (hn : rows.length = n) (h10 : rows.length ≤ 10) (hok : okS N len rows = true) (hv : fValidCode m P len rows = true) (hech : echL P N len rows = rows) (A1 : Option Addr) (c1 : Nat) (wd : List Int) (w : World) {B T : Nat} (hA : RR w (.slice A n cap) rows) (hM : Res w B T (.slice A1 len c1) wd) (hin : allIn N wd = true) :
    Calls Try.prog 25 #[.agg (codL m P len (.slice A n cap)).toArray, .slice A1 len c1] w fun e w' => ∃ v, e = .returned (.tuple #[v, .int .i64 (if encS P len rows (msgL len rows (nats wd) n) n = nats wd then 0 else 6)]) ∧ Below w.heap.size w w' ∧ Res w' w.heap.size w'.heap.size v (if encS P len rows (msgL len rows (nats wd) n) n = nats wd then ints (msgL len rows (nats wd) n) else []) := by
  obtain ⟨i0, hi, hz0, hz1, hz2⟩ := info_parts Try.infoE
  have hC := fun W a b => codeWordFor_good m P N len hN hF hl0 hh A n cap rows hok hv A1 c1 wd W (B := B) (T := T) a b hin
  have hpw : ∀ j, nth (nats wd) j < N := nats_lt hin (by have := hF.n2; omega)
  have HC := Lib.hid hC
  have HG := Lib.hid (G1.start w (codL m P len (.slice A n cap)) 33)
  have HA := Lib.hid hA
  have HM := Lib.hid hM
  have HECH := Lib.hid hech
  have h10' : n ≤ 10 := by omega
  have HN := Lib.hid hn
  clear hC hv hech hA hM hin hN h10 hn
  go_enter Try.func25, Try.ntmps25
  have y0 := HG.out.x.cell 0 _ rfl; have y1 := HG.out.x.cell 1 _ rfl; have y2 := HG.out.x.cell 2 _ rfl; have y3 := HG.out.x.cell 3 _ rfl
  go_wp2_with fail
  refine (HC.out _ (HA.out.next HG.out.b) (HM.out.next HG.out.b)).mono ?_
  rintro e w1 ⟨q, g1, rfl, hb, hKO, hR1⟩
  have HB1 := Lib.hid (HG.out.next hb).b
  clear hb y0 y1 y2 y3
  obtain ⟨c, n', v', hs, vs, b, hq0, hn', hKA, hE, hfs, hlt, hrows⟩ := hKO.rows hF hok
  obtain rfl : n' = n := by
    have e1 := congrArg List.length hrows
    rw [HECH.out] at e1
    simp at e1
    have := HN.out
    omega
  obtain ⟨A0, c0, hv0, _⟩ := hKA.r.rk
  subst hv0
  have hL : ∀ j, j < n' → (hs j).length = len := fun j hj => (hKA.r.row j hj).len
  have hrw : ∀ j, j < n' → rw' rows j = ints (hs j) := fun j hj => by rw [rw', ← HECH.out, ← hrows]; simp [List.getD, hj]
  have hmsg : ∀ i, i < n' → nth (nats wd) (ldv (nth (nats (rw' rows i))) len) = nth (nats wd) (ldv (nth (hs i)) len) := fun i hi => by rw [hrw i hi, nats_ints]
  have hld : ∀ j, j < n' → ldv (nth (hs j)) len < len := fun j hj => (hE.ld _ (fs_mem hj)).1
  have k4 := hKA.x.b.cell 4 _ rfl
  have HKA := Lib.hid hKA
  have HR1 := Lib.hid hR1
  have HMSG := Lib.hid hmsg
  have HLD := Lib.hid hld
  have HLT := Lib.hid hlt
  have HENC : Hid (∀ p : List Nat, (∀ j, nth p j < N) → encP P len hs p n' = encS P len rows p n') := Lib.hid fun p hp => enc_eq hF hp (fun j hj => ⟨hL j hj, hlt j hj⟩) hrw n' (Nat.le_refl _)
  have HL := Lib.hid hL
  clear hKO hR1 hE hfs hrows hmsg hld hlt hL hrw hq0 hn' hKA
  go_wp2_with (first | (at_make; refine wpList_make_full _ rfl _ _ 96 rfl w.heap.size 109 i0 (.int .u8 0) 1 Try.underlying96 hi hz0 hz1 .i64 .i64 _ _ n' rfl rfl rfl rfl (by rw [hz2]; omega) (by unfold maxLen; omega) HB1.out.size ?_; intro w2 hown hgrow; have hb2 : Below w1.heap.size w1 w2 := (Below.refl _ w1).grown hgrow (Nat.le_refl _) (fun k h => by cases h); have HW2 := Lib.hid (Wr.made (K := .u8) hown); have HB2 := Lib.hid hb2; have k5 := (HKA.out.next hb2).x.b.cell 4 _ rfl; clear hown hgrow hb2))
  clear k4 k5
  go_loopw [33] (fun i wr => ∃ (j : Nat) (F : Nat → Nat), j ≤ n' ∧ i = .int .i64 j ∧ Below w1.heap.size w1 wr ∧ Wr wr .u8 w1.heap.size n' F ∧ Hid (∀ i, i < j → F i = nth (nats wd) (ldv (nth (hs i)) len))) (fun i _ => n' - (intOf i).toNat)
  case atStart => exact ⟨0, _, Nat.zero_le _, rfl, HB2.out, HW2.out, Lib.hid fun i h => by omega⟩
  case round =>
    obtain ⟨j, F, hj, rfl, hb, hW, HI⟩ := hrel
    clear HB2 HW2
    by_cases hlt : j < n'
    · have hKA := HKA.out.next hb
      obtain ⟨gv, capv, cj, hve, _, _, hcv, _, _⟩ := hKA.r.at hlt
      obtain rfl : A0 = some ⟨gv, 0, none⟩ := by injection hve
      have hrow := hKA.r.row j hlt
      have hld := HLD.out j hlt
      have HLE := Lib.hid (fun W a => wlead_any (some ⟨b j, 0, none⟩) len cj (hs j) (by omega) (fun i => Nat.lt_of_lt_of_le (HLT.out j hlt i) (by have := hF.n32; omega)) W a)
      have hI : ldI (hs j) len = ((ldv (nth (hs j)) len : Nat) : Int) := by rw [ldI, if_pos hld]
      rw [hI] at HLE
      obtain ⟨ga, hga, hgz, hgc⟩ := (HR1.out.below hb).row hl0
      obtain rfl : g1 = ga := by injection hga with h; injection h
      have hcl := hgc _ hld
      obtain ⟨t, ht⟩ : ∃ t, ldv (nth (hs j)) len = t := ⟨_, rfl⟩
      rw [ht] at HLE hcl hld
      obtain ⟨x, hx⟩ : ∃ x, nth (nats wd) t = x := ⟨_, rfl⟩
      rw [hx] at hcl
      have HX := Lib.hid (show nth (nats wd) (ldv (nth (hs j)) len) = x by rw [ht, hx])
      have HROW := Lib.hid hrow
      have hcw := hW.cell j hlt
      have hfw := hW.free j
      have HB2 := Lib.hid hb
      have HW2 := Lib.hid hW
      have hld' : (t : Int) < (len : Int) := by omega
      clear hb hW hI hgc hga hrow hKA ht hx hve
      go_wp2_with (go_at_call 76; refine (HLE.out _ HROW.out).mono ?_; rintro e w' ⟨rfl, rfl⟩)
      go_roundw
      case rel => exact ⟨j + 1, _, by omega, by go_num, below_set HB2.out _ _ (Nat.le_refl _) _, HW2.out.set j hlt x, Lib.hid (fun i hi => by
        simp only [put]
        by_cases e : i = j
        · subst e; rw [if_pos rfl, HX.out]
        · rw [if_neg e]; exact HI.out i (by omega))⟩
      case measure => simp [intOf]; omega
    · obtain rfl : j = n' := by omega
      have hres : Rl wr .u8 (some ⟨w1.heap.size, 0, none⟩) j (msgL len rows (nats wd) j) := by
        have h1 := hW.rl
        rwa [show lst F j = msgL len rows (nats wd) j from lst_congr fun i hi => by rw [HI.out i hi, HMSG.out i hi]] at h1
      have hmlt : ∀ i, nth (msgL len rows (nats wd) j) i < N := fun i => by
        by_cases hi : i < j
        · rw [msgL, lst_nth _ hi]; exact hpw _
        · have hz : nth (msgL len rows (nats wd) j) i = 0 := by
            rw [nth, List.getD_eq_getElem?_getD, List.getElem?_eq_none (by rw [msgL, lst_length]; omega)]; rfl
          rw [hz]; have := hF.n2; omega
      have henc := HENC.out _ hmlt
      obtain ⟨M, hMd⟩ : ∃ M, msgL len rows (nats wd) j = M := ⟨_, rfl⟩
      rw [hMd] at hres henc
      simp only [hMd] at hmlt
      have HMD := Lib.hid hMd
      clear hMd
      have HS := Lib.hid (encoded_any m P N hF q c m P (q + 1) len j hl0 hl5 (by omega) _ hs vs b HLT.out (some ⟨w1.heap.size, 0, none⟩) j M hmlt wr (HKA.out.next hb) hres)
      have HRES := Lib.hid hres
      have HB := Lib.hid hb
      have HR := Lib.hid (HR1.out.below hb)
      have HEN := Lib.hid henc
      have HM2 := Lib.hid hmlt
      clear hb hW hres henc hmlt
      go_wp2_with fail
      refine HS.out.mono ?_
      rintro e w4 ⟨g4, rfl, hg4, hb4, hR4⟩
      rw [HEN.out] at hR4
      have HE4 := Lib.hid (slicesEqualW (cap := len) (cap' := len) (by omega) hR4 (HR.out.below hb4))
      have HB4 := Lib.hid (HB.out.trans (hb4.mono HB.out.size))
      have HRM := Lib.hid (HRES.out.below hb4)
      clear hb4 hR4 hg4
      go_wp2_with fail
      refine HE4.out.mono ?_
      rintro e w5 ⟨rfl, hb5⟩
      have HB5 := Lib.hid (HB4.out.trans (hb5.mono HB4.out.size))
      have HRM5 := Lib.hid (HRM.out.below hb5)
      clear hb5
      have HB6 := Lib.hid (HB1.out.trans (HB5.out.mono HB1.out.size))
      by_cases hq : encS P len rows M j = nats wd
      · rw [decide_eq_true hq]
        have HQ := Lib.hid (show encS P len rows (msgL len rows (nats wd) j) j = nats wd by rw [HMD.out]; exact hq)
        clear hq
        go_wp2_with fail
        refine (numbersOf_any (some ⟨w1.heap.size, 0, none⟩) j j M (by omega) (fun i => Nat.lt_of_lt_of_le (HM2.out i) (by have := hF.n32; omega)) _ HRM5.out).mono ?_
        rintro e w6 ⟨g6, rfl, hg6, hb6, hMt⟩
        have HB7 := Lib.hid (HB6.out.trans (hb6.mono HB6.out.size))
        have HR7 := Lib.hid (hMt.res (B := w.heap.size) (cap := j) (by have := HB6.out.size; omega))
        clear hb6 hMt hg6
        go_wp2_with fail
        · go_ret2
          exact ⟨.slice (some ⟨g6, 0, none⟩) j j, rfl, HB7.out, by rw [HMD.out]; exact HR7.out⟩
        all_goals exact absurd HQ.out (by assumption)
      · rw [decide_eq_false hq]
        have HQ := Lib.hid (show ¬ encS P len rows (msgL len rows (nats wd) j) j = nats wd by rw [HMD.out]; exact hq)
        clear hq
        go_wp2_with fail
        all_goals first | (go_ret2; exact ⟨.slice none 0 0, rfl, HB6.out, .nil _ _⟩) | exact absurd (by assumption) HQ.out

/-- The message of a word by a code, and its error. -/
def fMessageOf (d p l : Int) (rows : List (List Int)) (wd : List Int) : List Int × Int :=
  if fValidCode d p l rows = false then ([], 1) else if ¬ ((wd.length : Int) = l ∧ allIn (2 ^ d.toNat) wd = true) then ([], 2)
  else if encS p.toNat l.toNat rows (msgL l.toNat rows (nats wd) rows.length) rows.length = nats wd then (ints (msgL l.toNat rows (nats wd) rows.length), 0) else ([], 6)

set_option maxRecDepth 100000 in
set_option maxHeartbeats 3200000 in
theorem implMessageOf_err (d p l k : Int) (hk : k ≠ 0) (v vm : Value) (w : World) (HC : ∀ W, Below w.heap.size w W → Calls Try.prog 75 #[.agg (codL d p l v).toArray, vm] W fun e w' => e = .returned (.tuple #[.pointer none, .slice none 0 0, .int .i64 k]) ∧ Below W.heap.size W w') :
    Calls Try.prog 25 #[.agg (codL d p l v).toArray, vm] w fun e w' => e = .returned (.tuple #[.slice none 0 0, .int .i64 k]) ∧ Below w.heap.size w w' := by
  have HG := Lib.hid (G1.start w (codL d p l v) 33)
  have HCC := Lib.hid HC
  clear HC
  go_enter Try.func25, Try.ntmps25
  have y0 := HG.out.x.cell 0 _ rfl; have y1 := HG.out.x.cell 1 _ rfl; have y2 := HG.out.x.cell 2 _ rfl; have y3 := HG.out.x.cell 3 _ rfl
  go_wp2_with fail
  refine (HCC.out _ HG.out.b).mono ?_
  rintro e w1 ⟨rfl, hb⟩
  have HB := Lib.hid (HG.out.next hb).b
  clear hb y0 y1 y2 y3
  go_wp2_with fail
  go_ret2
  exact ⟨rfl, HB.out⟩

theorem implMessageOf_any (d p l : Int) (v : Value) (rows : List (List Int)) (vm : Value) (wd : List Int) (w : World) {B T : Nat} (hl : -9223372036854775808 ≤ p) (hh : p ≤ 9223372036854775807) (hA : RR w v rows) (hM : Res w B T vm wd) :
    Calls Try.prog 25 #[.agg (codL d p l v).toArray, vm] w fun e w' => ∃ v, e = .returned (.tuple #[v, .int .i64 (fMessageOf d p l rows wd).2]) ∧ Below w.heap.size w w' ∧ Res w' w.heap.size w'.heap.size v (fMessageOf d p l rows wd).1 := by
  obtain ⟨A, cap, rfl⟩ := hA.is
  obtain ⟨A1, k1, c1, rfl⟩ := hM.form
  have hlen := hM.len
  cases hv : fValidCode d p l rows with
  | false =>
    have e : fMessageOf d p l rows wd = ([], 1) := by rw [fMessageOf, if_pos hv]
    rw [e]
    refine (implMessageOf_err d p l 1 (by decide) _ _ w (fun W hb => codeWordFor_inv d p l hl hh A _ cap rows hv _ W (hA.next hb))).mono ?_
    rintro e w' ⟨rfl, hb⟩
    exact ⟨_, rfl, hb, .nil _ _⟩
  | true =>
    have h0 := valid_zero hv
    obtain ⟨m, P, N, len, rfl, rfl, rfl, hN, hF, hl0, hl5, h10, hok⟩ := cRows_zero h0
    have hech : echL P N len rows = rows := by rw [fValidCode_yes hN h0] at hv; exact of_decide_eq_true hv
    by_cases hk : (k1 : Int) = (len : Int) ∧ allIn N wd = true
    · obtain ⟨hk1, hin⟩ := hk
      obtain rfl : k1 = len := by omega
      have e : fMessageOf m P k1 rows wd = if encS P k1 rows (msgL k1 rows (nats wd) rows.length) rows.length = nats wd then (ints (msgL k1 rows (nats wd) rows.length), 0) else ([], 6) := by
        rw [fMessageOf, if_neg (by rw [hv]; simp), if_neg (by rw [Int.toNat_natCast, hN, hin]; intro h; exact h ⟨by omega, rfl⟩), Int.toNat_natCast, Int.toNat_natCast]
      rw [e]
      refine (implMessageOf_good m P N k1 hN hF hl0 hl5 hh A _ cap rows rfl h10 hok hv hech A1 c1 wd w hA hM hin).mono ?_
      rintro e w' ⟨v, rfl, hb, hR⟩
      split at hR
      · rename_i h
        refine ⟨v, by simp only [if_pos h], hb, ?_⟩
        simp only [if_pos h]
        exact hR
      · rename_i h
        refine ⟨v, by simp only [if_neg h], hb, ?_⟩
        simp only [if_neg h]
        exact hR
    · have e : fMessageOf m P len rows wd = ([], 2) := by
        rw [fMessageOf, if_neg (by rw [hv]; simp), if_pos (by rw [Int.toNat_natCast, hN]; intro h; exact hk ⟨by omega, h.2⟩)]
      rw [e]
      have hbad : (k1 : Int) ≠ (len : Int) ∨ allIn N wd = false := by
        by_cases h1 : (k1 : Int) = (len : Int)
        · right
          cases h2 : allIn N wd with
          | false => rfl
          | true => exact absurd ⟨h1, h2⟩ hk
        · left; exact h1
      refine (implMessageOf_err m P len 2 (by decide) _ _ w (fun W hb => codeWordFor_bad m P N len hN hF hl0 hh A _ cap rows hok hv A1 k1 c1 wd W (hA.next hb) (hM.next hb) hbad)).mono ?_
      rintro e w' ⟨rfl, hb⟩
      exact ⟨_, rfl, hb, .nil _ _⟩
end Go.Proofs.Ytljaabmemjehpaa
