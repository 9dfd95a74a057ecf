/- The word of a message: the model's. -/
import Derived.Test.YtljaabmemjehpaaEchF
namespace Go.Proofs.Ytljaabmemjehpaa
open Go.RowKit Go.Joins
set_option linter.unusedVariables false
set_option linter.unusedSimpArgs false

theorem Rl.eltS {W : World} {K : IntKind} {g n j : Nat} {p : List Nat} (h : Rl W K (some ⟨g, 0, none⟩) n p) (hj : j < n) : W.cell? ⟨g, j, none⟩ = some (.int K (nth p j : Nat)) := by
  obtain ⟨x, e, hx, hc⟩ := h.row (by omega)
  injection e with e; injection e with e
  rw [e]; exact hc j hj
/-- The word of a message, row after row. -/
def encS (P len : Nat) (rows : List (List Int)) (p : List Nat) : Nat → List Nat
  | 0 => lst (fun _ => 0) len
  | j + 1 => addW P (encS P len rows p j) (nats (rw' rows j)) (nth p j) len
theorem encS_len (P len : Nat) (rows : List (List Int)) (p : List Nat) (j : Nat) : (encS P len rows p j).length = len := by
  cases j with
  | zero => exact lst_length _ _
  | succ j => exact addW_len _ _ _ _ _
theorem encS_lt {m P N : Nat} (hF : Fld m P N) {len n : Nat} {rows : List (List Int)} {p : List Nat} (hp : ∀ j, nth p j < N) (hl : ∀ j, j < n → allIn N (rw' rows j) = true ∧ (rw' rows j).length = len) : ∀ j, j ≤ n → ∀ i, nth (encS P len rows p j) i < N := by
  intro j
  induction j with
  | zero =>
    intro _ i
    rw [encS, nth_zeros]
    have := hF.n2; show 0 < N; omega
  | succ j ih =>
    intro hj i
    rw [encS]
    exact addW_lt hF (encS_len ..) (by rw [nats_length]; exact (hl j (by omega)).2) (hp j) (ih (by omega)) (fun i => nats_lt (hl j (by omega)).1 (by have := hF.n2; omega) i) i

set_option maxRecDepth 100000 in
set_option maxHeartbeats 12800000 in
theorem l04Encode_any (m P N : Nat) (hF : Fld m P N) (len : Nat) (hl0 : 0 < len) (hl5 : len ≤ 5) (v : Value) (rows : List (List Int)) (h10 : rows.length ≤ 10) (hok : okS N len rows = true) (q : Nat) (A1 : Option Addr) (c1 : Nat) (pw : List Nat) (hpw : ∀ j, nth pw j < N) (w : World) (hX : LB w q [.int .i64 m, .int .i64 P, .int .i64 len, v]) (hA : RR w v rows) (hR : Rl w .i64 A1 rows.length pw) :
    Calls Try.prog 65 #[.pointer (some ⟨q, 0, none⟩), .slice A1 rows.length c1] w fun e w' => ∃ g cd, e = .returned (.slice (some ⟨g, 0, none⟩) len cd) ∧ Below w.heap.size w w' ∧ w.heap.size ≤ g ∧ g < w'.heap.size ∧ Rl w' .i64 (some ⟨g, 0, none⟩) len (encS P len rows pw rows.length) ∧ ∀ i, w'.frozen? ⟨g, i, none⟩ = false := by
  obtain ⟨A, cap, rfl⟩ := hA.is
  obtain ⟨n, hn⟩ : ∃ n, rows.length = n := ⟨_, rfl⟩
  rw [hn] at hA h10 hX hR ⊢
  obtain ⟨i0, hi, hz0, hz1, hz2⟩ := info_parts Try.infoI
  have hN2 := hF.n2
  have HIN : Hid (∀ j, j < n → allIn N (rw' rows j) = true ∧ (rw' rows j).length = len) := Lib.hid (fun j hj => by
    have := okS_get hok (j := j) (by omega)
    simp only [okR, Bool.and_eq_true, decide_eq_true_eq] at this
    exact ⟨this.2, by omega⟩)
  have HEL : Hid (∀ j, j ≤ n → ∀ i, nth (encS P len rows pw j) i < N) := Lib.hid (encS_lt hF hpw HIN.out)
  have HPW := Lib.hid hpw
  have HX := Lib.hid hX
  have HA := Lib.hid hA
  have HR := Lib.hid hR
  have x2 := hX.cell 2 _ rfl
  clear hA hX hR hn hok hpw
  go_enter Try.func65, Try.ntmps65
  go_wp2_with (at_make; refine wpList_make_full _ rfl _ _ 27 rfl w.heap.size 2 i0 (.int .i64 0) 1 Try.underlying27 hi hz0 hz1 .i64 .i64 _ _ len rfl rfl rfl rfl (by rw [hz2]; omega) (by unfold maxLen; omega) (Nat.le_refl _) ?_; intro w1 hown hgrow)
  have hb1 : Below w.heap.size w w1 := (Below.refl _ w).grown hgrow (Nat.le_refl _) (fun k h => by cases h)
  have HW := Lib.hid (Wr.made (K := .i64) hown)
  have HB := Lib.hid hb1
  have HL := Lib.hid (hown.lt _ rfl).2
  clear hown hgrow hz0 hz1 hz2 hi hb1 x2
  go_loopw [5, 6] (fun wv iv wr => ∃ (j g cd : Nat), j ≤ n ∧ iv = .int .i64 j ∧ wv = .slice (some ⟨g, 0, none⟩) len cd ∧ Below w.heap.size w wr ∧ w.heap.size ≤ g ∧ g < wr.heap.size ∧ Rl wr .i64 (some ⟨g, 0, none⟩) len (encS P len rows pw j) ∧ Hid (∀ i, wr.frozen? ⟨g, i, none⟩ = false)) (fun _ iv _ => n - (intOf iv).toNat)
  case atStart => exact ⟨0, w.heap.size, _, Nat.zero_le _, rfl, rfl, HB.out, Nat.le_refl _, HL.out, by rw [encS]; exact HW.out.rl, Lib.hid HW.out.free⟩
  case round =>
    obtain ⟨j, ge, ce, hj, rfl, rfl, hb, hge0, hge1, hE, HFR⟩ := hrel
    clear HW HB HL
    have x3 := (HX.out.next hb).cell 3 _ rfl
    by_cases hlt : j < n
    · obtain ⟨_, ga, rfl, hgl, Ak, nk, ck, Bk, Tk, hck, hRk⟩ := HA.out.row hlt
      have hkk := HIN.out j hlt
      have hnk : nk = len := by have := hRk.len; omega
      subst hnk
      obtain ⟨gp, rfl, hgp, hcp⟩ := (HR.out.below hb).row (by omega)
      have hcj := hcp j hlt
      have hxN := HPW.out j
      obtain ⟨x, hx⟩ : ∃ x, nth pw j = x := ⟨_, rfl⟩
      rw [hx] at hcj hxN
      have HX2 := Lib.hid hx
      have HCK : Hid (∀ W, Below w.heap.size w W → W.cell? ⟨ga, j, none⟩ = some (.slice Ak nk ck) ∧ Rl W .i64 Ak nk (nats (rw' rows j))) := Lib.hid fun W hW => ⟨(hW.cell (p := ⟨ga, j, none⟩) hgl).trans hck, (hRk.next hW).rl hkk.1⟩
      obtain ⟨Φ, hΦ⟩ : ∃ Φ : World → Prop, Φ = fun W => Rl W .i64 (some ⟨ge, 0, none⟩) nk (encS P nk rows pw j) ∧ Below w.heap.size w W := ⟨_, rfl⟩
      have F0 : Φ wr.drew := by rw [hΦ]; exact ⟨hE.below (Below.refl _ wr).drew, hb.drew⟩
      have SP : Hid (∀ W W', Φ W → Below W.heap.size W W' → Φ W') := Lib.hid fun W W' h hb => by rw [hΦ] at h ⊢; exact ⟨h.1.below hb, h.2.trans (hb.mono h.2.size)⟩
      have CB : Hid (∀ W, Φ W → Below w.heap.size w W) := Lib.hid fun W h => by rw [hΦ] at h; exact h.2
      have CS : Hid (∀ W, Φ W → w.heap.size ≤ W.heap.size) := Lib.hid fun W h => by rw [hΦ] at h; exact h.2.size
      have CQ : Hid (∀ W, Φ W → LB W q [.int .i64 (m : Int), .int .i64 (P : Int), .int .i64 (nk : Int), .slice (some ⟨ga, 0, none⟩) n cap]) := Lib.hid fun W h => by rw [hΦ] at h; exact HX.out.next h.2
      have CI : Hid (∀ W, Φ W → W.cell? ⟨ga, j, none⟩ = some (.slice Ak nk ck)) := Lib.hid fun W h => by rw [hΦ] at h; exact (HCK.out _ h.2).1
      have CM : Hid (∀ W, Φ W → W.cell? ⟨gp, j, none⟩ = some (.int .i64 (x : Int))) := Lib.hid fun W h => by rw [hΦ] at h; rw [← HX2.out]; exact (HR.out.below h.2).eltS hlt
      have CA : Hid (∀ W, Φ W → Calls Try.prog 112 #[.agg #[.int .i64 m, .int .i64 P], .slice (some ⟨ge, 0, none⟩) nk ce, .slice Ak nk ck, .int .i64 (x : Int)] W fun e w' => ∃ D cd, e = .returned (.slice D nk cd) ∧ Below W.heap.size W w' ∧ OL w' W.heap.size D nk cd (addW P (encS P nk rows pw j) (nats (rw' rows j)) x nk)) := Lib.hid fun W h => by
        rw [hΦ] at h
        exact l04Add_any m P N hF _ _ nk ce ck _ _ x hxN (HEL.out j (by omega)) (nats_lt (HIN.out j hlt).1 (by omega)) (by omega) W h.1 (HCK.out _ h.2).2
      clear hΦ hb hE hx hck hRk hcp hkk hcj hge1 hgl hgp HFR
      go_wp2_with fail
      refine wp_region_S (n := 17) (S := Φ) (by kernel_rfl) (by kernel_rfl) F0 (fun G inv hS => ?_)
      clear x3 F0
      refine wpAnyS_take (i := 0) (v := ?_) G inv hS (by decide) rfl (by kernel_rfl) (by kernel_rfl) (fun _ _ _ h => h) (Or.inl ⟨by kernel_rfl, fun W hW => ?_⟩) (fun inv => ?_)
      rotate_left
      · have z0 := (CQ.out _ hW).cell 0 _ rfl
        have z1 := (CQ.out _ hW).cell 1 _ rfl
        have z3 := (CQ.out _ hW).cell 3 _ rfl
        have z4 := CI.out _ hW
        have z5 := CM.out _ hW
        go_simp
        try with_reducible rfl
      try simp only [Act.put, List.setIfInBounds_toArray, List.set_cons_zero, List.set_cons_succ]
      refine wpAnyS_take (i := 1) (v := ?_) G inv hS (by decide) rfl (by kernel_rfl) (by kernel_rfl) (fun _ _ _ h => h) (Or.inl ⟨by kernel_rfl, fun W hW => ?_⟩) (fun inv => ?_)
      rotate_left
      · have z0 := (CQ.out _ hW).cell 0 _ rfl
        have z1 := (CQ.out _ hW).cell 1 _ rfl
        have z3 := (CQ.out _ hW).cell 3 _ rfl
        have z4 := CI.out _ hW
        have z5 := CM.out _ hW
        go_simp
        try with_reducible rfl
      try simp only [Act.put, List.setIfInBounds_toArray, List.set_cons_zero, List.set_cons_succ]
      refine wpAnyS_take (i := 2) (v := ?_) G inv hS (by decide) rfl (by kernel_rfl) (by kernel_rfl) (fun _ _ _ h => h) (Or.inl ⟨by kernel_rfl, fun W hW => ?_⟩) (fun inv => ?_)
      rotate_left
      · have z0 := (CQ.out _ hW).cell 0 _ rfl
        have z1 := (CQ.out _ hW).cell 1 _ rfl
        have z3 := (CQ.out _ hW).cell 3 _ rfl
        have z4 := CI.out _ hW
        have z5 := CM.out _ hW
        go_simp
        try with_reducible rfl
      try simp only [Act.put, List.setIfInBounds_toArray, List.set_cons_zero, List.set_cons_succ]
      refine wpAnyS_take (i := 3) (v := ?_) G inv hS (by decide) rfl (by kernel_rfl) (by kernel_rfl) (fun _ _ _ h => h) (Or.inl ⟨by kernel_rfl, fun W hW => ?_⟩) (fun inv => ?_)
      rotate_left
      · have z0 := (CQ.out _ hW).cell 0 _ rfl
        have z1 := (CQ.out _ hW).cell 1 _ rfl
        have z3 := (CQ.out _ hW).cell 3 _ rfl
        have z4 := CI.out _ hW
        have z5 := CM.out _ hW
        go_simp
        try with_reducible rfl
      try simp only [Act.put, List.setIfInBounds_toArray, List.set_cons_zero, List.set_cons_succ]
      refine wpAnyS_take (i := 4) (v := ?_) G inv hS (by decide) rfl (by kernel_rfl) (by kernel_rfl) (fun _ _ _ h => h) (Or.inl ⟨by kernel_rfl, fun W hW => ?_⟩) (fun inv => ?_)
      rotate_left
      · have z0 := (CQ.out _ hW).cell 0 _ rfl
        have z1 := (CQ.out _ hW).cell 1 _ rfl
        have z3 := (CQ.out _ hW).cell 3 _ rfl
        have z4 := CI.out _ hW
        have z5 := CM.out _ hW
        go_simp
        try with_reducible rfl
      try simp only [Act.put, List.setIfInBounds_toArray, List.set_cons_zero, List.set_cons_succ]
      refine wpAnyS_take (i := 5) (v := ?_) G inv hS (by decide) rfl (by kernel_rfl) (by kernel_rfl) (fun _ _ _ h => h) (Or.inl ⟨by kernel_rfl, fun W hW => ?_⟩) (fun inv => ?_)
      rotate_left
      · have z0 := (CQ.out _ hW).cell 0 _ rfl
        have z1 := (CQ.out _ hW).cell 1 _ rfl
        have z3 := (CQ.out _ hW).cell 3 _ rfl
        have z4 := CI.out _ hW
        have z5 := CM.out _ hW
        go_simp
        try with_reducible rfl
      try simp only [Act.put, List.setIfInBounds_toArray, List.set_cons_zero, List.set_cons_succ]
      refine wpAnyS_take (i := 6) (v := ?_) G inv hS (by decide) rfl (by kernel_rfl) (by kernel_rfl) (fun _ _ _ h => h) (Or.inl ⟨by kernel_rfl, fun W hW => ?_⟩) (fun inv => ?_)
      rotate_left
      · have z0 := (CQ.out _ hW).cell 0 _ rfl
        have z1 := (CQ.out _ hW).cell 1 _ rfl
        have z3 := (CQ.out _ hW).cell 3 _ rfl
        have z4 := CI.out _ hW
        have z5 := CM.out _ hW
        go_simp
        try with_reducible rfl
      try simp only [Act.put, List.setIfInBounds_toArray, List.set_cons_zero, List.set_cons_succ]
      refine wpAnyS_take (i := 7) (v := ?_) G inv hS (by decide) rfl (by kernel_rfl) (by kernel_rfl) (fun _ _ _ h => h) (Or.inl ⟨by kernel_rfl, fun W hW => ?_⟩) (fun inv => ?_)
      rotate_left
      · have z0 := (CQ.out _ hW).cell 0 _ rfl
        have z1 := (CQ.out _ hW).cell 1 _ rfl
        have z3 := (CQ.out _ hW).cell 3 _ rfl
        have z4 := CI.out _ hW
        have z5 := CM.out _ hW
        go_simp
        try with_reducible rfl
      try simp only [Act.put, List.setIfInBounds_toArray, List.set_cons_zero, List.set_cons_succ]
      refine wpAnyS_take (i := 8) (v := ?_) G inv hS (by decide) rfl (by kernel_rfl) (by kernel_rfl) (fun _ _ _ h => h) (Or.inl ⟨by kernel_rfl, fun W hW => ?_⟩) (fun inv => ?_)
      rotate_left
      · have z0 := (CQ.out _ hW).cell 0 _ rfl
        have z1 := (CQ.out _ hW).cell 1 _ rfl
        have z3 := (CQ.out _ hW).cell 3 _ rfl
        have z4 := CI.out _ hW
        have z5 := CM.out _ hW
        go_simp
        try with_reducible rfl
      try simp only [Act.put, List.setIfInBounds_toArray, List.set_cons_zero, List.set_cons_succ]
      refine wpAnyS_take (i := 9) (v := ?_) G inv hS (by decide) rfl (by kernel_rfl) (by kernel_rfl) (fun _ _ _ h => h) (Or.inl ⟨by kernel_rfl, fun W hW => ?_⟩) (fun inv => ?_)
      rotate_left
      · have z0 := (CQ.out _ hW).cell 0 _ rfl
        have z1 := (CQ.out _ hW).cell 1 _ rfl
        have z3 := (CQ.out _ hW).cell 3 _ rfl
        have z4 := CI.out _ hW
        have z5 := CM.out _ hW
        go_simp
        try with_reducible rfl
      try simp only [Act.put, List.setIfInBounds_toArray, List.set_cons_zero, List.set_cons_succ]
      refine wpAnyS_take (i := 10) (v := ?_) G inv hS (by decide) rfl (by kernel_rfl) (by kernel_rfl) (fun _ _ _ h => h) (Or.inl ⟨by kernel_rfl, fun W hW => ?_⟩) (fun inv => ?_)
      rotate_left
      · have z0 := (CQ.out _ hW).cell 0 _ rfl
        have z1 := (CQ.out _ hW).cell 1 _ rfl
        have z3 := (CQ.out _ hW).cell 3 _ rfl
        have z4 := CI.out _ hW
        have z5 := CM.out _ hW
        go_simp
        try with_reducible rfl
      try simp only [Act.put, List.setIfInBounds_toArray, List.set_cons_zero, List.set_cons_succ]
      refine wpAnyS_take (i := 11) (v := ?_) G inv hS (by decide) rfl (by kernel_rfl) (by kernel_rfl) (fun _ _ _ h => h) (Or.inl ⟨by kernel_rfl, fun W hW => ?_⟩) (fun inv => ?_)
      rotate_left
      · have z0 := (CQ.out _ hW).cell 0 _ rfl
        have z1 := (CQ.out _ hW).cell 1 _ rfl
        have z3 := (CQ.out _ hW).cell 3 _ rfl
        have z4 := CI.out _ hW
        have z5 := CM.out _ hW
        go_simp
        try with_reducible rfl
      try simp only [Act.put, List.setIfInBounds_toArray, List.set_cons_zero, List.set_cons_succ]
      refine wpAnyS_take (i := 12) (v := ?_) G inv hS (by decide) rfl (by kernel_rfl) (by kernel_rfl) (fun _ _ _ h => h) (Or.inl ⟨by kernel_rfl, fun W hW => ?_⟩) (fun inv => ?_)
      rotate_left
      · have z0 := (CQ.out _ hW).cell 0 _ rfl
        have z1 := (CQ.out _ hW).cell 1 _ rfl
        have z3 := (CQ.out _ hW).cell 3 _ rfl
        have z4 := CI.out _ hW
        have z5 := CM.out _ hW
        go_simp
        try with_reducible rfl
      try simp only [Act.put, List.setIfInBounds_toArray, List.set_cons_zero, List.set_cons_succ]
      refine wpAnyS_take (i := 13) (v := ?_) G inv hS (by decide) rfl (by kernel_rfl) (by kernel_rfl) (fun _ _ _ h => h) (Or.inl ⟨by kernel_rfl, fun W hW => ?_⟩) (fun inv => ?_)
      rotate_left
      · have z0 := (CQ.out _ hW).cell 0 _ rfl
        have z1 := (CQ.out _ hW).cell 1 _ rfl
        have z3 := (CQ.out _ hW).cell 3 _ rfl
        have z4 := CI.out _ hW
        have z5 := CM.out _ hW
        go_simp
        try with_reducible rfl
      try simp only [Act.put, List.setIfInBounds_toArray, List.set_cons_zero, List.set_cons_succ]
      refine wpAnyS_take (i := 14) (v := ?_) G inv hS (by decide) rfl (by kernel_rfl) (by kernel_rfl) (fun _ _ _ h => h) (Or.inl ⟨by kernel_rfl, fun W hW => ?_⟩) (fun inv => ?_)
      rotate_left
      · have z0 := (CQ.out _ hW).cell 0 _ rfl
        have z1 := (CQ.out _ hW).cell 1 _ rfl
        have z3 := (CQ.out _ hW).cell 3 _ rfl
        have z4 := CI.out _ hW
        have z5 := CM.out _ hW
        go_simp
        try with_reducible rfl
      try simp only [Act.put, List.setIfInBounds_toArray, List.set_cons_zero, List.set_cons_succ]
      refine wpAnyS_take (i := 15) (v := ?_) G inv hS (by decide) rfl (by kernel_rfl) (by kernel_rfl) (fun _ _ _ h => h) (Or.inl ⟨by kernel_rfl, fun W hW => ?_⟩) (fun inv => ?_)
      rotate_left
      · have z0 := (CQ.out _ hW).cell 0 _ rfl
        have z1 := (CQ.out _ hW).cell 1 _ rfl
        have z3 := (CQ.out _ hW).cell 3 _ rfl
        have z4 := CI.out _ hW
        have z5 := CM.out _ hW
        go_simp
        try with_reducible rfl
      try simp only [Act.put, List.setIfInBounds_toArray, List.set_cons_zero, List.set_cons_succ]
      refine wpAnyS_step (i := 16) (by kernel_rfl) rfl ?_
      go_wp2_with (go_at_call 112; refine (CA.out _ hS).mono ?_; rintro e w2 ⟨D2, cd2, rfl, hb2, hO2⟩)
      have F2 : Φ w2 := SP.out _ _ hS hb2
      have hsz := CS.out _ hS
      clear hb2
      change (16 ≠ 17 → Φ w2) ∧ _
      refine ⟨fun _ => F2, ?_⟩
      refine wpAnyS_step (i := 17) (by kernel_rfl) rfl ?_
      go_wp2
      refine ⟨fun h => absurd rfl h, ?_⟩
      refine wpAnyS_done (by kernel_rfl) ?_ _
      obtain ⟨g2, rfl, hg2, hg3, hR2, hfr2⟩ := hO2.at hl0
      have HEND := Lib.hid (CB.out _ F2)
      have HR2 := Lib.hid (And.intro hR2 hfr2)
      clear F2 hS inv G hO2 hR2 hfr2
      go_wp2_with fail
      go_roundw
      case rel => exact ⟨j + 1, g2, cd2, by omega, by go_num, rfl, HEND.out, by omega, hg3, by rw [encS, HX2.out]; exact HR2.out.1, Lib.hid HR2.out.2⟩
      case measure => simp [intOf]; omega
    · obtain rfl : n = j := by omega
      have HB := Lib.hid hb
      have HE := Lib.hid (And.intro hE HFR.out)
      clear hb hE
      go_wp2_with fail
      go_ret
      exact ⟨ge, ce, rfl, HB.out, hge0, hge1, HE.out.1, HE.out.2⟩
end Go.Proofs.Ytljaabmemjehpaa
