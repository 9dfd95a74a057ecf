/- The code of rows over a field. -/
import Derived.Test.YtfpahdbkcdpchaaFieldEchelon
namespace Go.Proofs.Ytfpahdbkcdpchaa
open Go.RowKit Go.Joins Go.ChangeShapes Go.WideShapes Go.Deep
set_option linter.unusedVariables false
set_option linter.unusedSimpArgs false

theorem cod_results {fn : Func} {p u : Tmp} (h : fn.results = #[.cell p 36, .tmp u]) (tmps : Array Value) {W : World} {q : Nat} {vs : List Value}
    (hp : tmps.getD p undef = .pointer (some ⟨q, 0, none⟩)) (hG : LB W q vs) (hl : vs.length = 4) : (results fn tmps).run Try.prog W = .ok (.tuple #[.agg vs.toArray, tmps.getD u undef]) W := by
  rw [results_cell_tmp h, hp]
  simp [asAddr, lb_load hG 36 Try.underlying36 rfl (by rw [hl]; exact Try.infoCode), Result.andThen]
abbrev putC (W : World) (q : Nat) (a b c d : Value) : World := (((W.setCell ⟨q, 0, none⟩ a).setCell ⟨q, 1, none⟩ b).setCell ⟨q, 2, none⟩ c).setCell ⟨q, 3, none⟩ d
theorem LF.put4 {W : World} {q : Nat} {v0 v1 v2 v3 : Value} (h : LF W q [v0, v1, v2, v3]) (a b c d : Value) : LF (putC W q a b c d) q [a, b, c, d] :=
  (((h.set 0 (by simp) a).set 1 (by simp) b).set 2 (by simp) c).set 3 (by simp) d
theorem below_put4 {w W : World} {B q : Nat} (h : Below B w W) (hq : B ≤ q) (a b c d : Value) : Below B w (putC W q a b c d) :=
  (((h.setCell (p := ⟨q, 0, none⟩) hq a).setCell (p := ⟨q, 1, none⟩) hq b).setCell (p := ⟨q, 2, none⟩) hq c).setCell (p := ⟨q, 3, none⟩) hq d
theorem chg_put4 (W : World) (q : Nat) (a b c d : Value) : Chg q (q + 1) W (putC W q a b c d) := by
  have hc : ∀ (W : World) (i : Nat) (x : Value), Chg q (q + 1) W (W.setCell ⟨q, i, none⟩ x) := fun W i x => ⟨rfl, rfl, rfl, Nat.le_of_eq (size_setCell_ ..).symm, fun k hk ho => Below.heap_setCell W ⟨q, i, none⟩ x k (by show k ≠ q; omega)⟩
  exact ((hc W 0 a).trans (hc _ 1 b)).trans ((hc _ 2 c).trans (hc _ 3 d))
theorem RS.put4 {W : World} {B q B' : Nat} {v : Value} {rows : List (List Int)} (h : RS W B W.heap.size v rows) (hq : q < B) (hB : B' ≤ B) (a b c d : Value) : RS (putC W q a b c d) B' (putC W q a b c d).heap.size v rows := by
  have h := h.chg (chg_put4 W q a b c d) (.inr (by omega))
  have e : (putC W q a b c d).heap.size = W.heap.size := by simp only [size_setCell_]
  rw [e]
  exact h.wide hB

def fCodeOf (d p l : Int) (rows : List (List Int)) : Int × Int × Int × List (List Int) × Int := if cRows d p l rows = 0 then (d, p, l, echL (p.toNat) (2 ^ d.toNat) l.toNat rows, 0) else (0, 0, 0, [], cRows d p l rows)

set_option maxRecDepth 100000 in
set_option maxHeartbeats 6400000 in
theorem specCodeOf_any (d p l : Int) (v : Value) (rows : List (List Int)) (w : World) (hA : RR w v rows) :
    Calls Try.prog 25 #[.agg #[.int .i64 d, .int .i64 p], .int .i64 l, v] w fun e w' => ∃ v, e = .returned (.tuple #[.agg (codL (fCodeOf d p l rows).1 (fCodeOf d p l rows).2.1 (fCodeOf d p l rows).2.2.1 v).toArray, .int .i64 (fCodeOf d p l rows).2.2.2.2]) ∧ Below w.heap.size w w' ∧ RS w' w.heap.size w'.heap.size v (fCodeOf d p l rows).2.2.2.1 := by
  obtain ⟨A, cap, rfl⟩ := hA.is
  obtain ⟨n, hn⟩ : ∃ n, rows.length = n := ⟨_, rfl⟩
  rw [hn] at hA ⊢
  have HN := Lib.hid hn
  have HA := Lib.hid hA
  clear hA hn
  rcases Classical.em (cRows d p l rows = 0) with h0 | h0
  · obtain ⟨m, P, N, len, rfl, rfl, rfl, hN, hF, hl0, hl5, h10, hok⟩ := cRows_zero h0
    have e : fCodeOf m P len rows = ((m : Int), (P : Int), (len : Int), echL P N len rows, 0) := by
      rw [fCodeOf, if_pos h0, Int.toNat_natCast, Int.toNat_natCast, Int.toNat_natCast, hN]
    rw [e]
    have hR : ∀ W, RR W (.slice A n cap) rows → _ := fun W a => (l04Rows_any (m : Int) P len rows W a)
    rw [h0] at hR
    have HR := Lib.hid hR
    have HE := Lib.hid (fun W a => l04Echelon_any m P N hF len hl0 hl5 (v := .slice A n cap) rows h10 hok W a)
    have hG := G1.start w [.int .i64 m, .int .i64 P] 28
    have hO := LF.start (w.alloc (.cells [.int .i64 m, .int .i64 P].toArray 28)) (codL 0 0 0 (.slice none 0 0)) 36
    rw [World.size_alloc] at hO
    have HG := Lib.hid (hG.next (below_alloc1 _ (.cells (codL 0 0 0 (.slice none 0 0)).toArray 36)))
    clear hR hF hN e h0 hG
    obtain ⟨r, hr⟩ : ∃ r, echL P N len rows = r := ⟨_, rfl⟩
    rw [hr] at HE ⊢
    clear hr
    go_enter Try.func25, Try.ntmps25
    have x0 : _ := HG.out.x.cell 0 _ rfl
    have x1 : _ := HG.out.x.cell 1 _ rfl
    have HO0 := Lib.hid hO
    clear hO
    go_wp2_with fail
    refine (HR.out _ (HA.out.next HG.out.b)).mono ?_
    rintro e w1 ⟨rfl, hb⟩
    have hG1 := HG.out.next hb
    have hO1 := HO0.out.next hb
    obtain ⟨Φ, hΦ⟩ : ∃ Φ : World → Prop, Φ = fun W => G1 w [.int .i64 m, .int .i64 P] W := ⟨_, rfl⟩
    have GX : Hid (∀ W, Φ W → G1 w [.int .i64 m, .int .i64 P] W) := Lib.hid fun W h => by rw [hΦ] at h; exact h
    have SP : Hid (∀ W W', Φ W → Below W.heap.size W W' → Φ W') := Lib.hid fun W W' h hb => by rw [hΦ] at h ⊢; exact h.next hb
    have S4 : Hid (∀ W a b c d, Φ W → Φ (putC W (w.heap.size + 1) a b c d)) := Lib.hid fun W a b c d h => by
      rw [hΦ] at h ⊢
      exact ⟨below_put4 h.b (by omega) a b c d, (((h.x.other (by omega) 0 a).other (by omega) 1 b).other (by omega) 2 c).other (by omega) 3 d⟩
    have F0 : Φ w1.drew := by rw [hΦ]; exact hG1.drew
    have HO := Lib.hid (hO1.next (Below.refl _ w1).drew)
    have x0 : _ := hG1.x.cell 0 _ rfl
    have x1 : _ := hG1.x.cell 1 _ rfl
    clear hb HG HO0 hG1 hO1 hΦ HR
    go_wp2_with fail
    refine wp_region_S (n := 8) (S := Φ) (by kernel_rfl) (by kernel_rfl) F0 (fun G inv hS => ?_)
    clear F0 x0 x1
    refine wpAnyS_take (i := 0) (v := ?_) G inv hS (by decide) rfl (by kernel_rfl) (by kernel_rfl) (fun _ _ _ h => h) (Or.inl ⟨by kernel_rfl, fun W hW => ?_⟩) (fun inv => ?_)
    rotate_left
    · have z0 := (GX.out _ hW).x.cell 0 _ rfl
      have z1 := (GX.out _ hW).x.cell 1 _ rfl
      go_simp
      try with_reducible rfl
    try simp only [Act.put, List.setIfInBounds_toArray, List.set_cons_zero, List.set_cons_succ]
    refine wpAnyS_take (i := 1) (v := ?_) G inv hS (by decide) rfl (by kernel_rfl) (by kernel_rfl) (fun _ _ _ h => h) (Or.inl ⟨by kernel_rfl, fun W hW => ?_⟩) (fun inv => ?_)
    rotate_left
    · have z0 := (GX.out _ hW).x.cell 0 _ rfl
      have z1 := (GX.out _ hW).x.cell 1 _ rfl
      go_simp
      try with_reducible rfl
    try simp only [Act.put, List.setIfInBounds_toArray, List.set_cons_zero, List.set_cons_succ]
    refine wpAnyS_take (i := 2) (v := ?_) G inv hS (by decide) rfl (by kernel_rfl) (by kernel_rfl) (fun _ _ _ h => h) (Or.inl ⟨by kernel_rfl, fun W hW => ?_⟩) (fun inv => ?_)
    rotate_left
    · have z0 := (GX.out _ hW).x.cell 0 _ rfl
      have z1 := (GX.out _ hW).x.cell 1 _ rfl
      go_simp
      try with_reducible rfl
    try simp only [Act.put, List.setIfInBounds_toArray, List.set_cons_zero, List.set_cons_succ]
    refine wpAnyS_take (i := 3) (v := ?_) G inv hS (by decide) rfl (by kernel_rfl) (by kernel_rfl) (fun _ _ _ h => h) (Or.inl ⟨by kernel_rfl, fun W hW => ?_⟩) (fun inv => ?_)
    rotate_left
    · have z0 := (GX.out _ hW).x.cell 0 _ rfl
      have z1 := (GX.out _ hW).x.cell 1 _ rfl
      go_simp
      try with_reducible rfl
    try simp only [Act.put, List.setIfInBounds_toArray, List.set_cons_zero, List.set_cons_succ]
    refine wpAnyS_take (i := 4) (v := ?_) G inv hS (by decide) rfl (by kernel_rfl) (by kernel_rfl) (fun _ _ _ h => h) (Or.inl ⟨by kernel_rfl, fun W hW => ?_⟩) (fun inv => ?_)
    rotate_left
    · have z0 := (GX.out _ hW).x.cell 0 _ rfl
      have z1 := (GX.out _ hW).x.cell 1 _ rfl
      go_simp
      try with_reducible rfl
    try simp only [Act.put, List.setIfInBounds_toArray, List.set_cons_zero, List.set_cons_succ]
    refine wpAnyS_step (i := 5) (by kernel_rfl) rfl ?_
    go_wp2_with (go_at_call 60; refine (HE.out _ (HA.out.next (GX.out _ hS).b)).mono ?_; rintro e w2 ⟨A2, k2, cap2, rfl, rfl, hb, hR⟩)
    have F2 : Φ w2 := SP.out _ _ hS hb
    have hO2 := HO.out.next hb
    have HB := Lib.hid hb
    have HR := Lib.hid hR
    have HZ := Lib.hid HO.out.b.lt
    clear hb hR
    change (5 ≠ 8 → Φ w2) ∧ _
    refine ⟨fun _ => F2, ?_⟩
    refine wpAnyS_step (i := 6) (by kernel_rfl) rfl ?_
    go_wp2
    change (6 ≠ 8 → Φ w2) ∧ _
    refine ⟨fun _ => F2, ?_⟩
    have r0 := hO2.b.cell 0 _ rfl; have r1 := hO2.b.cell 1 _ rfl; have r2 := hO2.b.cell 2 _ rfl; have r3 := hO2.b.cell 3 _ rfl
    have g0 := hO2.free 0 (by simp); have g1 := hO2.free 1 (by simp); have g2 := hO2.free 2 (by simp); have g3 := hO2.free 3 (by simp)
    refine wpAnyS_step (i := 7) (by kernel_rfl) rfl ?_
    go_wp2
    change (7 ≠ 8 → Φ (putC w2 (w.heap.size + 1) (.int .i64 m) (.int .i64 P) (.int .i64 (len : Int)) (.slice A2 r.length cap2))) ∧ _
    refine ⟨fun _ => S4.out _ _ _ _ _ F2, ?_⟩
    refine wpAnyS_step (i := 8) (by kernel_rfl) rfl ?_
    go_wp2
    refine ⟨fun h => absurd rfl h, ?_⟩
    refine wpAnyS_done (by kernel_rfl) ?_ _
    have hq := HZ.out
    have HO2 := Lib.hid hO2
    have HB3 := Lib.hid ((GX.out _ F2).b)
    clear hS inv G hO2 r0 r1 r2 r3 g0 g1 g2 g3 F2
    go_wp2_with fail
    exact bodyPost_ret (v := .tuple #[.agg (codL m P (len : Int) (.slice A2 r.length cap2)).toArray, .int .i64 0]) (cod_results (p := 6) (u := 7) (fn := Try.f25) rfl _ rfl (HO2.out.put4 _ _ _ _).b rfl) rfl ⟨_, rfl, below_put4 HB3.out (by omega) _ _ _ _, HR.out.put4 hq (by have := hq; omega) _ _ _ _⟩
  · obtain ⟨c, hc⟩ : ∃ c, cRows d p l rows = c := ⟨_, rfl⟩
    have e : fCodeOf d p l rows = (0, 0, 0, [], c) := by rw [fCodeOf, if_neg h0, hc]
    rw [e]
    have hR : ∀ W, RR W (.slice A n cap) rows → _ := fun W a => (l04Rows_any d p l rows W a)
    rw [hc] at hR h0
    have HR := Lib.hid hR
    have hG := G1.start w [.int .i64 d, .int .i64 p] 28
    have hO := LF.start (w.alloc (.cells [.int .i64 d, .int .i64 p].toArray 28)) (codL 0 0 0 (.slice none 0 0)) 36
    rw [World.size_alloc] at hO
    have HG := Lib.hid (hG.next (below_alloc1 _ (.cells (codL 0 0 0 (.slice none 0 0)).toArray 36)))
    have HO0 := Lib.hid hO
    clear hR e hc hG hO
    go_enter Try.func25, Try.ntmps25
    have x0 : _ := HG.out.x.cell 0 _ rfl
    have x1 : _ := HG.out.x.cell 1 _ rfl
    go_wp2_with fail
    refine (HR.out _ (HA.out.next HG.out.b)).mono ?_
    rintro e w1 ⟨rfl, hb⟩
    have HB := Lib.hid (HG.out.next hb).b
    have hO2 := HO0.out.next hb
    clear hb x0 x1
    have r0 := hO2.b.cell 0 _ rfl; have r1 := hO2.b.cell 1 _ rfl; have r2 := hO2.b.cell 2 _ rfl; have r3 := hO2.b.cell 3 _ rfl
    have g0 := hO2.free 0 (by simp); have g1 := hO2.free 1 (by simp); have g2 := hO2.free 2 (by simp); have g3 := hO2.free 3 (by simp)
    have HO2 := Lib.hid hO2
    clear hO2
    go_wp2_with fail
    exact bodyPost_ret (v := .tuple #[.agg (codL 0 0 0 (.slice none 0 0)).toArray, .int .i64 c]) (cod_results (p := 6) (u := 7) (fn := Try.f25) rfl _ rfl (HO2.out.put4 _ _ _ _).b rfl) rfl ⟨_, rfl, below_put4 HB.out (by omega) _ _ _ _, RS.none _ _ _ (Nat.le_refl _) _ _⟩

set_option maxRecDepth 100000 in
set_option maxHeartbeats 6400000 in
theorem implCodeOf_any (d p l : Int) (v : Value) (rows : List (List Int)) (w : World) (hl : -9223372036854775808 ≤ p) (hh : p ≤ 9223372036854775807) (hA : RR w v rows) :
    Calls Try.prog 26 #[.agg #[.int .i64 d, .int .i64 p], .int .i64 l, v] w fun e w' => ∃ v, e = .returned (.tuple #[.agg (codL (fCodeOf d p l rows).1 (fCodeOf d p l rows).2.1 (fCodeOf d p l rows).2.2.1 v).toArray, .int .i64 (fCodeOf d p l rows).2.2.2.2]) ∧ Below w.heap.size w w' ∧ RS w' w.heap.size w'.heap.size v (fCodeOf d p l rows).2.2.2.1 := by
  obtain ⟨A, cap, rfl⟩ := hA.is
  obtain ⟨n, hn⟩ : ∃ n, rows.length = n := ⟨_, rfl⟩
  rw [hn] at hA ⊢
  have HN := Lib.hid hn
  have HA := Lib.hid hA
  clear hA hn
  rcases Classical.em (cRows d p l rows = 0) with h0 | h0
  · obtain ⟨m, P, N, len, rfl, rfl, rfl, hN, hF, hl0, hl5, h10, hok⟩ := cRows_zero h0
    have e : fCodeOf m P len rows = ((m : Int), (P : Int), (len : Int), echL P N len rows, 0) := by
      rw [fCodeOf, if_pos h0, Int.toNat_natCast, Int.toNat_natCast, Int.toNat_natCast, hN]
    rw [e]
    have HR := Lib.hid (fun W a => coderFor_ok hN h0 hh (.slice A n cap) W a)
    have HE := Lib.hid (fun B0 q W a => code_ko hF hl0 hl5 h10 hok (B0 := B0) (q := q) W a)
    have hG := G1.start w [.int .i64 m, .int .i64 P] 28
    have hO := LF.start (w.alloc (.cells [.int .i64 m, .int .i64 P].toArray 28)) (codL 0 0 0 (.slice none 0 0)) 36
    rw [World.size_alloc] at hO
    have HG := Lib.hid (hG.next (below_alloc1 _ (.cells (codL 0 0 0 (.slice none 0 0)).toArray 36)))
    have HO0 := Lib.hid hO
    clear hF hN e h0 hG hO
    obtain ⟨r, hr⟩ : ∃ r, echL P N len rows = r := ⟨_, rfl⟩
    rw [hr] at HE ⊢
    clear hr
    go_enter Try.func26, Try.ntmps26
    have x0 : _ := HG.out.x.cell 0 _ rfl
    have x1 : _ := HG.out.x.cell 1 _ rfl
    go_wp2_with fail
    refine (HR.out _ (HA.out.next HG.out.b)).mono ?_
    rintro e w1 ⟨q, rfl, hb, hK⟩
    have HG1 := Lib.hid (HG.out.next hb)
    have HO1 := Lib.hid (HO0.out.next hb)
    have HK := Lib.hid hK
    clear hb x0 x1 hK
    go_wp2_with fail
    refine (HE.out _ _ _ HK.out).mono ?_
    rintro e w2 ⟨v2, rfl, hb, hS⟩
    obtain ⟨A2, c2, rfl⟩ := hS.is
    obtain ⟨k2, hk2⟩ : ∃ k, r.length = k := ⟨_, rfl⟩
    rw [hk2] at hS ⊢
    have HB := Lib.hid (HG1.out.next hb).b
    have HZ := Lib.hid HO1.out.b.lt
    have hO2 := HO1.out.next hb
    have HS := Lib.hid hS
    clear hb hS hk2
    have r0 := hO2.b.cell 0 _ rfl; have r1 := hO2.b.cell 1 _ rfl; have r2 := hO2.b.cell 2 _ rfl; have r3 := hO2.b.cell 3 _ rfl
    have g0 := hO2.free 0 (by simp); have g1 := hO2.free 1 (by simp); have g2 := hO2.free 2 (by simp); have g3 := hO2.free 3 (by simp)
    have HO2 := Lib.hid hO2
    clear hO2
    go_wp2_with fail
    exact bodyPost_ret (v := .tuple #[.agg (codL m P (len : Int) (.slice A2 k2 c2)).toArray, .int .i64 0]) (cod_results (p := 6) (u := 7) (fn := Try.f26) rfl _ rfl (HO2.out.put4 _ _ _ _).b rfl) rfl ⟨_, rfl, below_put4 HB.out (by omega) _ _ _ _, HS.out.put4 HZ.out (by have := HZ.out; omega) _ _ _ _⟩
  · obtain ⟨c, hc⟩ : ∃ c, cRows d p l rows = c := ⟨_, rfl⟩
    have e : fCodeOf d p l rows = (0, 0, 0, [], c) := by rw [fCodeOf, if_neg h0, hc]
    rw [e]
    have HR := Lib.hid (fun W a => coderFor_no hl hh hc (.slice A n cap) W a)
    rw [hc] at h0
    have hG := G1.start w [.int .i64 d, .int .i64 p] 28
    have hO := LF.start (w.alloc (.cells [.int .i64 d, .int .i64 p].toArray 28)) (codL 0 0 0 (.slice none 0 0)) 36
    rw [World.size_alloc] at hO
    have HG := Lib.hid (hG.next (below_alloc1 _ (.cells (codL 0 0 0 (.slice none 0 0)).toArray 36)))
    have HO0 := Lib.hid hO
    clear e hc hG hO
    go_enter Try.func26, Try.ntmps26
    have x0 : _ := HG.out.x.cell 0 _ rfl
    have x1 : _ := HG.out.x.cell 1 _ rfl
    go_wp2_with fail
    refine (HR.out _ (HA.out.next HG.out.b)).mono ?_
    rintro e w1 ⟨o, rfl, hb⟩
    have HB := Lib.hid (HG.out.next hb).b
    have hO2 := HO0.out.next hb
    clear hb x0 x1
    have r0 := hO2.b.cell 0 _ rfl; have r1 := hO2.b.cell 1 _ rfl; have r2 := hO2.b.cell 2 _ rfl; have r3 := hO2.b.cell 3 _ rfl
    have g0 := hO2.free 0 (by simp); have g1 := hO2.free 1 (by simp); have g2 := hO2.free 2 (by simp); have g3 := hO2.free 3 (by simp)
    have HO2 := Lib.hid hO2
    clear hO2
    go_wp2_with fail
    exact bodyPost_ret (v := .tuple #[.agg (codL 0 0 0 (.slice none 0 0)).toArray, .int .i64 c]) (cod_results (p := 6) (u := 7) (fn := Try.f26) rfl _ rfl (HO2.out.put4 _ _ _ _).b rfl) rfl ⟨_, rfl, below_put4 HB.out (by omega) _ _ _ _, RS.none _ _ _ (Nat.le_refl _) _ _⟩
end Go.Proofs.Ytfpahdbkcdpchaa
