/- MissedBy: the program's. -/
import Derived.Test.YtibennpdffgomaaDoorMissedBy
namespace Go.Proofs.YtibennpdffgomaaDoor
open Go.RowKit Go.Joins Go.ChangeShapes Go.WideShapes Go.Deep
set_option linter.unusedVariables false
set_option linter.unusedSimpArgs false

set_option maxRecDepth 100000 in
set_option maxHeartbeats 12800000 in
theorem implMissedBy_any (p l r c : Int) (v : Value) (xs : List Int) (v1 : Value) (ys : List Int) (v2 : Value) (zs : List Int) (w : World) (hT : Tab w) {B T B1 T1 B2 T2 : Nat} (hM : Res w B T v xs) (hM1 : Res w B1 T1 v1 ys) (hM2 : Res w B2 T2 v2 zs) :
    Calls Tryd.prog 30 #[.agg (gatL p l v r c).toArray, v1, v2] w fun e w' => e = .returned (.tuple #[.int .i64 (fMissedBy p l r c xs ys zs).1, .int .i64 (fMissedBy p l r c xs ys zs).2]) ∧ Below w.heap.size w w' := by
  obtain ⟨A, n, cap, rfl⟩ := hM.form
  obtain ⟨A1, n1, cap1, rfl⟩ := hM1.form
  obtain ⟨A2, n2, cap2, rfl⟩ := hM2.form
  have hlen1 : ys.length = n1 := hM1.len
  have hlen2 : zs.length = n2 := hM2.len
  have hG := G1.start w (gatL p l (.slice A n cap) r c) 60
  have S := worksFor_any p l r c (.slice A n cap) xs _ (hM.next hG.b)
  cases hf : fValidGather p l r c xs with
  | false =>
    have e : fMissedBy p l r c xs ys zs = (0, 1) := by rw [fMissedBy, if_neg (by rw [hf]; simp)]
    rw [e]
    rw [hf] at S
    have HS := Lib.hid S
    have HG := Lib.hid hG
    clear S hM e hf hM1 hM2
    have x0 := hG.x.cell 0 _ rfl; have x1 := hG.x.cell 1 _ rfl; have x2 := hG.x.cell 2 _ rfl; have x3 := hG.x.cell 3 _ rfl; have x4 := hG.x.cell 4 _ rfl
    clear hG
    go_enter Tryd.func30, Tryd.ntmps30
    go_wp2_with fail
    refine HS.out.mono ?_
    rintro e w1 ⟨o, rfl, hb, -⟩
    have HB := Lib.hid (HG.out.next hb).b
    clear hb x0 x1 x2 x3 x4 HG HS
    simp only [if_neg (show ¬ (false = true) by decide)]
    go_wp2_with fail
    go_ret2
    exact ⟨rfl, HB.out⟩
  | true =>
    have hf' := hf
    rw [fValidGather] at hf'
    simp only [Bool.and_eq_true, decide_eq_true_eq] at hf'
    obtain ⟨⟨h1, h2, h3, h4, h5, h6, h7, h8⟩, h9, h10⟩ := hf'
    obtain ⟨Y, rfl⟩ : ∃ Y : Nat, l = Y := ⟨l.toNat, by omega⟩
    obtain ⟨P, rfl⟩ : ∃ P : Nat, p = P := ⟨p.toNat, by omega⟩
    have hP : P ≤ 4 := by omega
    have hY : Y ≤ 6 := by omega
    have hP1 : 1 ≤ P := by omega
    clear h1 h2 h3 h4 h5 h6 h7 h8 h9 h10
    have e : fMissedBy P Y r c xs ys zs = if okMiss P Y ys zs = true then ((((joined [] ((nats ys).map (missX P (nats zs)))).length : Nat) : Int), 0) else (0, 2) := by rw [fMissedBy, if_pos hf]; rfl
    rw [e]
    rw [hf] at S
    obtain ⟨bb1, hbb1⟩ : ∃ b, (decide (n1 ≤ 10) && allIn (2 ^ (P + Y)) ys) = b := ⟨_, rfl⟩
    obtain ⟨bb2, hbb2⟩ : ∃ b, (decide (n2 ≤ P) && allIn (2 ^ Y) zs) = b := ⟨_, rfl⟩
    have eo : okMiss P Y ys zs = (bb1 && (bb2 && decide (n2 = P))) := by
      rw [okMiss, Int.toNat_natCast, Int.toNat_natCast, hlen1, hlen2, hbb1, ← hbb2]
      congr 1
      by_cases g : n2 = P
      · rw [decide_eq_true (show (n2 : Int) = (P : Int) by omega), decide_eq_true g, decide_eq_true (show n2 ≤ P by omega)]; simp
      · rw [decide_eq_false (show ¬ (n2 : Int) = (P : Int) by omega), decide_eq_false g]; simp
    rw [eo]
    obtain ⟨⟨rx, ry⟩, hr⟩ : ∃ r : Int × Int, (if (bb1 && (bb2 && decide (n2 = P))) = true then ((((joined [] ((nats ys).map (missX P (nats zs)))).length : Nat) : Int), 0) else (0, 2)) = r := ⟨_, rfl⟩
    rw [hr]
    have HRR := Lib.hid hr
    have HS := Lib.hid S
    have HG := Lib.hid hG
    have HM1 := Lib.hid hM1
    have HM2 := Lib.hid hM2
    have HB1 := Lib.hid hbb1
    have HB2 := Lib.hid hbb2
    have HT := Lib.hid hT
    clear S hM e hf hM1 hM2 hbb1 hbb2 eo hT hr
    have x0 := hG.x.cell 0 _ rfl; have x1 := hG.x.cell 1 _ rfl; have x2 := hG.x.cell 2 _ rfl; have x3 := hG.x.cell 3 _ rfl; have x4 := hG.x.cell 4 _ rfl
    clear hG
    go_enter Tryd.func30, Tryd.ntmps30
    go_wp2_with fail
    refine HS.out.mono ?_
    rintro e w1 ⟨o, rfl, hb, hK⟩
    obtain ⟨q, b, N, Y', rfl, hYY, hPP, hW⟩ := hK trivial
    obtain rfl : Y = Y' := by omega
    have HB := Lib.hid (HG.out.next hb).b
    have hPx : (nats xs).length = P := by omega
    rw [hPx] at hW
    generalize srcL (nats xs).length (nats xs) = SR at hW
    have HW := Lib.hid hW
    clear hb x0 x1 x2 x3 x4 HG HS hK hYY hPP hPx hW
    simp only [if_true]
    go_wp2_with fail
    go_cut [10, 11] (fun p c wx => ∃ (g : Nat) (L : List Nat), p = .pointer (some ⟨g, 0, none⟩) ∧ c = .bool bb1 ∧ RAt wx g L ∧ (bb1 = true → L = nats ys) ∧ Below w1.heap.size w1 wx)
    case first =>
      obtain ⟨Φ, hΦ⟩ : ∃ Φ : World → Prop, Φ = fun W => Below w1.heap.size w1 W := ⟨_, rfl⟩
      have F0 : Φ w1.drew := by rw [hΦ]; exact (Below.refl _ w1).drew
      have SP : Hid (∀ W W', Φ W → Below W.heap.size W W' → Φ W') := Lib.hid fun W W' h hb => by
        rw [hΦ] at h ⊢
        exact h.trans (hb.mono h.size)
      have CP : Hid (∀ W, Φ W → W.cell? ⟨q, 0, none⟩ = some (.int .i64 P)) := Lib.hid fun W h => by rw [hΦ] at h; exact (HW.out.next h).c0
      have CY : Hid (∀ W, Φ W → W.cell? ⟨q, 1, none⟩ = some (.int .i64 Y)) := Lib.hid fun W h => by rw [hΦ] at h; exact (HW.out.next h).c1
      have CB : Hid (∀ W, Φ W → Below w1.heap.size w1 W) := Lib.hid fun W h => by rw [hΦ] at h; exact h
      have CI : Hid (∀ W, Below w1.heap.size w1 W → Φ W) := Lib.hid fun W h => by rw [hΦ]; exact h
      have CF : Hid (∀ W, Φ W → Calls Tryd.prog 64 #[.int .i64 ((P : Int) + (Y : Int)), .int .i64 10, .slice A1 n1 cap1] W fun e w' => ∃ L, e = .returned (.tuple #[.agg (rowsC L), .bool bb1]) ∧ Below W.heap.size W w' ∧ (bb1 = true → L = nats ys) ∧ L.length ≤ 10 ∧ ∀ j, nth L j < 4294967296) := Lib.hid fun W h => by
        rw [hΦ] at h
        have S := rowsFor_any (P + Y) 10 (by omega) (by omega) A1 n1 cap1 ys W (HM1.out.next (HB.out.trans (h.mono HB.out.size)))
        rw [HB1.out, Int.natCast_add] at S
        refine S.mono ?_
        rintro e w' ⟨L, rfl, h1, h2, h3, h4⟩
        refine ⟨L, rfl, h1, fun hb => ?_, h3, h4⟩
        have := HB1.out
        rw [hb, Bool.and_eq_true, decide_eq_true_eq] at this
        exact h2 this.1 this.2
      simp only [rowsC] at CF
      clear hΦ
      refine wp_region_S (n := 16) (S := Φ) (by kernel_rfl) (by kernel_rfl) F0 (fun G inv hS => ?_)
      clear F0
      refine wpAnyS_take (i := 0) (v := ?_) G inv hS (by decide) rfl (by kernel_rfl) (by kernel_rfl) (fun _ _ _ h => h) (Or.inl ⟨by kernel_rfl, fun W hW => ?_⟩) (fun inv => ?_)
      rotate_left
      · have z0 := CP.out _ hW
        have z1 := CY.out _ hW
        go_simp
        try with_reducible rfl
      try simp only [Act.put, List.setIfInBounds_toArray, List.set_cons_zero, List.set_cons_succ]
      refine wpAnyS_take (i := 1) (v := ?_) G inv hS (by decide) rfl (by kernel_rfl) (by kernel_rfl) (fun _ _ _ h => h) (Or.inl ⟨by kernel_rfl, fun W hW => ?_⟩) (fun inv => ?_)
      rotate_left
      · have z0 := CP.out _ hW
        have z1 := CY.out _ hW
        go_simp
        try with_reducible rfl
      try simp only [Act.put, List.setIfInBounds_toArray, List.set_cons_zero, List.set_cons_succ]
      refine wpAnyS_take (i := 2) (v := ?_) G inv hS (by decide) rfl (by kernel_rfl) (by kernel_rfl) (fun _ _ _ h => h) (Or.inl ⟨by kernel_rfl, fun W hW => ?_⟩) (fun inv => ?_)
      rotate_left
      · have z0 := CP.out _ hW
        have z1 := CY.out _ hW
        go_simp
        try with_reducible rfl
      try simp only [Act.put, List.setIfInBounds_toArray, List.set_cons_zero, List.set_cons_succ]
      refine wpAnyS_take (i := 3) (v := ?_) G inv hS (by decide) rfl (by kernel_rfl) (by kernel_rfl) (fun _ _ _ h => h) (Or.inl ⟨by kernel_rfl, fun W hW => ?_⟩) (fun inv => ?_)
      rotate_left
      · have z0 := CP.out _ hW
        have z1 := CY.out _ hW
        go_simp
        try with_reducible rfl
      try simp only [Act.put, List.setIfInBounds_toArray, List.set_cons_zero, List.set_cons_succ]
      refine wpAnyS_take (i := 4) (v := ?_) G inv hS (by decide) rfl (by kernel_rfl) (by kernel_rfl) (fun _ _ _ h => h) (Or.inl ⟨by kernel_rfl, fun W hW => ?_⟩) (fun inv => ?_)
      rotate_left
      · have z0 := CP.out _ hW
        have z1 := CY.out _ hW
        go_simp
        try with_reducible rfl
      try simp only [Act.put, List.setIfInBounds_toArray, List.set_cons_zero, List.set_cons_succ]
      refine wpAnyS_take (i := 5) (v := ?_) G inv hS (by decide) rfl (by kernel_rfl) (by kernel_rfl) (fun _ _ _ h => h) (Or.inl ⟨by kernel_rfl, fun W hW => ?_⟩) (fun inv => ?_)
      rotate_left
      · have z0 := CP.out _ hW
        have z1 := CY.out _ hW
        go_simp
        try with_reducible rfl
      try simp only [Act.put, List.setIfInBounds_toArray, List.set_cons_zero, List.set_cons_succ]
      refine wpAnyS_take (i := 6) (v := ?_) G inv hS (by decide) rfl (by kernel_rfl) (by kernel_rfl) (fun _ _ _ h => h) (Or.inl ⟨by kernel_rfl, fun W hW => ?_⟩) (fun inv => ?_)
      rotate_left
      · have z0 := CP.out _ hW
        have z1 := CY.out _ hW
        go_simp
        try with_reducible rfl
      try simp only [Act.put, List.setIfInBounds_toArray, List.set_cons_zero, List.set_cons_succ]
      refine wpAnyS_take (i := 7) (v := ?_) G inv hS (by decide) rfl (by kernel_rfl) (by kernel_rfl) (fun _ _ _ h => h) (Or.inl ⟨by kernel_rfl, fun W hW => ?_⟩) (fun inv => ?_)
      rotate_left
      · have z0 := CP.out _ hW
        have z1 := CY.out _ hW
        go_simp
        try with_reducible rfl
      try simp only [Act.put, List.setIfInBounds_toArray, List.set_cons_zero, List.set_cons_succ]
      refine wpAnyS_take (i := 8) (v := ?_) G inv hS (by decide) rfl (by kernel_rfl) (by kernel_rfl) (fun _ _ _ h => h) (Or.inl ⟨by kernel_rfl, fun W hW => ?_⟩) (fun inv => ?_)
      rotate_left
      · have z0 := CP.out _ hW
        have z1 := CY.out _ hW
        go_simp
        try with_reducible rfl
      try simp only [Act.put, List.setIfInBounds_toArray, List.set_cons_zero, List.set_cons_succ]
      refine wpAnyS_take (i := 9) (v := ?_) G inv hS (by decide) rfl (by kernel_rfl) (by kernel_rfl) (fun _ _ _ h => h) (Or.inl ⟨by kernel_rfl, fun W hW => ?_⟩) (fun inv => ?_)
      rotate_left
      · have z0 := CP.out _ hW
        have z1 := CY.out _ hW
        go_simp
        try with_reducible rfl
      try simp only [Act.put, List.setIfInBounds_toArray, List.set_cons_zero, List.set_cons_succ]
      refine wpAnyS_two (i := 10) (j := 14) (by kernel_rfl) rfl rfl ?_ ?_
      ·
        go_wp2_with (go_at_call 64; with_reducible refine Calls.mono (CF.out _ hS) ?_; rintro e x3 ⟨L, rfl, hb3, hL, hl, hr⟩)
        have F2 : Φ x3 := SP.out _ _ hS hb3
        change (10 ≠ 16 → Φ x3) ∧ _
        refine ⟨fun _ => F2, ?_⟩
        have inv := HeadInv.setD (i := 10) inv (by kernel_rfl) (by decide)
        refine wpAnyS_take (i := 11) (v := ?_) G inv F2 (by decide) rfl (by kernel_rfl) (by kernel_rfl) (fun _ _ _ h => h) (Or.inl ⟨by kernel_rfl, fun W hW => ?_⟩) (fun inv => ?_)
        rotate_left
        · have z0 := CP.out _ hW
          have z1 := CY.out _ hW
          go_simp
          try with_reducible rfl
        try simp only [Act.put, List.setIfInBounds_toArray, List.set_cons_zero, List.set_cons_succ]
        refine wpAnyS_take (i := 12) (v := ?_) G inv F2 (by decide) rfl (by kernel_rfl) (by kernel_rfl) (fun _ _ _ h => h) (Or.inl ⟨by kernel_rfl, fun W hW => ?_⟩) (fun inv => ?_)
        rotate_left
        · have z0 := CP.out _ hW
          have z1 := CY.out _ hW
          go_simp
          try with_reducible rfl
        try simp only [Act.put, List.setIfInBounds_toArray, List.set_cons_zero, List.set_cons_succ]
        refine wpAnyS_take (i := 13) (v := ?_) G inv F2 (by decide) rfl (by kernel_rfl) (by kernel_rfl) (fun _ _ _ h => h) (Or.inl ⟨by kernel_rfl, fun W hW => ?_⟩) (fun inv => ?_)
        rotate_left
        · have z0 := CP.out _ hW
          have z1 := CY.out _ hW
          go_simp
          try with_reducible rfl
        try simp only [Act.put, List.setIfInBounds_toArray, List.set_cons_zero, List.set_cons_succ]
        refine wpAnyS_step (i := 14) (by kernel_rfl) rfl ?_
        go_wp2
        change (14 ≠ 16 → Φ _) ∧ _
        refine ⟨fun _ => SP.out _ _ F2 (below_alloc1 _ _), ?_⟩
        have inv := HeadInv.setD (i := 14) inv (by kernel_rfl) (by decide)
        have R0 : RRoom (x3.alloc (.cells #[.int .i64 0, .int .u32 0, .int .u32 0, .int .u32 0, .int .u32 0, .int .u32 0, .int .u32 0, .int .u32 0, .int .u32 0, .int .u32 0, .int .u32 0] 101)) x3.heap.size := (RAt.start x3 101).room
        obtain ⟨⟨u0, u1, u2, u3, u4, u5, u6, u7, u8, u9, u10, d0, d1, d2, d3, d4, d5, d6, d7, d8, d9, d10⟩, f0, f1, f2, f3, f4, f5, f6, f7, f8, f9, f10⟩ := R0.facts
        refine wpAnyS_step (i := 15) (by kernel_rfl) rfl ?_
        go_wp2
        refine ⟨fun _ => SP.out _ _ F2 (below_alloc1 _ _), ?_⟩
        have inv := HeadInv.setD (i := 15) inv (by kernel_rfl) (by decide)
        refine wpAnyS_step (i := 16) (by kernel_rfl) rfl ?_
        go_wp2
        refine ⟨fun h => absurd rfl h, ?_⟩
        refine wpAnyS_done (by kernel_rfl) ?_ _
        have FIN := Lib.hid (And.intro (RAt.boxed x3 L hl hr 101) (And.intro hL ((CB.out _ F2).trans ((below_alloc1 x3 (.cells (rowsC L) 101)).mono (CB.out _ F2).size))))
        clear inv G F2 hS
        go_wp2_with fail
        go_meet
        exact ⟨_, _, rfl, rfl, FIN.out.1, FIN.out.2.1, FIN.out.2.2⟩
      ·
        go_wp2
        have F1 : Φ (World.drew (w1.alloc (.cells #[.int .i64 0, .int .u32 0, .int .u32 0, .int .u32 0, .int .u32 0, .int .u32 0, .int .u32 0, .int .u32 0, .int .u32 0, .int .u32 0, .int .u32 0] 101))) := CI.out _ (below_alloc1 w1 (.cells #[.int .i64 0, .int .u32 0, .int .u32 0, .int .u32 0, .int .u32 0, .int .u32 0, .int .u32 0, .int .u32 0, .int .u32 0, .int .u32 0, .int .u32 0] 101)).drew
        change (14 ≠ 16 → Φ _) ∧ _
        refine ⟨fun _ => F1, ?_⟩
        have inv := HeadInv.setD (i := 14) inv (by kernel_rfl) (by decide)
        refine wpAnyS_step (i := 10) (by kernel_rfl) rfl ?_
        go_wp2_with (go_at_call 64; with_reducible refine Calls.mono (CF.out _ F1) ?_; rintro e x3 ⟨L, rfl, hb3, hL, hl, hr⟩)
        have F2 : Φ x3 := SP.out _ _ F1 hb3
        change (10 ≠ 16 → Φ x3) ∧ _
        refine ⟨fun _ => F2, ?_⟩
        have inv := HeadInv.setD (i := 10) inv (by kernel_rfl) (by decide)
        refine wpAnyS_take (i := 11) (v := ?_) G inv F2 (by decide) rfl (by kernel_rfl) (by kernel_rfl) (fun _ _ _ h => h) (Or.inl ⟨by kernel_rfl, fun W hW => ?_⟩) (fun inv => ?_)
        rotate_left
        · have z0 := CP.out _ hW
          have z1 := CY.out _ hW
          go_simp
          try with_reducible rfl
        try simp only [Act.put, List.setIfInBounds_toArray, List.set_cons_zero, List.set_cons_succ]
        refine wpAnyS_take (i := 12) (v := ?_) G inv F2 (by decide) rfl (by kernel_rfl) (by kernel_rfl) (fun _ _ _ h => h) (Or.inl ⟨by kernel_rfl, fun W hW => ?_⟩) (fun inv => ?_)
        rotate_left
        · have z0 := CP.out _ hW
          have z1 := CY.out _ hW
          go_simp
          try with_reducible rfl
        try simp only [Act.put, List.setIfInBounds_toArray, List.set_cons_zero, List.set_cons_succ]
        refine wpAnyS_take (i := 13) (v := ?_) G inv F2 (by decide) rfl (by kernel_rfl) (by kernel_rfl) (fun _ _ _ h => h) (Or.inl ⟨by kernel_rfl, fun W hW => ?_⟩) (fun inv => ?_)
        rotate_left
        · have z0 := CP.out _ hW
          have z1 := CY.out _ hW
          go_simp
          try with_reducible rfl
        try simp only [Act.put, List.setIfInBounds_toArray, List.set_cons_zero, List.set_cons_succ]
        have R0 : RRoom x3 w1.heap.size := (show RRoom (World.drew (w1.alloc (.cells #[.int .i64 0, .int .u32 0, .int .u32 0, .int .u32 0, .int .u32 0, .int .u32 0, .int .u32 0, .int .u32 0, .int .u32 0, .int .u32 0, .int .u32 0] 101))) w1.heap.size from (RAt.start w1 101).room.drewN 1).below hb3
        obtain ⟨⟨u0, u1, u2, u3, u4, u5, u6, u7, u8, u9, u10, d0, d1, d2, d3, d4, d5, d6, d7, d8, d9, d10⟩, f0, f1, f2, f3, f4, f5, f6, f7, f8, f9, f10⟩ := R0.facts
        have ST := Lib.hid (RAt.store11 R0 L hl hr)
        have BF := Lib.hid (CB.out _ F2)
        refine wpAnyS_step (i := 15) (by kernel_rfl) rfl ?_
        go_wp2
        refine ⟨fun _ => CI.out _ ((only11 x3 w1.heap.size _ _ _ _ _ _ _ _ _ _ _).below BF.out (Nat.le_refl _)), ?_⟩
        have inv := HeadInv.setD (i := 15) inv (by kernel_rfl) (by decide)
        refine wpAnyS_step (i := 16) (by kernel_rfl) rfl ?_
        go_wp2
        refine ⟨fun h => absurd rfl h, ?_⟩
        refine wpAnyS_done (by kernel_rfl) ?_ _
        clear inv G F1 F2 hS
        go_wp2_with fail
        go_meet
        exact ⟨_, _, rfl, rfl, ST.out, hL, (only11 x3 w1.heap.size _ _ _ _ _ _ _ _ _ _ _).below BF.out (Nat.le_refl _)⟩
    case rest =>
      obtain ⟨w3, rfl⟩ : ∃ x, x = wc := ⟨wc, rfl⟩
      obtain ⟨g1, L1, rfl, rfl, hg1, hL1, hb3⟩ := hcut
      have HB3 := Lib.hid (HB.out.trans (hb3.mono HB.out.size))
      have HW3 := Lib.hid (HW.out.next hb3)
      have HG1 := Lib.hid hg1
      have HL1 := Lib.hid hL1
      clear hb3 hg1 hL1 HB HW
      go_wp2_with fail
      go_cut [12, 13] (fun p c wx => ∃ (g : Nat) (L : List Nat), p = .pointer (some ⟨g, 0, none⟩) ∧ c = .bool bb2 ∧ RAt wx g L ∧ (bb2 = true → L = nats zs) ∧ Below w3.heap.size w3 wx)
      case first =>
        obtain ⟨Φ, hΦ⟩ : ∃ Φ : World → Prop, Φ = fun W => Below w3.heap.size w3 W := ⟨_, rfl⟩
        have F0 : Φ w3.drew := by rw [hΦ]; exact (Below.refl _ w3).drew
        have SP : Hid (∀ W W', Φ W → Below W.heap.size W W' → Φ W') := Lib.hid fun W W' h hb => by
          rw [hΦ] at h ⊢
          exact h.trans (hb.mono h.size)
        have CP : Hid (∀ W, Φ W → W.cell? ⟨q, 0, none⟩ = some (.int .i64 P)) := Lib.hid fun W h => by rw [hΦ] at h; exact (HW3.out.next h).c0
        have CY : Hid (∀ W, Φ W → W.cell? ⟨q, 1, none⟩ = some (.int .i64 Y)) := Lib.hid fun W h => by rw [hΦ] at h; exact (HW3.out.next h).c1
        have CB : Hid (∀ W, Φ W → Below w3.heap.size w3 W) := Lib.hid fun W h => by rw [hΦ] at h; exact h
        have CI : Hid (∀ W, Below w3.heap.size w3 W → Φ W) := Lib.hid fun W h => by rw [hΦ]; exact h
        have CF : Hid (∀ W, Φ W → Calls Tryd.prog 64 #[.int .i64 Y, .int .i64 P, .slice A2 n2 cap2] W fun e w' => ∃ L, e = .returned (.tuple #[.agg (rowsC L), .bool bb2]) ∧ Below W.heap.size W w' ∧ (bb2 = true → L = nats zs) ∧ L.length ≤ 10 ∧ ∀ j, nth L j < 4294967296) := Lib.hid fun W h => by
          rw [hΦ] at h
          have S := rowsFor_any Y P (by omega) (by omega) A2 n2 cap2 zs W (HM2.out.next (HB3.out.trans (h.mono HB3.out.size)))
          rw [HB2.out] at S
          refine S.mono ?_
          rintro e w' ⟨L, rfl, h1, h2, h3, h4⟩
          refine ⟨L, rfl, h1, fun hb => ?_, h3, h4⟩
          have := HB2.out
          rw [hb, Bool.and_eq_true, decide_eq_true_eq] at this
          exact h2 this.1 this.2
        simp only [rowsC] at CF
        clear hΦ
        refine wp_region_S (n := 15) (S := Φ) (by kernel_rfl) (by kernel_rfl) F0 (fun G inv hS => ?_)
        clear F0
        refine wpAnyS_take (i := 0) (v := ?_) G inv hS (by decide) rfl (by kernel_rfl) (by kernel_rfl) (fun _ _ _ h => h) (Or.inl ⟨by kernel_rfl, fun W hW => ?_⟩) (fun inv => ?_)
        rotate_left
        · have z0 := CP.out _ hW
          have z1 := CY.out _ hW
          go_simp
          try with_reducible rfl
        try simp only [Act.put, List.setIfInBounds_toArray, List.set_cons_zero, List.set_cons_succ]
        refine wpAnyS_take (i := 1) (v := ?_) G inv hS (by decide) rfl (by kernel_rfl) (by kernel_rfl) (fun _ _ _ h => h) (Or.inl ⟨by kernel_rfl, fun W hW => ?_⟩) (fun inv => ?_)
        rotate_left
        · have z0 := CP.out _ hW
          have z1 := CY.out _ hW
          go_simp
          try with_reducible rfl
        try simp only [Act.put, List.setIfInBounds_toArray, List.set_cons_zero, List.set_cons_succ]
        refine wpAnyS_take (i := 2) (v := ?_) G inv hS (by decide) rfl (by kernel_rfl) (by kernel_rfl) (fun _ _ _ h => h) (Or.inl ⟨by kernel_rfl, fun W hW => ?_⟩) (fun inv => ?_)
        rotate_left
        · have z0 := CP.out _ hW
          have z1 := CY.out _ hW
          go_simp
          try with_reducible rfl
        try simp only [Act.put, List.setIfInBounds_toArray, List.set_cons_zero, List.set_cons_succ]
        refine wpAnyS_take (i := 3) (v := ?_) G inv hS (by decide) rfl (by kernel_rfl) (by kernel_rfl) (fun _ _ _ h => h) (Or.inl ⟨by kernel_rfl, fun W hW => ?_⟩) (fun inv => ?_)
        rotate_left
        · have z0 := CP.out _ hW
          have z1 := CY.out _ hW
          go_simp
          try with_reducible rfl
        try simp only [Act.put, List.setIfInBounds_toArray, List.set_cons_zero, List.set_cons_succ]
        refine wpAnyS_take (i := 4) (v := ?_) G inv hS (by decide) rfl (by kernel_rfl) (by kernel_rfl) (fun _ _ _ h => h) (Or.inl ⟨by kernel_rfl, fun W hW => ?_⟩) (fun inv => ?_)
        rotate_left
        · have z0 := CP.out _ hW
          have z1 := CY.out _ hW
          go_simp
          try with_reducible rfl
        try simp only [Act.put, List.setIfInBounds_toArray, List.set_cons_zero, List.set_cons_succ]
        refine wpAnyS_take (i := 5) (v := ?_) G inv hS (by decide) rfl (by kernel_rfl) (by kernel_rfl) (fun _ _ _ h => h) (Or.inl ⟨by kernel_rfl, fun W hW => ?_⟩) (fun inv => ?_)
        rotate_left
        · have z0 := CP.out _ hW
          have z1 := CY.out _ hW
          go_simp
          try with_reducible rfl
        try simp only [Act.put, List.setIfInBounds_toArray, List.set_cons_zero, List.set_cons_succ]
        refine wpAnyS_take (i := 6) (v := ?_) G inv hS (by decide) rfl (by kernel_rfl) (by kernel_rfl) (fun _ _ _ h => h) (Or.inl ⟨by kernel_rfl, fun W hW => ?_⟩) (fun inv => ?_)
        rotate_left
        · have z0 := CP.out _ hW
          have z1 := CY.out _ hW
          go_simp
          try with_reducible rfl
        try simp only [Act.put, List.setIfInBounds_toArray, List.set_cons_zero, List.set_cons_succ]
        refine wpAnyS_take (i := 7) (v := ?_) G inv hS (by decide) rfl (by kernel_rfl) (by kernel_rfl) (fun _ _ _ h => h) (Or.inl ⟨by kernel_rfl, fun W hW => ?_⟩) (fun inv => ?_)
        rotate_left
        · have z0 := CP.out _ hW
          have z1 := CY.out _ hW
          go_simp
          try with_reducible rfl
        try simp only [Act.put, List.setIfInBounds_toArray, List.set_cons_zero, List.set_cons_succ]
        refine wpAnyS_take (i := 8) (v := ?_) G inv hS (by decide) rfl (by kernel_rfl) (by kernel_rfl) (fun _ _ _ h => h) (Or.inl ⟨by kernel_rfl, fun W hW => ?_⟩) (fun inv => ?_)
        rotate_left
        · have z0 := CP.out _ hW
          have z1 := CY.out _ hW
          go_simp
          try with_reducible rfl
        try simp only [Act.put, List.setIfInBounds_toArray, List.set_cons_zero, List.set_cons_succ]
        refine wpAnyS_two (i := 9) (j := 13) (by kernel_rfl) rfl rfl ?_ ?_
        ·
          go_wp2_with (go_at_call 64; with_reducible refine Calls.mono (CF.out _ hS) ?_; rintro e x3 ⟨L, rfl, hb3, hL, hl, hr⟩)
          have F2 : Φ x3 := SP.out _ _ hS hb3
          change (9 ≠ 15 → Φ x3) ∧ _
          refine ⟨fun _ => F2, ?_⟩
          have inv := HeadInv.setD (i := 9) inv (by kernel_rfl) (by decide)
          refine wpAnyS_take (i := 10) (v := ?_) G inv F2 (by decide) rfl (by kernel_rfl) (by kernel_rfl) (fun _ _ _ h => h) (Or.inl ⟨by kernel_rfl, fun W hW => ?_⟩) (fun inv => ?_)
          rotate_left
          · have z0 := CP.out _ hW
            have z1 := CY.out _ hW
            go_simp
            try with_reducible rfl
          try simp only [Act.put, List.setIfInBounds_toArray, List.set_cons_zero, List.set_cons_succ]
          refine wpAnyS_take (i := 11) (v := ?_) G inv F2 (by decide) rfl (by kernel_rfl) (by kernel_rfl) (fun _ _ _ h => h) (Or.inl ⟨by kernel_rfl, fun W hW => ?_⟩) (fun inv => ?_)
          rotate_left
          · have z0 := CP.out _ hW
            have z1 := CY.out _ hW
            go_simp
            try with_reducible rfl
          try simp only [Act.put, List.setIfInBounds_toArray, List.set_cons_zero, List.set_cons_succ]
          refine wpAnyS_take (i := 12) (v := ?_) G inv F2 (by decide) rfl (by kernel_rfl) (by kernel_rfl) (fun _ _ _ h => h) (Or.inl ⟨by kernel_rfl, fun W hW => ?_⟩) (fun inv => ?_)
          rotate_left
          · have z0 := CP.out _ hW
            have z1 := CY.out _ hW
            go_simp
            try with_reducible rfl
          try simp only [Act.put, List.setIfInBounds_toArray, List.set_cons_zero, List.set_cons_succ]
          refine wpAnyS_step (i := 13) (by kernel_rfl) rfl ?_
          go_wp2
          change (13 ≠ 15 → Φ _) ∧ _
          refine ⟨fun _ => SP.out _ _ F2 (below_alloc1 _ _), ?_⟩
          have inv := HeadInv.setD (i := 13) inv (by kernel_rfl) (by decide)
          have R0 : RRoom (x3.alloc (.cells #[.int .i64 0, .int .u32 0, .int .u32 0, .int .u32 0, .int .u32 0, .int .u32 0, .int .u32 0, .int .u32 0, .int .u32 0, .int .u32 0, .int .u32 0] 101)) x3.heap.size := (RAt.start x3 101).room
          obtain ⟨⟨u0, u1, u2, u3, u4, u5, u6, u7, u8, u9, u10, d0, d1, d2, d3, d4, d5, d6, d7, d8, d9, d10⟩, f0, f1, f2, f3, f4, f5, f6, f7, f8, f9, f10⟩ := R0.facts
          refine wpAnyS_step (i := 14) (by kernel_rfl) rfl ?_
          go_wp2
          refine ⟨fun _ => SP.out _ _ F2 (below_alloc1 _ _), ?_⟩
          have inv := HeadInv.setD (i := 14) inv (by kernel_rfl) (by decide)
          refine wpAnyS_step (i := 15) (by kernel_rfl) rfl ?_
          go_wp2
          refine ⟨fun h => absurd rfl h, ?_⟩
          refine wpAnyS_done (by kernel_rfl) ?_ _
          have FIN := Lib.hid (And.intro (RAt.boxed x3 L hl hr 101) (And.intro hL ((CB.out _ F2).trans ((below_alloc1 x3 (.cells (rowsC L) 101)).mono (CB.out _ F2).size))))
          clear inv G F2 hS
          go_wp2_with fail
          go_meet
          exact ⟨_, _, rfl, rfl, FIN.out.1, FIN.out.2.1, FIN.out.2.2⟩
        ·
          go_wp2
          have F1 : Φ (World.drew (w3.alloc (.cells #[.int .i64 0, .int .u32 0, .int .u32 0, .int .u32 0, .int .u32 0, .int .u32 0, .int .u32 0, .int .u32 0, .int .u32 0, .int .u32 0, .int .u32 0] 101))) := CI.out _ (below_alloc1 w3 (.cells #[.int .i64 0, .int .u32 0, .int .u32 0, .int .u32 0, .int .u32 0, .int .u32 0, .int .u32 0, .int .u32 0, .int .u32 0, .int .u32 0, .int .u32 0] 101)).drew
          change (13 ≠ 15 → Φ _) ∧ _
          refine ⟨fun _ => F1, ?_⟩
          have inv := HeadInv.setD (i := 13) inv (by kernel_rfl) (by decide)
          refine wpAnyS_step (i := 9) (by kernel_rfl) rfl ?_
          go_wp2_with (go_at_call 64; with_reducible refine Calls.mono (CF.out _ F1) ?_; rintro e x3 ⟨L, rfl, hb3, hL, hl, hr⟩)
          have F2 : Φ x3 := SP.out _ _ F1 hb3
          change (9 ≠ 15 → Φ x3) ∧ _
          refine ⟨fun _ => F2, ?_⟩
          have inv := HeadInv.setD (i := 9) inv (by kernel_rfl) (by decide)
          refine wpAnyS_take (i := 10) (v := ?_) G inv F2 (by decide) rfl (by kernel_rfl) (by kernel_rfl) (fun _ _ _ h => h) (Or.inl ⟨by kernel_rfl, fun W hW => ?_⟩) (fun inv => ?_)
          rotate_left
          · have z0 := CP.out _ hW
            have z1 := CY.out _ hW
            go_simp
            try with_reducible rfl
          try simp only [Act.put, List.setIfInBounds_toArray, List.set_cons_zero, List.set_cons_succ]
          refine wpAnyS_take (i := 11) (v := ?_) G inv F2 (by decide) rfl (by kernel_rfl) (by kernel_rfl) (fun _ _ _ h => h) (Or.inl ⟨by kernel_rfl, fun W hW => ?_⟩) (fun inv => ?_)
          rotate_left
          · have z0 := CP.out _ hW
            have z1 := CY.out _ hW
            go_simp
            try with_reducible rfl
          try simp only [Act.put, List.setIfInBounds_toArray, List.set_cons_zero, List.set_cons_succ]
          refine wpAnyS_take (i := 12) (v := ?_) G inv F2 (by decide) rfl (by kernel_rfl) (by kernel_rfl) (fun _ _ _ h => h) (Or.inl ⟨by kernel_rfl, fun W hW => ?_⟩) (fun inv => ?_)
          rotate_left
          · have z0 := CP.out _ hW
            have z1 := CY.out _ hW
            go_simp
            try with_reducible rfl
          try simp only [Act.put, List.setIfInBounds_toArray, List.set_cons_zero, List.set_cons_succ]
          have R0 : RRoom x3 w3.heap.size := (show RRoom (World.drew (w3.alloc (.cells #[.int .i64 0, .int .u32 0, .int .u32 0, .int .u32 0, .int .u32 0, .int .u32 0, .int .u32 0, .int .u32 0, .int .u32 0, .int .u32 0, .int .u32 0] 101))) w3.heap.size from (RAt.start w3 101).room.drewN 1).below hb3
          obtain ⟨⟨u0, u1, u2, u3, u4, u5, u6, u7, u8, u9, u10, d0, d1, d2, d3, d4, d5, d6, d7, d8, d9, d10⟩, f0, f1, f2, f3, f4, f5, f6, f7, f8, f9, f10⟩ := R0.facts
          have ST := Lib.hid (RAt.store11 R0 L hl hr)
          have BF := Lib.hid (CB.out _ F2)
          refine wpAnyS_step (i := 14) (by kernel_rfl) rfl ?_
          go_wp2
          refine ⟨fun _ => CI.out _ ((only11 x3 w3.heap.size _ _ _ _ _ _ _ _ _ _ _).below BF.out (Nat.le_refl _)), ?_⟩
          have inv := HeadInv.setD (i := 14) inv (by kernel_rfl) (by decide)
          refine wpAnyS_step (i := 15) (by kernel_rfl) rfl ?_
          go_wp2
          refine ⟨fun h => absurd rfl h, ?_⟩
          refine wpAnyS_done (by kernel_rfl) ?_ _
          clear inv G F1 F2 hS
          go_wp2_with fail
          go_meet
          exact ⟨_, _, rfl, rfl, ST.out, hL, (only11 x3 w3.heap.size _ _ _ _ _ _ _ _ _ _ _).below BF.out (Nat.le_refl _)⟩
      case rest =>
        obtain ⟨w5, rfl⟩ : ∃ x, x = wc := ⟨wc, rfl⟩
        obtain ⟨g2, L2, rfl, rfl, hg2, hL2, hb5⟩ := hcut
        have HB5 := Lib.hid (HB3.out.trans (hb5.mono HB3.out.size))
        have HW5 := Lib.hid (HW3.out.next hb5)
        have HG15 := Lib.hid (HG1.out.below hb5)
        have HG2 := Lib.hid hg2
        have HT5 := Lib.hid (HT.out.below HB5.out)
        have c0 := HW5.out.c0
        have d0 := hg2.c0
        clear hb5 hg2 HB3 HW3 HG1
        cases bb1 with
        | false =>
          have hrr : (0 : Int) = rx ∧ (2 : Int) = ry := by have := HRR.out; simpa using this
          have HZ := Lib.hid hrr
          clear hrr
          go_wp2
          go_quiet (fail)
          go_wp2
          go_ret2
          exact ⟨by rw [← HZ.out.1, ← HZ.out.2]; rfl, HB5.out.trans (below_draws _ _ _)⟩
        | true =>
          have e1 := HL1.out rfl
          subst e1
          cases bb2 with
          | false =>
            have hrr : (0 : Int) = rx ∧ (2 : Int) = ry := by have := HRR.out; simpa using this
            have HZ := Lib.hid hrr
            clear hrr
            go_wp2
            go_quiet (fail)
            go_wp2
            go_ret2
            exact ⟨by rw [← HZ.out.1, ← HZ.out.2]; rfl, HB5.out.trans (below_draws _ _ _)⟩
          | true =>
            have e2 := hL2 rfl
            subst e2
            rw [nats_length, hlen2] at d0
            by_cases g3 : n2 = P
            rotate_left
            · have hrr : (0 : Int) = rx ∧ (2 : Int) = ry := by have := HRR.out; simpa [g3] using this
              have HZ := Lib.hid hrr
              clear hrr
              have g3b : ((n2 : Int) != (P : Int)) = true := by simp; omega
              go_wp2
              go_quiet (fail)
              go_wp2
              go_ret2
              exact ⟨by rw [← HZ.out.1, ← HZ.out.2]; rfl, HB5.out.trans (below_draws _ _ _)⟩
            · have hrr : (((joined [] ((nats ys).map (missX P (nats zs)))).length : Nat) : Int) = rx ∧ (0 : Int) = ry := by have := HRR.out; simpa [g3] using this
              have g3b : ((n2 : Int) != (P : Int)) = false := by simp; omega
              have h1 := HB1.out
              have h2 := HB2.out
              rw [Bool.and_eq_true, decide_eq_true_eq] at h1 h2
              have hD : ∀ s ∈ nats zs, s < 2 ^ Y := fun s hs => by
                obtain ⟨j, hj, he⟩ := List.mem_iff_getElem.1 hs
                have := nats_lt h2.2 (Nat.two_pow_pos Y) j
                rw [nth, List.getD_eq_getElem?_getD, List.getElem?_eq_getElem hj] at this
                rw [← he]; exact this
              have hL : ∀ s ∈ nats ys, s < 2 ^ (P + Y) := fun s hs => by
                obtain ⟨j, hj, he⟩ := List.mem_iff_getElem.1 hs
                have := nats_lt h1.2 (Nat.two_pow_pos (P + Y)) j
                rw [nth, List.getD_eq_getElem?_getD, List.getElem?_eq_getElem hj] at this
                rw [← he]; exact this
              have HMI : Hid (∀ j, Calls Tryd.prog 65 #[.pointer (some ⟨q, 0, none⟩), .agg (rowsC (nats ys)), .agg (rowsC (nats zs))] (w5.drewN j) fun e w' => e = .returned (.int .i64 ((joined [] ((nats ys).map (missX P (nats zs)))).length : Nat)) ∧ Below (w5.drewN j).heap.size (w5.drewN j) w') := Lib.hid fun j =>
                missed_any _ q b P Y N _ (nats ys) (nats zs) hP hY (by rw [nats_length, hlen2]; exact g3) hD hL (by rw [nats_length, hlen1]; exact h1.1) (w5.drewN j) (HW5.out.next (below_draws _ _ _)) (HT5.out.below (below_draws _ _ _))
              simp only [rowsC, nats_length, hlen1, hlen2] at HMI
              obtain ⟨a0, a1, a2, a3, a4, a5, a6, a7, a8, a9, a10⟩ := HG15.out.facts
              simp only [nats_length, hlen1] at a0
              obtain ⟨z0, z1, z2, z3, z4, z5, z6, z7, z8, z9, z10⟩ := HG2.out.facts
              simp only [nats_length, hlen2] at z0
              generalize (joined [] ((nats ys).map (missX P (nats zs)))).length = R at HMI hrr
              have HZ := Lib.hid hrr
              clear hrr HRR
              clear h1 h2 hD hL HW5 HT5 HG15 HG2 HM1 HM2 HB1 HB2 HT hlen1 hlen2 g3 HL1 hL2
              generalize nats ys = LY at HMI a1 a2 a3 a4 a5 a6 a7 a8 a9 a10
              generalize nats zs = LZ at HMI z1 z2 z3 z4 z5 z6 z7 z8 z9 z10
              go_wp2
              go_quiet (fail)
              go_wp2_with fail
              with_reducible refine Calls.mono (HMI.out _) ?_
              rintro e w6 ⟨rfl, hb6⟩
              have HB6 := Lib.hid ((HB5.out.trans (below_draws _ _ _)).trans (hb6.mono (HB5.out.trans (below_draws _ _ _)).size))
              clear hb6
              go_wp2_with fail
              go_ret2
              exact ⟨by rw [← HZ.out.1, ← HZ.out.2]; rfl, HB6.out⟩
end Go.Proofs.YtibennpdffgomaaDoor
