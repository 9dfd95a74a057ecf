/- Contains: the program and the model. -/
import Derived.Test.YtilghmfffdmnjaaDoorDistanceOf
namespace Go.Proofs.YtilghmfffdmnjaaDoor
open Go.RowKit Go.Joins
set_option linter.unusedVariables false

/-- Whether a space has all rows of another one, with the errors first. -/
def fContains (c : Int) (zs : List Int) (d : Int) (ys : List Int) : Bool × Int := if both c zs d ys = 0 then (decide (joined (zs.map Int.toNat) (ys.map Int.toNat) = zs.map Int.toNat), 0) else (false, both c zs d ys)
theorem fContains_yes {C : Nat} {L M : List Nat} (h : both C (ints L) C (ints M) = 0) : fContains C (ints L) C (ints M) = (decide (joined L M = L), 0) := by rw [fContains, if_pos h, toNats_ints, toNats_ints]
theorem fContains_no {c : Int} {zs : List Int} {d : Int} {ys : List Int} {k : Int} (h : both c zs d ys = k) (hk : ¬ k = 0) : fContains c zs d ys = (false, k) := by rw [fContains, h, if_neg hk]

set_option maxRecDepth 100000 in
set_option maxHeartbeats 1600000 in
theorem implContains_anyR (c : Int) (A : Option Addr) (n cap : Nat) (xs : List Int) (d : Int) (A' : Option Addr) (n' cap' : Nat) (ys : List Int) (w : World) (hM : Rd w w.heap.size A n xs) (hN : Rd w w.heap.size A' n' ys) (hT : Tab w) :
    Calls Tryd.prog 49 #[.agg #[.int .i64 c, .slice A n cap], .agg #[.int .i64 d, .slice A' n' cap']] w fun e w' => e = .returned (.tuple #[.bool (fContains c xs d ys).1, .int .i64 (fContains c xs d ys).2]) ∧ Below w.heap.size w w' := by
  obtain ⟨hb0, hX, hY⟩ := two_boxes w (.int .i64 c) (.slice A n cap) (.int .i64 d) (.slice A' n' cap')
  have hM0 := hM.below hb0
  have hN0 := hN.below hb0
  have hT0 := hT.below hb0
  by_cases hk0 : both c xs d ys = 0
  · rcases both_cases c xs d ys with ⟨h, C, L, M, rfl, rfl, rfl, rfl, hO, hP, hJ, hK⟩ | ⟨h, _⟩ | ⟨h, _⟩
    · rw [fContains_yes h]
      have D := fun w hT => joined_any C C L M hO.c10 (ech_of hJ) hO.lt hP.lt hP.n10 w hT
      have hjl : (joined L M).length ≤ 10 := Nat.le_trans ((joined_spec M (ech_of hJ)).1.len (joined_lt (ech_of hJ) hO.lt hP.lt)) hO.c10
      have hn10 := hO.n10
      have hm10 := hP.n10
      generalize joined L M = J at D hjl ⊢
      have heq : ∀ w, (binOp .eql 105 (.agg (gridC J C)) (.agg #[.int .i64 (L.length : Nat), .int .u32 (nth L 0 : Nat), .int .u32 (nth L 1 : Nat), .int .u32 (nth L 2 : Nat), .int .u32 (nth L 3 : Nat), .int .u32 (nth L 4 : Nat), .int .u32 (nth L 5 : Nat), .int .u32 (nth L 6 : Nat), .int .u32 (nth L 7 : Nat), .int .u32 (nth L 8 : Nat), .int .u32 (nth L 9 : Nat), .int .i64 C])).run Tryd.prog w = .ok (.bool (decide (J = L))) w := by
        intro w
        have := eql_grid J L C C hjl w
        rw [show decide (J = L ∧ (C : Int) = C) = decide (J = L) by simp] at this
        exact this
      have hgd := Tryd.guardG
      generalize decide (J = L) = r at heq ⊢
      have DD := Lib.hid D
      have HT := Lib.hid hT
      have HS := Lib.hid (spacesFor_yesR C L hO hJ M hP hK A n cap A' n' cap' _ hM0 hN0 hT0)
      clear hT hT0 hX hY hM0 hN0 D hk0 h hJ hK
      go_enter Tryd.func49, Tryd.ntmps49
      go_wp2_with fail
      refine HS.out.mono ?_
      rintro e w1 ⟨rfl, hb⟩
      have hb1 := hb0.trans (hb.mono hb0.size)
      obtain ⟨w2, w3, hst, hst2, hG, hH, hb'⟩ := grids_put w1 L C hn10 (lt32 (by have := hO.c10; omega) hO.lt) M C hm10 (lt32 (by have := hO.c10; omega) hP.lt) _ rfl
      have hb3 := hb1.trans (hb'.mono hb1.size)
      have HD := Lib.hid (DD.out w3.drew (HT.out.below hb3.drew))
      have HG := Lib.hid (show GAt w3.drew w1.heap.size L C from hG.drewN 1)
      have HH := Lib.hid (show GAt w3.drew (w1.heap.size + 1) M C from hH.drewN 1)
      have HB := Lib.hid hb3.drew
      obtain ⟨g0, g1, g2, g3, g4, g5, g6, g7, g8, g9, g10, g11⟩ := hG.facts
      obtain ⟨m0, m1, m2, m3, m4, m5, m6, m7, m8, m9, m10, m11⟩ := hH.facts
      clear hb hb0 hb1 hb' hG hH hb3
      go_wp2_with fail
      obtain ⟨k0, k1, k2, k3, k4, k5, k6, k7, k8, k9, k10, k11⟩ := HG.out.facts
      obtain ⟨l0, l1, l2, l3, l4, l5, l6, l7, l8, l9, l10, l11⟩ := HH.out.facts
      go_region_held3 (fun w' => w'.cell? ⟨w1.heap.size, 0, none⟩ = some (.int .i64 (L.length : Nat)) ∧ w'.cell? ⟨w1.heap.size, 1, none⟩ = some (.int .u32 (nth L 0 : Nat)) ∧ w'.cell? ⟨w1.heap.size, 2, none⟩ = some (.int .u32 (nth L 1 : Nat)) ∧ w'.cell? ⟨w1.heap.size, 3, none⟩ = some (.int .u32 (nth L 2 : Nat)) ∧ w'.cell? ⟨w1.heap.size, 4, none⟩ = some (.int .u32 (nth L 3 : Nat)) ∧ w'.cell? ⟨w1.heap.size, 5, none⟩ = some (.int .u32 (nth L 4 : Nat)) ∧ w'.cell? ⟨w1.heap.size, 6, none⟩ = some (.int .u32 (nth L 5 : Nat)) ∧ w'.cell? ⟨w1.heap.size, 7, none⟩ = some (.int .u32 (nth L 6 : Nat)) ∧ w'.cell? ⟨w1.heap.size, 8, none⟩ = some (.int .u32 (nth L 7 : Nat)) ∧ w'.cell? ⟨w1.heap.size, 9, none⟩ = some (.int .u32 (nth L 8 : Nat)) ∧ w'.cell? ⟨w1.heap.size, 10, none⟩ = some (.int .u32 (nth L 9 : Nat)) ∧ w'.cell? ⟨w1.heap.size, 11, none⟩ = some (.int .i64 C) ∧ w'.cell? ⟨w1.heap.size + 1, 0, none⟩ = some (.int .i64 (M.length : Nat)) ∧ w'.cell? ⟨w1.heap.size + 1, 1, none⟩ = some (.int .u32 (nth M 0 : Nat)) ∧ w'.cell? ⟨w1.heap.size + 1, 2, none⟩ = some (.int .u32 (nth M 1 : Nat)) ∧ w'.cell? ⟨w1.heap.size + 1, 3, none⟩ = some (.int .u32 (nth M 2 : Nat)) ∧ w'.cell? ⟨w1.heap.size + 1, 4, none⟩ = some (.int .u32 (nth M 3 : Nat)) ∧ w'.cell? ⟨w1.heap.size + 1, 5, none⟩ = some (.int .u32 (nth M 4 : Nat)) ∧ w'.cell? ⟨w1.heap.size + 1, 6, none⟩ = some (.int .u32 (nth M 5 : Nat)) ∧ w'.cell? ⟨w1.heap.size + 1, 7, none⟩ = some (.int .u32 (nth M 6 : Nat)) ∧ w'.cell? ⟨w1.heap.size + 1, 8, none⟩ = some (.int .u32 (nth M 7 : Nat)) ∧ w'.cell? ⟨w1.heap.size + 1, 9, none⟩ = some (.int .u32 (nth M 8 : Nat)) ∧ w'.cell? ⟨w1.heap.size + 1, 10, none⟩ = some (.int .u32 (nth M 9 : Nat)) ∧ w'.cell? ⟨w1.heap.size + 1, 11, none⟩ = some (.int .i64 C)) (first | with_reducible exact ⟨k0, k1, k2, k3, k4, k5, k6, k7, k8, k9, k10, k11, l0, l1, l2, l3, l4, l5, l6, l7, l8, l9, l10, l11⟩ | with_reducible exact ⟨by assumption, by assumption, by assumption, by assumption, by assumption, by assumption, by assumption, by assumption, by assumption, by assumption, by assumption, by assumption, by assumption, by assumption, by assumption, by assumption, by assumption, by assumption, by assumption, by assumption, by assumption, by assumption, by assumption, by assumption⟩) (first | (go_at_call 94; refine HD.out.mono ?_; rintro e w4 ⟨rfl, hb4⟩; have hG4 := HG.out.below hb4; have hH4 := HH.out.below hb4; have HB4 := Lib.hid (HB.out.trans (hb4.mono HB.out.size)); obtain ⟨t0, t1, t2, t3, t4, t5, t6, t7, t8, t9, t10, t11⟩ := hG4.facts; obtain ⟨r0, r1, r2, r3, r4, r5, r6, r7, r8, r9, r10, r11⟩ := hH4.facts; clear hb4 hG4 hH4))
      all_goals
        clear g0 g1 g2 g3 g4 g5 g6 g7 g8 g9 g10 g11 m0 m1 m2 m3 m4 m5 m6 m7 m8 m9 m10 m11 k0 k1 k2 k3 k4 k5 k6 k7 k8 k9 k10 k11 l0 l1 l2 l3 l4 l5 l6 l7 l8 l9 l10 l11
        go_wp2_with fail
        go_ret2
        exact ⟨rfl, HB4.out⟩
    · rw [h] at hk0; omega
    · rw [h] at hk0; omega
  · obtain ⟨k, hk⟩ : ∃ k, both c xs d ys = k := ⟨_, rfl⟩
    rw [hk] at hk0
    rw [fContains_no hk hk0]
    have HS := Lib.hid (spacesFor_badR c xs d ys k hk hk0 A n cap A' n' cap' _ hM0 hN0 hT0)
    clear hT hT0 hX hY hM0 hN0 hk
    go_enter Tryd.func49, Tryd.ntmps49
    go_wp2_with fail
    refine HS.out.mono ?_
    rintro e w1 ⟨rfl, hb⟩
    have hb1 := hb0.trans (hb.mono hb0.size)
    obtain ⟨w2, w3, hst, hst2, hG, hH, hb'⟩ := grids_put w1 [] 0 (by simp) (by intro j; simp [nth]) [] 0 (by simp) (by intro j; simp [nth]) _ rfl
    have hb3 := hb1.trans (hb'.mono hb1.size)
    clear hb hb0 hb1 hb' hG hH
    go_wp2_with fail
    go_ret2
    exact ⟨rfl, hb3⟩
theorem implContains_any (c : Int) (b n cap : Nat) (xs : List Int) (d : Int) (b' n' cap' : Nat) (ys : List Int) (w : World) (hM : Mt w b n xs) (hN : Mt w b' n' ys) (hT : Tab w) :
    Calls Tryd.prog 49 #[.agg #[.int .i64 c, .slice (some ⟨b, 0, none⟩) n cap], .agg #[.int .i64 d, .slice (some ⟨b', 0, none⟩) n' cap']] w fun e w' => e = .returned (.tuple #[.bool (fContains c xs d ys).1, .int .i64 (fContains c xs d ys).2]) ∧ Below w.heap.size w w' :=
  implContains_anyR c (some ⟨b, 0, none⟩) n cap xs d (some ⟨b', 0, none⟩) n' cap' ys w hM.rd hN.rd hT

end Go.Proofs.YtilghmfffdmnjaaDoor
