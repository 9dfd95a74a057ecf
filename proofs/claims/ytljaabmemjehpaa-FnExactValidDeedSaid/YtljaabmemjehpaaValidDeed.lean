/- ValidDeed: the program's and the model's. -/
import Derived.Test.YtljaabmemjehpaaForm
namespace Go.Proofs.Ytljaabmemjehpaa
open Go.RowKit Go.Joins Go.ChangeShapes Go.WideShapes Go.Deep
set_option linter.unusedVariables false
set_option linter.unusedSimpArgs false

def okJ (k a b c : Int) (j : Nat) : Prop := (1 ≤ j → okN k a 0 = true) ∧ (2 ≤ j → okN k b 1 = true) ∧ (3 ≤ j → okN k c 2 = true)
theorem okN_true {k n : Int} {j : Nat} (h1 : 0 ≤ n ∧ n ≤ 9999) (h2 : (j : Int) < told k ∨ n = 0) : okN k n j = true := decide_eq_true ⟨h1.1, h1.2, h2⟩
theorem okN_false {k n : Int} {j : Nat} (h : ¬ ((0 ≤ n ∧ n ≤ 9999) ∧ ((j : Int) < told k ∨ n = 0))) : okN k n j = false := decide_eq_false fun g => h ⟨⟨g.1, g.2.1⟩, g.2.2⟩
theorem told_le (k : Int) : 1 ≤ told k ∧ told k ≤ 3 := by
  unfold told
  repeat' split
  all_goals omega

set_option maxRecDepth 100000 in
set_option maxHeartbeats 12800000 in
theorem implValidDeed_any (k a b c : Int) (w : World) :
    Calls Try.prog 44 #[.agg #[.int .i64 k, .int .i64 a, .int .i64 b, .int .i64 c]] w fun e w' => e = .returned (.bool (fValidDeed k a b c)) ∧ Below w.heap.size w w' := by
  have hb0 := below_alloc1 w (.cells #[.int .i64 k, .int .i64 a, .int .i64 b, .int .i64 c] 63)
  by_cases hk : 1 ≤ k ∧ k ≤ 8
  · obtain ⟨k, rfl⟩ : ∃ n : Nat, k = n := ⟨k.toNat, by omega⟩
    have hf : fValidDeed k a b c = (okN k a 0 && (okN k b 1 && okN k c 2)) := by rw [fValidDeed, decide_eq_true hk, Bool.true_and]
    have HF := Lib.hid (fun W => formOf_yes k (by omega) (by omega) W)
    have ht := told_le k
    have hX := LB.one w (deedL k a b c) 63
    have HX := Lib.hid hX
    have HB0 := Lib.hid hb0
    have x0 := hX.cell 0 _ rfl
    clear hb0 hX
    rw [hf]
    clear hf hk
    have HK := Lib.hid (fun (n : Int) (j : Nat) => And.intro (@okN_true k n j) (@okN_false k n j))
    have HD := Lib.hid (fun (W : World) => deedNumbers_any k a b c W)
    generalize told (k : Int) = t at HF ht HK
    go_enter Try.func44, Try.ntmps44
    go_wp2_with fail
    refine (HF.out _).mono ?_
    rintro e w1 ⟨s, rfl, hb⟩
    have hba := below_alloc1 w1 (.cells #[.string s, .int .i64 t] 131)
    have hX1 := (HX.out.next hb).next hba
    have hB1 := HB0.out.trans (hb.mono HB0.out.size)
    have hz1 : w.heap.size < w1.heap.size := (HX.out.next hb).lt
    have HB1 := Lib.hid (hB1.trans (hba.mono hB1.size))
    have x1 := hX1.cell 0 _ rfl; have x2 := hX1.cell 1 _ rfl; have x3 := hX1.cell 2 _ rfl; have x4 := hX1.cell 3 _ rfl
    clear hb hX1 hB1 x0 hba HX
    go_wp2_with fail
    refine (HD.out _).mono ?_
    rintro e w2 ⟨rfl, hb⟩
    have HB2 := Lib.hid (HB1.out.trans (hb.mono HB1.out.size))
    have hc : w2.cell? ⟨w1.heap.size, 1, none⟩ = some (.int .i64 t) := (hb.cell (p := ⟨w1.heap.size, 1, none⟩) (by simp)).trans (by rw [World.cell?_alloc_at _ _ _ _ rfl]; rfl)
    have HC := Lib.hid hc
    clear hb hc x1 x2 x3 x4
    have i0 : ∀ w, (Instr.index 134 (.agg #[.int .i64 a, .int .i64 b, .int .i64 c]) (.int .i64 0)).run Try.prog w = .ok (.int .i64 a) w := fun _ => by kernel_rfl
    have i1 : ∀ w, (Instr.index 134 (.agg #[.int .i64 a, .int .i64 b, .int .i64 c]) (.int .i64 1)).run Try.prog w = .ok (.int .i64 b) w := fun _ => by kernel_rfl
    have i2 : ∀ w, (Instr.index 134 (.agg #[.int .i64 a, .int .i64 b, .int .i64 c]) (.int .i64 2)).run Try.prog w = .ok (.int .i64 c) w := fun _ => by kernel_rfl
    go_wp2_with fail
    go_loopw [17] (fun i wr => ∃ j : Nat, j ≤ 3 ∧ i = .int .i64 j ∧ Hid (okJ k a b c j) ∧ wr.cell? ⟨w1.heap.size, 1, none⟩ = some (.int .i64 t) ∧ Below w.heap.size w wr) (fun i _ => 3 - (intOf i).toNat)
    case atStart => exact ⟨0, by omega, rfl, Lib.hid ⟨fun h => by omega, fun h => by omega, fun h => by omega⟩, HC.out, HB2.out⟩
    case round =>
      obtain ⟨j, hj, rfl, HO, hct, hB⟩ := hrel
      have HB := Lib.hid hB
      clear hB HC HB1 HB2 HB0
      obtain rfl | rfl | rfl | rfl : j = 0 ∨ j = 1 ∨ j = 2 ∨ j = 3 := by omega
      · by_cases g1 : 0 ≤ a ∧ a ≤ 9999
        · have G1 := Lib.hid (decide_eq_true g1)
          by_cases g2 : (0 : Int) < t
          · have KT : okN k a 0 = true := (HK.out a 0).1 g1 (.inl (by omega))
            have g3 : ¬ ((0 : Int) ≥ t) := by omega
            clear g1
            go_wp2_with (go_at_call 95; refine (isDeedNumber_any _ _).mono ?_; rw [G1.out]; rintro e w' ⟨rfl, rfl⟩)
            go_roundw
            case rel => exact ⟨1, by omega, by go_num, Lib.hid ⟨fun _ => KT, fun h => by omega, fun h => by omega⟩, hct, HB.out⟩
            case measure => simp [intOf]
          · exact absurd ht.1 (by omega)
        · have KF : okN k a 0 = false := (HK.out a 0).2 (fun h => g1 h.1)
          have G1 := Lib.hid (decide_eq_false g1)
          clear g1
          go_wp2_with (go_at_call 95; refine (isDeedNumber_any _ _).mono ?_; rw [G1.out]; rintro e w' ⟨rfl, rfl⟩)
          go_ret
          exact ⟨by rw [KF]; simp, HB.out⟩
      · by_cases g1 : 0 ≤ b ∧ b ≤ 9999
        · have G1 := Lib.hid (decide_eq_true g1)
          by_cases g2 : (1 : Int) < t
          · have KT : okN k b 1 = true := (HK.out b 1).1 g1 (.inl (by omega))
            have g3 : ¬ ((1 : Int) ≥ t) := by omega
            clear g1
            go_wp2_with (go_at_call 95; refine (isDeedNumber_any _ _).mono ?_; rw [G1.out]; rintro e w' ⟨rfl, rfl⟩)
            go_roundw
            case rel => exact ⟨2, by omega, by go_num, Lib.hid ⟨fun _ => HO.out.1 (by omega), fun _ => KT, fun h => by omega⟩, hct, HB.out⟩
            case measure => simp [intOf]
          · have g3 : (1 : Int) ≥ t := by omega
            by_cases g4 : b = 0
            · have KT : okN k b 1 = true := (HK.out b 1).1 g1 (.inr g4)
              clear g1
              subst g4
              go_wp2_with (go_at_call 95; refine (isDeedNumber_any _ _).mono ?_; rw [G1.out]; rintro e w' ⟨rfl, rfl⟩)
              go_roundw
              case rel => exact ⟨2, by omega, by go_num, Lib.hid ⟨fun _ => HO.out.1 (by omega), fun _ => KT, fun h => by omega⟩, hct, HB.out⟩
              case measure => simp [intOf]
            · have KF : okN k b 1 = false := (HK.out b 1).2 (fun h => by omega)
              clear g1
              go_wp2_with (go_at_call 95; refine (isDeedNumber_any _ _).mono ?_; rw [G1.out]; rintro e w' ⟨rfl, rfl⟩)
              go_ret
              exact ⟨by rw [KF]; simp, HB.out⟩
        · have KF : okN k b 1 = false := (HK.out b 1).2 (fun h => g1 h.1)
          have G1 := Lib.hid (decide_eq_false g1)
          clear g1
          go_wp2_with (go_at_call 95; refine (isDeedNumber_any _ _).mono ?_; rw [G1.out]; rintro e w' ⟨rfl, rfl⟩)
          go_ret
          exact ⟨by rw [KF]; simp, HB.out⟩
      · by_cases g1 : 0 ≤ c ∧ c ≤ 9999
        · have G1 := Lib.hid (decide_eq_true g1)
          by_cases g2 : (2 : Int) < t
          · have KT : okN k c 2 = true := (HK.out c 2).1 g1 (.inl (by omega))
            have g3 : ¬ ((2 : Int) ≥ t) := by omega
            clear g1
            go_wp2_with (go_at_call 95; refine (isDeedNumber_any _ _).mono ?_; rw [G1.out]; rintro e w' ⟨rfl, rfl⟩)
            go_roundw
            case rel => exact ⟨3, by omega, by go_num, Lib.hid ⟨fun _ => HO.out.1 (by omega), fun _ => HO.out.2.1 (by omega), fun _ => KT⟩, hct, HB.out⟩
            case measure => simp [intOf]
          · have g3 : (2 : Int) ≥ t := by omega
            by_cases g4 : c = 0
            · have KT : okN k c 2 = true := (HK.out c 2).1 g1 (.inr g4)
              clear g1
              subst g4
              go_wp2_with (go_at_call 95; refine (isDeedNumber_any _ _).mono ?_; rw [G1.out]; rintro e w' ⟨rfl, rfl⟩)
              go_roundw
              case rel => exact ⟨3, by omega, by go_num, Lib.hid ⟨fun _ => HO.out.1 (by omega), fun _ => HO.out.2.1 (by omega), fun _ => KT⟩, hct, HB.out⟩
              case measure => simp [intOf]
            · have KF : okN k c 2 = false := (HK.out c 2).2 (fun h => by omega)
              clear g1
              go_wp2_with (go_at_call 95; refine (isDeedNumber_any _ _).mono ?_; rw [G1.out]; rintro e w' ⟨rfl, rfl⟩)
              go_ret
              exact ⟨by rw [KF]; simp, HB.out⟩
        · have KF : okN k c 2 = false := (HK.out c 2).2 (fun h => g1 h.1)
          have G1 := Lib.hid (decide_eq_false g1)
          clear g1
          go_wp2_with (go_at_call 95; refine (isDeedNumber_any _ _).mono ?_; rw [G1.out]; rintro e w' ⟨rfl, rfl⟩)
          go_ret
          exact ⟨by rw [KF]; simp, HB.out⟩
      · have K0 := HO.out.1 (by omega)
        have K1 := HO.out.2.1 (by omega)
        have K2 := HO.out.2.2 (by omega)
        go_wp2_with fail
        go_ret
        exact ⟨by rw [K0, K1, K2]; rfl, HB.out⟩
  · have hf : fValidDeed k a b c = false := by rw [fValidDeed, decide_eq_false hk, Bool.false_and]
    have HF := Lib.hid (fun W => formOf_no k hk W)
    have hx0 := (LB.one w (deedL k a b c) 63).cell 0 _ rfl
    rw [hf]
    clear hf hk
    go_enter Try.func44, Try.ntmps44
    go_wp2_with fail
    refine (HF.out _).mono ?_
    rintro e w1 ⟨s, n, rfl, hb⟩
    have HB := Lib.hid (hb0.trans (hb.mono hb0.size))
    clear hb
    go_wp2_with fail
    go_ret
    exact ⟨rfl, HB.out.trans ((below_alloc1 _ _).mono HB.out.size)⟩

set_option maxRecDepth 100000 in
set_option maxHeartbeats 1600000 in
theorem l08Words_any (w : World) :
    Calls Try.prog 137 #[] w fun e w' => ∃ g : Nat, e = .returned (.tuple #[.slice (some ⟨w.heap.size, 0, none⟩) 9 9, .slice (some ⟨g, 0, none⟩) 9 9]) ∧ Below w.heap.size w w' ∧ w.heap.size ≤ g ∧ ∀ k : Nat, 1 ≤ k → k ≤ 8 → w'.cell? ⟨g, k, none⟩ = some (.int .i64 (told k)) := by
  have hb : ∀ O O' : Obj, Below w.heap.size w ((w.alloc O).alloc O') := fun O O' => below_alloc2 w O O'
  go_enter Try.func137, Try.ntmps137
  go_wp2
  go_ret2
  refine ⟨_, rfl, hb _ _, by simp, fun k h1 h2 => ?_⟩
  rw [World.cell?_alloc_at _ _ _ _ (by simp)]
  obtain rfl | rfl | rfl | rfl | rfl | rfl | rfl | rfl : k = 1 ∨ k = 2 ∨ k = 3 ∨ k = 4 ∨ k = 5 ∨ k = 6 ∨ k = 7 ∨ k = 8 := by omega
  all_goals rfl
set_option maxRecDepth 100000 in
set_option maxHeartbeats 12800000 in
theorem l08Deed_any (k a b c : Int) (w : World) :
    Calls Try.prog 92 #[.agg #[.int .i64 k, .int .i64 a, .int .i64 b, .int .i64 c]] w fun e w' => e = .returned (.bool (fValidDeed k a b c)) ∧ Below w.heap.size w w' := by
  have hb0 := below_alloc1 w (.cells #[.int .i64 k, .int .i64 a, .int .i64 b, .int .i64 c] 63)
  by_cases hr : (1 ≤ k ∧ k ≤ 8) ∧ (0 ≤ a ∧ a ≤ 9999) ∧ (0 ≤ b ∧ b ≤ 9999) ∧ (0 ≤ c ∧ c ≤ 9999)
  · obtain ⟨hk, ha, hb, hc⟩ := hr
    obtain ⟨k, rfl⟩ : ∃ n : Nat, k = n := ⟨k.toNat, by omega⟩
    have ht := told_le k
    have hf : fValidDeed k a b c = (okN k b 1 && okN k c 2) := by rw [fValidDeed, decide_eq_true hk, okN_true ha (.inl (by omega)), Bool.true_and, Bool.true_and]
    have HKB := Lib.hid (And.intro (fun h => @okN_true k b 1 hb h) (@okN_false k b 1))
    have HKC := Lib.hid (And.intro (fun h => @okN_true k c 2 hc h) (@okN_false k c 2))
    have HX := Lib.hid (LB.one w (deedL k a b c) 63)
    have HB0 := Lib.hid hb0
    have HW := Lib.hid (fun W => l08Words_any W)
    have hk1 : 1 ≤ k := by omega
    have hk8 : k ≤ 8 := by omega
    rw [hf]
    clear hf hb0
    go_enter Try.func92, Try.ntmps92
    go_wp2_with (go_at_call 110; refine (l00In_yes _ _ _ (by omega) (by omega) _).mono ?_; rintro e w' ⟨rfl, rfl⟩)
    refine (HW.out _).mono ?_
    rintro e w1 ⟨g, rfl, hb1, hg, hcell⟩
    have hX1 := HX.out.next hb1
    have hct := hcell k hk1 hk8
    have HB1 := Lib.hid (HB0.out.trans (hb1.mono HB0.out.size))
    have x0 := hX1.cell 0 _ rfl; have x2 := hX1.cell 2 _ rfl; have x3 := hX1.cell 3 _ rfl
    clear hb1 hX1 hcell HX HB0 hg
    generalize told (k : Int) = t at hct ht HKB HKC
    by_cases t1 : t > 1
    · by_cases t2 : t > 2
      · have e1 := HKB.out.1 (by omega)
        have e2 := HKC.out.1 (by omega)
        clear HKB HKC
        have E := Lib.hid (And.intro e1 e2)
        clear e1 e2
        go_wp2_with fail
        go_ret
        exact ⟨by rw [E.out.1, E.out.2]; exact ret_bool (by first | rfl | (simp; done) | (simp; omega)), HB1.out⟩
      · by_cases c0 : c = 0
        · have e1 := HKB.out.1 (by omega)
          have e2 := HKC.out.1 (by omega)
          clear HKB HKC
          have E := Lib.hid (And.intro e1 e2)
          clear e1 e2
          subst c0
          go_wp2_with fail
          go_ret
          exact ⟨by rw [E.out.1, E.out.2]; exact ret_bool (by first | rfl | (simp; done) | (simp; omega)), HB1.out⟩
        · have e1 := HKB.out.1 (by omega)
          have e2 := HKC.out.2 (fun h => by omega)
          clear HKB HKC
          have E := Lib.hid (And.intro e1 e2)
          clear e1 e2
          go_wp2_with fail
          go_ret
          exact ⟨by rw [E.out.1, E.out.2]; exact ret_bool (by first | rfl | (simp; done) | (simp; omega)), HB1.out⟩
    · have t2 : ¬ (t > 2) := by omega
      by_cases b0 : b = 0
      · by_cases c0 : c = 0
        · have e1 := HKB.out.1 (by omega)
          have e2 := HKC.out.1 (by omega)
          clear HKB HKC
          have E := Lib.hid (And.intro e1 e2)
          clear e1 e2
          subst b0 c0
          go_wp2_with fail
          go_ret
          exact ⟨by rw [E.out.1, E.out.2]; exact ret_bool (by first | rfl | (simp; done) | (simp; omega)), HB1.out⟩
        · have e1 := HKB.out.1 (by omega)
          have e2 := HKC.out.2 (fun h => by omega)
          clear HKB HKC
          have E := Lib.hid (And.intro e1 e2)
          clear e1 e2
          subst b0
          go_wp2_with fail
          go_ret
          exact ⟨by rw [E.out.1, E.out.2]; exact ret_bool (by first | rfl | (simp; done) | (simp; omega)), HB1.out⟩
      · have e1 := HKB.out.2 (fun h => by omega)
        clear HKB HKC
        have E := Lib.hid e1
        clear e1
        go_wp2_with fail
        go_ret
        exact ⟨by rw [E.out]; exact ret_bool (by first | rfl | (simp; done) | (simp; omega)), HB1.out⟩
  · have hf : fValidDeed k a b c = false := by
      rw [fValidDeed]
      by_cases hk : 1 ≤ k ∧ k ≤ 8
      · rw [decide_eq_true hk, Bool.true_and]
        by_cases ha : 0 ≤ a ∧ a ≤ 9999
        · by_cases hb : 0 ≤ b ∧ b ≤ 9999
          · have hc : ¬ (0 ≤ c ∧ c ≤ 9999) := fun hc => hr ⟨hk, ha, hb, hc⟩
            rw [@okN_false k c 2 (fun h => hc h.1)]; simp
          · rw [@okN_false k b 1 (fun h => hb h.1)]; simp
        · rw [@okN_false k a 0 (fun h => ha h.1)]; simp
      · rw [decide_eq_false hk]; rfl
    have HB0 := Lib.hid hb0
    rw [hf]
    clear hf hb0
    by_cases g0 : 1 ≤ k ∧ k ≤ 8
    rotate_left
    · go_enter Try.func92, Try.ntmps92
      go_wp2_with (go_at_call 110; first | (with_reducible refine (l00In_yes _ _ _ (by omega) (by omega) _).mono ?_; rintro e w' ⟨rfl, rfl⟩) | (with_reducible refine (l00In_no _ _ _ (by omega) _).mono ?_; rintro e w' ⟨rfl, rfl⟩))
      go_ret
      exact ⟨rfl, HB0.out⟩
    by_cases g1 : 0 ≤ a ∧ a ≤ 9999
    rotate_left
    · go_enter Try.func92, Try.ntmps92
      go_wp2_with (go_at_call 110; first | (with_reducible refine (l00In_yes _ _ _ (by omega) (by omega) _).mono ?_; rintro e w' ⟨rfl, rfl⟩) | (with_reducible refine (l00In_no _ _ _ (by omega) _).mono ?_; rintro e w' ⟨rfl, rfl⟩))
      go_ret
      exact ⟨rfl, HB0.out⟩
    by_cases g2 : 0 ≤ b ∧ b ≤ 9999
    rotate_left
    · go_enter Try.func92, Try.ntmps92
      go_wp2_with (go_at_call 110; first | (with_reducible refine (l00In_yes _ _ _ (by omega) (by omega) _).mono ?_; rintro e w' ⟨rfl, rfl⟩) | (with_reducible refine (l00In_no _ _ _ (by omega) _).mono ?_; rintro e w' ⟨rfl, rfl⟩))
      go_ret
      exact ⟨rfl, HB0.out⟩
    have g3 : ¬ (0 ≤ c ∧ c ≤ 9999) := fun hc => hr ⟨g0, g1, g2, hc⟩
    clear hr
    go_enter Try.func92, Try.ntmps92
    go_wp2_with (go_at_call 110; first | (with_reducible refine (l00In_yes _ _ _ (by omega) (by omega) _).mono ?_; rintro e w' ⟨rfl, rfl⟩) | (with_reducible refine (l00In_no _ _ _ (by omega) _).mono ?_; rintro e w' ⟨rfl, rfl⟩))
    go_ret
    exact ⟨rfl, HB0.out⟩

set_option maxRecDepth 100000 in
set_option maxHeartbeats 1600000 in
theorem specValidDeed_any (k a b c : Int) (w : World) :
    Calls Try.prog 42 #[.agg #[.int .i64 k, .int .i64 a, .int .i64 b, .int .i64 c]] w fun e w' => e = .returned (.bool (fValidDeed k a b c)) ∧ Below w.heap.size w w' := by
  have HD := Lib.hid (fun W => l08Deed_any k a b c W)
  have HB0 := Lib.hid (below_alloc1 w (.cells #[.int .i64 k, .int .i64 a, .int .i64 b, .int .i64 c] 63))
  generalize fValidDeed k a b c = r at HD ⊢
  go_enter Try.func42, Try.ntmps42
  go_wp2_with fail
  refine (HD.out _).mono ?_
  rintro e w1 ⟨rfl, hb⟩
  have HB1 := Lib.hid (HB0.out.trans (hb.mono HB0.out.size))
  clear hb
  go_wp2_with fail
  go_ret
  exact ⟨rfl, HB1.out⟩
end Go.Proofs.Ytljaabmemjehpaa
