/- MissedBy: the program's and the model's. -/
import Derived.Test.YtibennpdffgomaaDoorMissed
import Derived.Test.YtibennpdffgomaaDoorCut
namespace Go.Proofs.YtibennpdffgomaaDoor
open Go.RowKit Go.Joins Go.ChangeShapes Go.WideShapes Go.Deep
set_option linter.unusedVariables false
set_option linter.unusedSimpArgs false

/-- What supposed data and packets must be. -/
def okMiss (p l : Int) (ys zs : List Int) : Bool := (decide (ys.length ≤ 10) && allIn (2 ^ (p.toNat + l.toNat)) ys) && (decide ((zs.length : Int) = p) && allIn (2 ^ l.toNat) zs)
def fMissedBy (p l r c : Int) (xs ys zs : List Int) : Int × Int :=
  if fValidGather p l r c xs = true then (if okMiss p l ys zs = true then ((((joined [] ((nats ys).map (missX p.toNat (nats zs)))).length : Nat) : Int), 0) else (0, 2)) else (0, 1)

set_option maxRecDepth 100000 in
set_option maxHeartbeats 3200000 in
theorem l08Below_any (N : Nat) (hN : N ≤ 1048576) (A : Option Addr) (n cap : Nat) (xs : List Int) (w : World) {B T : Nat} (hM : Res w B T (.slice A n cap) xs) :
    Calls Tryd.prog 60 #[.slice A n cap, .int .i64 N] w fun e w' => e = .returned (.bool (allIn N xs)) ∧ w = w' := by
  have hlen : xs.length = n := by cases hM <;> first | rfl | assumption
  have hsm : n ≤ 1048576 := by have := hM.small; omega
  have HCELL : Hid (0 < n → ∃ g, A = some ⟨g, 0, none⟩ ∧ g < w.heap.size ∧ ∀ j, j < n → w.cell? ⟨g, j, none⟩ = some (.int .i64 (xs[j]?.getD 0))) := by
    refine Lib.hid ?_
    cases hM with
    | nil A cap => exact fun h => absurd h (Nat.lt_irrefl 0)
    | row g n cap xs h1 h2 h3 h4 h5 h6 h7 => exact fun _ => ⟨g, rfl, by omega, h6⟩
  clear hM
  have HL := Lib.hid hlen
  obtain ⟨bl, hbl⟩ : ∃ b, allIn N xs = b := ⟨_, rfl⟩
  rw [hbl]
  have HBL := Lib.hid hbl
  clear hlen hbl
  go_enter Tryd.func60, Tryd.ntmps60
  go_wp2_with fail
  go_loop [5] (fun i => ∃ k : Nat, k ≤ n ∧ i = .int .i64 k ∧ Hid (∀ j, j < k → 0 ≤ xs[j]?.getD 0 ∧ xs[j]?.getD 0 < (N : Int))) (fun i => n - (intOf i).toNat)
  case atStart => exact ⟨0, Nat.zero_le _, rfl, Lib.hid fun j h => by omega⟩
  case round =>
    obtain ⟨k, hk, rfl, HO⟩ := hrel
    by_cases hlt : k < n
    · obtain ⟨g, rfl, hg, hcl⟩ := HCELL.out (by omega)
      have hck := hcl k hlt
      obtain ⟨z, hz⟩ : ∃ z, xs[k]?.getD 0 = z := ⟨_, rfl⟩
      rw [hz] at hck
      have HZ := Lib.hid hz
      clear hz hcl
      by_cases hgd : 0 ≤ z ∧ z ≤ (N : Int) - 1
      · go_wp2_with (go_at_call 50; refine (l00In_yes z 0 ((N : Int) - 1) hgd.1 hgd.2 _).mono ?_; rintro e w1 ⟨rfl, rfl⟩)
        go_round
        case rel => exact ⟨k + 1, by omega, by go_num, Lib.hid fun j hj => by
            by_cases e : j = k
            · subst e; rw [HZ.out]; omega
            · exact HO.out j (by omega)⟩
        case measure => simp [intOf]; omega
      · have hno : allIn N xs = false := allIn_no k (by rw [HL.out]; exact hlt) (by rw [HZ.out]; omega)
        have HNO := Lib.hid (HBL.out.symm.trans hno)
        clear hno
        go_wp2_with (go_at_call 50; refine (l00In_no z 0 ((N : Int) - 1) (by omega) _).mono ?_; rintro e w1 ⟨rfl, rfl⟩)
        go_ret
        exact ⟨ret_bool (by simp [HNO.out]), rfl⟩
    · obtain rfl : k = n := by omega
      have HYE := Lib.hid (HBL.out.symm.trans (allIn_yes (fun j hj => HO.out j (by rw [← HL.out]; exact hj))))
      go_wp2_with fail
      go_ret
      exact ⟨ret_bool (by simp [HYE.out]), rfl⟩
theorem l08Cols_any (q P Y : Nat) (r c : Int) (v : Value) (hP : P ≤ 4) (hY : Y ≤ 6) (w : World) (hX : LB w q (gatL P Y v r c)) :
    Calls Tryd.prog 61 #[.pointer (some ⟨q, 0, none⟩)] w fun e w' => e = .returned (.int .i64 ((P + Y : Nat) : Int)) ∧ ∃ m, w' = w.drewN m := by
  have c0 := hX.cell 0 _ rfl; have c1 := hX.cell 1 _ rfl
  go_enter Tryd.func61, Tryd.ntmps61
  go_wp2
  go_quiet (fail)
  go_wp2
  go_ret
  exact ⟨ret_int (by omega), _, rfl⟩

set_option maxRecDepth 100000 in
set_option maxHeartbeats 6400000 in
theorem specMissedBy_any (p l r c : Int) (v : Value) (xs : List Int) (v1 : Value) (ys : List Int) (v2 : Value) (zs : List Int) (w : World) (hT : Tab w) {B T B1 T1 B2 T2 : Nat} (hM : Res w B T v xs) (hM1 : Res w B1 T1 v1 ys) (hM2 : Res w B2 T2 v2 zs) :
    Calls Tryd.prog 27 #[.agg (gatL p l v r c).toArray, v1, v2] w fun e w' => e = .returned (.tuple #[.int .i64 (fMissedBy p l r c xs ys zs).1, .int .i64 (fMissedBy p l r c xs ys zs).2]) ∧ Below w.heap.size w w' := by
  obtain ⟨A, n, cap, rfl⟩ := hM.form
  obtain ⟨A1, n1, cap1, rfl⟩ := hM1.form
  obtain ⟨A2, n2, cap2, rfl⟩ := hM2.form
  have hlen : xs.length = n := hM.len
  have hlen1 : ys.length = n1 := hM1.len
  have hlen2 : zs.length = n2 := hM2.len
  have hsm1 : n1 ≤ 1048576 := by have := hM1.small; omega
  have hsm2 : n2 ≤ 1048576 := by have := hM2.small; omega
  have hG := G1.start w (gatL p l (.slice A n cap) r c) 60
  have S := l08Ok_quiet w.heap.size p l r c A n cap xs _ hG.x (hM.next hG.b)
  cases hf : fValidGather p l r c xs with
  | false =>
    have e : fMissedBy p l r c xs ys zs = (0, 1) := by rw [fMissedBy, if_neg (by rw [hf]; simp)]
    rw [e]
    rw [hf] at S
    have HS := Lib.hid S
    have HG := Lib.hid hG
    clear S hM e hf hG hM1 hM2
    go_enter Tryd.func27, Tryd.ntmps27
    go_wp2_with fail
    refine HS.out.mono ?_
    rintro e w1 ⟨rfl, m, rfl⟩
    have HB := Lib.hid (HG.out.b.trans (below_draws _ _ m))
    go_wp2_with fail
    go_ret2
    exact ⟨rfl, HB.out⟩
  | true =>
    have hf' := hf
    rw [fValidGather] at hf'
    simp only [Bool.and_eq_true, decide_eq_true_eq] at hf'
    obtain ⟨⟨h1, h2, h3, h4, h5, h6, h7, h8⟩, h9, h10⟩ := hf'
    obtain ⟨Y, rfl⟩ : ∃ Y : Nat, l = Y := ⟨l.toNat, by omega⟩
    obtain ⟨P, rfl⟩ : ∃ P : Nat, p = P := ⟨p.toNat, by omega⟩
    have hP : P ≤ 4 := by omega
    have hY : Y ≤ 6 := by omega
    have hP1 : 1 ≤ P := by omega
    clear h1 h2 h3 h4 h5 h6 h7 h8 h9 h10
    obtain ⟨C, hC⟩ : ∃ C, P + Y = C := ⟨_, rfl⟩
    obtain ⟨N1, hN1⟩ : ∃ N, 2 ^ C = N := ⟨_, rfl⟩
    obtain ⟨N2, hN2⟩ : ∃ N, 2 ^ Y = N := ⟨_, rfl⟩
    have hN1l : N1 ≤ 1024 := by rw [← hN1, ← hC]; exact Nat.pow_le_pow_right (n := 2) (by omega) (show P + Y ≤ 10 by omega)
    have hN2l : N2 ≤ 64 := by rw [← hN2]; exact Nat.pow_le_pow_right (n := 2) (by omega) hY
    have hsh1 : (2 : Int) ^ C = (N1 : Int) := by rw [← hN1]; simp
    have hsh2 : (2 : Int) ^ Y = (N2 : Int) := by rw [← hN2]; simp
    have hC10 : C ≤ 10 := by omega
    rw [hf] at S
    have e : fMissedBy P Y r c xs ys zs = if okMiss P Y ys zs = true then ((((joined [] ((nats ys).map (missX P (nats zs)))).length : Nat) : Int), 0) else (0, 2) := by rw [fMissedBy, if_pos hf]; rfl
    have eo : okMiss P Y ys zs = ((decide (n1 ≤ 10) && allIn N1 ys) && (decide (n2 = P) && allIn N2 zs)) := by
      rw [okMiss, Int.toNat_natCast, Int.toNat_natCast, hC, hN1, hN2, hlen1, hlen2]
      congr 2
      exact decide_eq_decide.2 (by omega)
    rw [e]
    have HS := Lib.hid S
    have HG := Lib.hid hG
    have K0 : Hid (∀ W : World, Below (w.alloc (.cells (gatL P Y (.slice A n cap) r c).toArray 60)).heap.size (w.alloc (.cells (gatL P Y (.slice A n cap) r c).toArray 60)) W → Calls Tryd.prog 61 #[.pointer (some ⟨w.heap.size, 0, none⟩)] W fun e w' => e = .returned (.int .i64 (C : Nat)) ∧ ∃ m, w' = W.drewN m) := Lib.hid fun W hW => by
      have S := l08Cols_any w.heap.size P Y r c (.slice A n cap) hP hY W (hG.x.next hW)
      rw [hC] at S
      exact S
    obtain ⟨b1, hb1⟩ : ∃ b, allIn N1 ys = b := ⟨_, rfl⟩
    obtain ⟨b2, hb2⟩ : ∃ b, allIn N2 zs = b := ⟨_, rfl⟩
    have K1 : Hid (∀ W : World, Below w.heap.size w W → Calls Tryd.prog 60 #[.slice A1 n1 cap1, .int .i64 N1] W fun e w' => e = .returned (.bool b1) ∧ W = w') := Lib.hid fun W hW => by
      rw [← hb1]; exact l08Below_any N1 (by omega) A1 n1 cap1 ys W (hM1.next hW)
    have K2 : Hid (∀ W : World, Below w.heap.size w W → Calls Tryd.prog 60 #[.slice A2 n2 cap2, .int .i64 N2] W fun e w' => e = .returned (.bool b2) ∧ W = w') := Lib.hid fun W hW => by
      rw [← hb2]; exact l08Below_any N2 (by omega) A2 n2 cap2 zs W (hM2.next hW)
    have K3 : Hid (n1 ≤ 10 → b1 = true → n2 = P → b2 = true → ∀ W : World, LB W w.heap.size (gatL P Y (.slice A n cap) r c) → Below w.heap.size w W → Calls Tryd.prog 62 #[.pointer (some ⟨w.heap.size, 0, none⟩), .slice A1 n1 cap1, .slice A2 n2 cap2] W fun e w' => e = .returned (.int .i64 ((joined [] ((nats ys).map (missX P (nats zs)))).length : Nat)) ∧ Below W.heap.size W w') := Lib.hid fun g1 g2 g3 g4 W hX hW => by
      subst g2 g4
      have hl1 : (nats ys).length = n1 := by rw [nats_length, hlen1]
      have hl2 : (nats zs).length = P := by rw [nats_length, hlen2]; exact g3
      have hD : ∀ s ∈ nats zs, s < 2 ^ Y := fun s hs => by
        obtain ⟨j, hj, he⟩ := List.mem_iff_getElem.1 hs
        have := nats_lt hb2 (by rw [← hN2]; exact Nat.two_pow_pos Y) j
        rw [nth, List.getD_eq_getElem?_getD, List.getElem?_eq_getElem hj] at this
        rw [hN2, ← he]; exact this
      have hL : ∀ s ∈ nats ys, s < 2 ^ (P + Y) := fun s hs => by
        obtain ⟨j, hj, he⟩ := List.mem_iff_getElem.1 hs
        have := nats_lt hb1 (by rw [← hN1]; exact Nat.two_pow_pos C) j
        rw [nth, List.getD_eq_getElem?_getD, List.getElem?_eq_getElem hj] at this
        rw [hC, hN1, ← he]; exact this
      have hz : ints (nats zs) = zs := ints_nats hb2
      have hm2 := hM2.next hW
      cases hm2 with
      | nil A cap => simp at hlen2; omega
      | row g n' cap' xs' k1 k2 k3 k4 k5 k6 k7 =>
        refine l08Missed_any w.heap.size P Y r c (.slice A n cap) A1 n1 cap1 (nats ys) g n2 cap2 (nats zs) hP hY hl2 hD hL (by omega) hl1 W hX ?_ (by rw [hz]; exact ⟨k4, by omega, k6⟩)
        have hm1 := hM1.next hW
        cases hm1 with
        | nil A cap => exact fun h => absurd h (Nat.lt_irrefl 0)
        | row g' n'' cap'' xs'' j1 j2 j3 j4 j5 j6 j7 => exact fun _ => ⟨g', rfl, by omega, fun j hj => by rw [j6 j hj, nats_nth hb1]⟩
    clear S hG hM hM1 hM2 hf
    have hD0 := HG.out.x
    have fin : ∀ (x y : Int), okMiss P Y ys zs = false → (x, y) = ((0, 2) : Int × Int) → (x, y) = if okMiss P Y ys zs = true then ((((joined [] ((nats ys).map (missX P (nats zs)))).length : Nat) : Int), 0) else (0, 2) := fun x y h e => by rw [h, e]; rfl
    by_cases g1 : n1 ≤ 10
    rotate_left
    · rw [eo, decide_eq_false g1]
      simp only [Bool.false_and, Bool.false_eq_true, if_false]
      clear K0 K1 K2 K3 fin eo e hb1 hb2
      go_enter Tryd.func27, Tryd.ntmps27
      go_wp2_with fail
      refine HS.out.mono ?_
      rintro e w1 ⟨rfl, m, rfl⟩
      have HB := Lib.hid (HG.out.b.trans (below_draws _ _ m))
      clear HS HG hD0
      go_wp2_with fail
      go_ret2
      exact ⟨rfl, HB.out⟩
    rw [eo, decide_eq_true g1, Bool.true_and]
    have g1d : decide ((10 : Int) < (n1 : Int)) = false := decide_eq_false (by omega)
    have HBJ : Hid (∀ j, Below w.heap.size w ((w.alloc (.cells (gatL P Y (.slice A n cap) r c).toArray 60)).drewN j)) := Lib.hid fun j => HG.out.b.trans (below_draws _ _ j)
    have HAJ : Hid (∀ j, Below (w.alloc (.cells (gatL P Y (.slice A n cap) r c).toArray 60)).heap.size (w.alloc (.cells (gatL P Y (.slice A n cap) r c).toArray 60)) ((w.alloc (.cells (gatL P Y (.slice A n cap) r c).toArray 60)).drewN j)) := Lib.hid fun j => below_draws _ _ j
    have HXJ : Hid (∀ j, LB ((w.alloc (.cells (gatL P Y (.slice A n cap) r c).toArray 60)).drewN j) w.heap.size (gatL P Y (.slice A n cap) r c)) := Lib.hid fun j => hD0.next (below_draws _ _ j)
    clear fin hD0 e
    cases b1 with
    | false =>
      rw [hb1]
      simp only [Bool.false_and, Bool.false_eq_true, if_false]
      clear K2 K3 eo hb1 hb2
      go_enter Tryd.func27, Tryd.ntmps27
      go_wp2_with fail
      refine HS.out.mono ?_
      rintro e w1 ⟨rfl, m, rfl⟩
      go_wp2_with (first | (go_at_call 61; refine (K0.out _ (HAJ.out _)).mono ?_; rintro e w3 ⟨rfl, m3, rfl⟩) | (go_at_call 60; (first | (with_reducible refine Calls.mono (K1.out _ (HBJ.out _)) ?_; rintro e w3 ⟨rfl, rfl⟩) | (with_reducible refine Calls.mono (K2.out _ (HBJ.out _)) ?_; rintro e w3 ⟨rfl, rfl⟩))))
      go_ret2
      exact ⟨rfl, HBJ.out _⟩
    | true =>
      rw [hb1, Bool.true_and]
      by_cases g3 : n2 = P
      rotate_left
      · rw [decide_eq_false g3]
        simp only [Bool.false_and, Bool.false_eq_true, if_false]
        have g3i : ¬ (n2 : Int) = (P : Int) := by omega
        have g3b : ((n2 : Int) != (P : Int)) = true := by simp; omega
        clear K2 K3 eo hb1 hb2
        go_enter Tryd.func27, Tryd.ntmps27
        go_wp2_with fail
        refine HS.out.mono ?_
        rintro e w1 ⟨rfl, m, rfl⟩
        go_wp2_with (first | (go_at_call 61; refine (K0.out _ (HAJ.out _)).mono ?_; rintro e w3 ⟨rfl, m3, rfl⟩) | (go_at_call 60; (first | (with_reducible refine Calls.mono (K1.out _ (HBJ.out _)) ?_; rintro e w3 ⟨rfl, rfl⟩) | (with_reducible refine Calls.mono (K2.out _ (HBJ.out _)) ?_; rintro e w3 ⟨rfl, rfl⟩))))
        go_ret2
        exact ⟨rfl, HBJ.out _⟩
      rw [decide_eq_true g3, Bool.true_and]
      cases b2 with
      | false =>
        rw [hb2]
        simp only [Bool.false_eq_true, if_false]
        have g3b : ((n2 : Int) != (P : Int)) = false := by simp; omega
        clear K3 eo hb1 hb2 g3
        go_enter Tryd.func27, Tryd.ntmps27
        go_wp2_with fail
        refine HS.out.mono ?_
        rintro e w1 ⟨rfl, m, rfl⟩
        go_wp2_with (first | (go_at_call 61; refine (K0.out _ (HAJ.out _)).mono ?_; rintro e w3 ⟨rfl, m3, rfl⟩) | (go_at_call 60; (first | (with_reducible refine Calls.mono (K1.out _ (HBJ.out _)) ?_; rintro e w3 ⟨rfl, rfl⟩) | (with_reducible refine Calls.mono (K2.out _ (HBJ.out _)) ?_; rintro e w3 ⟨rfl, rfl⟩))))
        go_ret2
        exact ⟨rfl, HBJ.out _⟩
      | true =>
        rw [hb2, if_pos rfl]
        have KM := Lib.hid (K3.out g1 rfl g3 rfl)
        generalize (joined [] ((nats ys).map (missX P (nats zs)))).length = R at KM ⊢
        have g3b : ((n2 : Int) != (P : Int)) = false := by simp; omega
        clear K3 eo hb1 hb2 g3
        go_enter Tryd.func27, Tryd.ntmps27
        go_wp2_with fail
        refine HS.out.mono ?_
        rintro e w1 ⟨rfl, m, rfl⟩
        go_wp2_with (first | (go_at_call 61; refine (K0.out _ (HAJ.out _)).mono ?_; rintro e w3 ⟨rfl, m3, rfl⟩) | (go_at_call 60; (first | (with_reducible refine Calls.mono (K1.out _ (HBJ.out _)) ?_; rintro e w3 ⟨rfl, rfl⟩) | (with_reducible refine Calls.mono (K2.out _ (HBJ.out _)) ?_; rintro e w3 ⟨rfl, rfl⟩))))
        refine (KM.out _ (HXJ.out _) (HBJ.out _)).mono ?_
        rintro e w5 ⟨rfl, hb5⟩
        have HB5 := Lib.hid ((HBJ.out _).trans (hb5.mono (HBJ.out _).size))
        clear hb5
        go_wp2_with fail
        go_ret2
        exact ⟨rfl, HB5.out⟩
end Go.Proofs.YtibennpdffgomaaDoor
