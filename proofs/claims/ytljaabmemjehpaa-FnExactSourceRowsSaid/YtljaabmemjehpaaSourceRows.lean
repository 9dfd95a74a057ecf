/- SourceRows: the program's and the model's. -/
import Derived.Test.YtljaabmemjehpaaValidGather
import Derived.Test.YtljaabmemjehpaaStep
namespace Go.Proofs.Ytljaabmemjehpaa
open Go.RowKit Go.Joins Go.ChangeShapes Go.WideShapes Go.Deep
set_option linter.unusedVariables false
set_option linter.unusedSimpArgs false

def fSourceRows (p l r c : Int) (xs : List Int) : List Int × Int := if fValidGather p l r c xs = true then (ints (srcL (nats xs).length (nats xs)), 0) else ([], 1)

set_option maxRecDepth 100000 in
set_option maxHeartbeats 3200000 in
theorem implSourceRows_any (p l r c : Int) (v : Value) (xs : List Int) (w : World) {B T : Nat} (hM : Res w B T v xs) :
    Calls Try.prog 51 #[.agg (gatL p l v r c).toArray] w fun e w' => ∃ v, e = .returned (.tuple #[v, .int .i64 (fSourceRows p l r c xs).2]) ∧ Below w.heap.size w w' ∧ Res w' w.heap.size w'.heap.size v (fSourceRows p l r c xs).1 := by
  obtain ⟨A, n, cap, rfl⟩ := hM.form
  have hG := G1.start w (gatL p l (.slice A n cap) r c) 70
  have S := worksFor_any p l r c (.slice A n cap) xs _ (hM.next hG.b)
  cases hf : fValidGather p l r c xs with
  | false =>
    have e : fSourceRows p l r c xs = ([], 1) := by rw [fSourceRows, if_neg (by rw [hf]; simp)]
    rw [e]
    rw [hf] at S
    have HS := Lib.hid S
    have HG := Lib.hid hG
    clear S hM e hf
    have x0 := hG.x.cell 0 _ rfl; have x1 := hG.x.cell 1 _ rfl; have x2 := hG.x.cell 2 _ rfl; have x3 := hG.x.cell 3 _ rfl; have x4 := hG.x.cell 4 _ rfl
    clear hG
    go_enter Try.func51, Try.ntmps51
    go_wp2_with fail
    refine HS.out.mono ?_
    rintro e w1 ⟨o, rfl, hb, -⟩
    have HB := Lib.hid (HG.out.next hb).b
    clear hb x0 x1 x2 x3 x4 HG HS
    simp only [if_neg (show ¬ (false = true) by decide)]
    go_wp2_with fail
    go_ret2
    exact ⟨_, rfl, HB.out, .nil _ _⟩
  | true =>
    have e : fSourceRows p l r c xs = (ints (srcL (nats xs).length (nats xs)), 0) := by rw [fSourceRows, if_pos hf]
    rw [e]
    rw [hf] at S
    generalize srcL (nats xs).length (nats xs) = SR at S ⊢
    have HS := Lib.hid S
    have HG := Lib.hid hG
    clear S hM e hf
    have x0 := hG.x.cell 0 _ rfl; have x1 := hG.x.cell 1 _ rfl; have x2 := hG.x.cell 2 _ rfl; have x3 := hG.x.cell 3 _ rfl; have x4 := hG.x.cell 4 _ rfl
    clear hG
    go_enter Try.func51, Try.ntmps51
    go_wp2_with fail
    refine HS.out.mono ?_
    rintro e w1 ⟨o, rfl, hb, hK⟩
    obtain ⟨q, b, N, Y, rfl, _, _, hW⟩ := hK trivial
    have HB := Lib.hid (HG.out.next hb).b
    have hc14 := hW.c14
    have hN0 : (0 : Int) < (N : Int) := by have := hW.n1; omega
    have HN := Lib.hid (numbers_r b SR w1 hW.src)
    clear hb x0 x1 x2 x3 x4 HG HS hW
    simp only [if_true]
    go_wp2_with fail
    refine HN.out.mono ?_
    rintro e w2 ⟨v2, rfl, hb2, hR2⟩
    obtain ⟨A2, n2, c2, rfl⟩ := hR2.form
    have HB2 := Lib.hid (HB.out.trans (hb2.mono HB.out.size))
    have HR2 := Lib.hid (hR2.wide HB.out.size (Nat.le_refl _) (Nat.le_refl _))
    clear hb2 hR2
    go_wp2_with fail
    go_ret2
    exact ⟨_, rfl, HB2.out, HR2.out⟩
theorem src_or {P i x s : Nat} (hP : P < 5) (hi : i < P) (hx : x < 64) (hs : 2 ^ i + x * 2 ^ P = s) : bits .or .i64 (IntKind.i64.wrap (2 ^ min (IntKind.u64.wrap (i : Int)).toNat 64)) (IntKind.i64.wrap ((x : Int) * 2 ^ min (IntKind.u64.wrap (P : Int)).toNat 64)) = (s : Int) := by
  have e1 : (IntKind.u64.wrap (i : Int)).toNat = i := by simp [IntKind.wrap, IntKind.signed, IntKind.bits]; omega
  have e2 : (IntKind.u64.wrap (P : Int)).toNat = P := by simp [IntKind.wrap, IntKind.signed, IntKind.bits]; omega
  have h1 : 2 ^ i ≤ 16 := Nat.le_trans (Nat.pow_le_pow_right (n := 2) (by omega) (show i ≤ 4 by omega)) (by decide)
  have h2 : 2 ^ P ≤ 16 := Nat.le_trans (Nat.pow_le_pow_right (n := 2) (by omega) (show P ≤ 4 by omega)) (by decide)
  have h3 : x * 2 ^ P ≤ 63 * 16 := Nat.mul_le_mul (by omega) h2
  rw [e1, e2, Nat.min_eq_left (by omega), Nat.min_eq_left (by omega)]
  have g1 : ((2 : Int) ^ i) = ((2 ^ i : Nat) : Int) := by simp
  have g2 : ((x : Int) * 2 ^ P) = ((x * 2 ^ P : Nat) : Int) := by simp
  have wrapN : ∀ a : Nat, a < 4611686018427387904 → IntKind.i64.wrap (a : Int) = a := fun a ha => by rw [IntKind.wrap_i64]; omega
  rw [g1, g2, wrapN _ (by omega), wrapN _ (by omega), i64_or_nat _ _ (by omega) (by omega), pk_or P hP i hi x hx, hs]

set_option maxRecDepth 100000 in
set_option maxHeartbeats 3200000 in
theorem l08Source_any (q P : Nat) (l r c : Int) (A : Option Addr) (n cap : Nat) (D : List Nat) (hP : P < 5) (hn : D.length = n) (hnP : n = P) (hd : ∀ j, nth D j < 64) (w : World) (hX : LB w q (gatL P l (.slice A n cap) r c)) (hcell : 0 < n → ∃ g, A = some ⟨g, 0, none⟩ ∧ g < w.heap.size ∧ ∀ j, j < n → w.cell? ⟨g, j, none⟩ = some (.int .i64 (nth D j : Nat))) :
    Calls Try.prog 99 #[.pointer (some ⟨q, 0, none⟩)] w fun e w' => ∃ v, e = .returned v ∧ Below w.heap.size w w' ∧ Res w' w.heap.size w'.heap.size v (ints (srcL P D)) := by
  obtain ⟨i0, hi, hz0, hz1, hz2⟩ := info_parts Try.infoI
  have hO0 := World.ownsRow_lit (base := w.heap.size) (e := 2) (size := 1) w #[] 0 (Nat.le_refl _) (by unfold maxLen; omega) rfl
  have HO0 := Lib.hid hO0
  have HB0 := Lib.hid (below_alloc1 w (.cells #[] 2))
  have HX := Lib.hid hX
  have HC := Lib.hid hcell
  have HD := Lib.hid hd
  have HN := Lib.hid hn
  have c2 := (hX.next (below_alloc1 w (.cells #[] 2))).cell 2 _ rfl
  have hqz := hX.lt
  clear hO0 hX hcell hd hn
  subst hnP
  go_enter Try.func99, Try.ntmps99
  go_wp2_with fail
  clear c2
  go_loopw [3, 4] (fun u i wr => ∃ (k : Nat) (ao : Option Addr) (mo co : Nat), u = .slice ao mo co ∧ k ≤ n ∧ i = .int .i64 k ∧ wr.ownsRow w.heap.size 2 1 (.slice ao mo co) k ((ints ((List.range k).map fun i => 2 ^ i + nth D i * 2 ^ n)).map (Value.int .i64)) ∧ Below w.heap.size w wr) (fun _ i _ => n - (intOf i).toNat)
  case atStart => exact ⟨0, _, _, _, rfl, Nat.zero_le _, rfl, HO0.out, HB0.out⟩
  case round =>
    obtain ⟨k, ao, mo, co, rfl, hk, rfl, hO, hB⟩ := hrel
    clear HO0 HB0
    have hX1 := HX.out.next hB
    have c0 := hX1.cell 0 _ rfl; have c2 := hX1.cell 2 _ rfl
    have HO := Lib.hid hO
    have HB := Lib.hid hB
    by_cases hlt : k < n
    · obtain ⟨g, rfl, hg, hcl⟩ := HC.out (by omega)
      have hrow := (hB.cell (p := ⟨g, k, none⟩) hg).trans (hcl k hlt)
      have hx := HD.out k
      have hts := src_succ (P := n) (k := k) (L := D)
      generalize nth D k = x at hrow hx hts
      obtain ⟨s, hs⟩ : ∃ s, 2 ^ k + x * 2 ^ n = s := ⟨_, rfl⟩
      have hor := src_or hP hlt hx hs
      rw [hs] at hts
      have HTS := Lib.hid hts
      have HOS := Lib.hid hor
      have hgz : g < wr.heap.size := Nat.lt_of_lt_of_le hg hB.size
      clear hts hs hor hO hB hX1 hcl
      go_wp2_with fail
      have HOD := Lib.hid (show wr.drew.ownsRow w.heap.size 2 1 (.slice ao mo co) k ((ints ((List.range k).map fun i => 2 ^ i + nth D i * 2 ^ n)).map (Value.int .i64)) from HO.out)
      go_region_law (first | (refine step_append_own rfl (.tmp 15) (.tmp 33) 27 rfl w.heap.size 2 i0 (.int .i64 0) 1 8 Try.underlying27 hi hz0 hz1 hz2 rfl (by decide) (.slice ao mo co) k _ (by simp [Act.eval]) (HOD.out.alloc _) ⟨wr.drew.heap.size, 0, none⟩ 1 1 [.int .i64 (bits .or .i64 (IntKind.i64.wrap (2 ^ min (IntKind.u64.wrap (k : Int)).toNat 64)) (IntKind.i64.wrap ((x : Int) * 2 ^ min (IntKind.u64.wrap (n : Int)).toNat 64)))] (by simp [Act.eval]) rfl (one_new wr.drew _ _) (one_one _ _) (by unfold maxLen; omega) (by omega) (by have := HB.out.size; simp; omega) ?_; intro v' w4 hown' hgrow; rw [HOS.out] at hown'; obtain ⟨g4, cp4, rfl⟩ : ∃ g cp, v' = .slice (some ⟨g, 0, none⟩) (k + 1) cp := (ownsRow_forms hown').resolve_left (fun h => by have := h.2; omega); have hb4 : Below w.heap.size wr.drew w4 := ((Below.refl _ wr.drew).alloc HB.out.size _).grown hgrow (by have := HB.out.size; simp; omega) (fun g hg => (HOD.out.lt g hg).1); have t0 := HB.out.size; have HN4 := Lib.hid hown'; have HB4 := Lib.hid (HB.out.trans ((Below.refl _ wr).drew.trans hb4)); clear hown' hgrow hb4))
      all_goals
        clear hrow c0 c2
        go_wp2_with fail
        go_roundw
        case rel => exact ⟨k + 1, _, _, _, rfl, by omega, by go_num, by rw [HTS.out, ints, List.map_append, List.map_append]; exact HN4.out, HB4.out⟩
        case measure => simp [intOf]; omega
    · obtain rfl : k = n := by omega
      clear hO hB hX1
      go_wp2_with fail
      go_ret
      refine ⟨_, rfl, HB.out, ?_⟩
      rw [srcL, HN.out]
      exact own_res HO.out (by omega) (Nat.le_refl _)
set_option maxRecDepth 100000 in
set_option maxHeartbeats 3200000 in
theorem specSourceRows_any (p l r c : Int) (v : Value) (xs : List Int) (w : World) {B T : Nat} (hM : Res w B T v xs) :
    Calls Try.prog 50 #[.agg (gatL p l v r c).toArray] w fun e w' => ∃ v, e = .returned (.tuple #[v, .int .i64 (fSourceRows p l r c xs).2]) ∧ Below w.heap.size w w' ∧ Res w' w.heap.size w'.heap.size v (fSourceRows p l r c xs).1 := by
  obtain ⟨A, n, cap, rfl⟩ := hM.form
  have hlen : xs.length = n := by cases hM <;> first | rfl | assumption
  have hG := G1.start w (gatL p l (.slice A n cap) r c) 70
  have S := l08Ok_quiet w.heap.size p l r c A n cap xs _ hG.x (hM.next hG.b)
  cases hf : fValidGather p l r c xs with
  | false =>
    have e : fSourceRows p l r c xs = ([], 1) := by rw [fSourceRows, if_neg (by rw [hf]; simp)]
    rw [e]
    rw [hf] at S
    have HS := Lib.hid S
    have HG := Lib.hid hG
    clear S hM e hf hG
    go_enter Try.func50, Try.ntmps50
    go_wp2_with fail
    refine HS.out.mono ?_
    rintro e w1 ⟨rfl, m, rfl⟩
    have HB := Lib.hid (HG.out.b.trans (below_draws _ _ m))
    go_wp2_with fail
    go_ret2
    exact ⟨_, rfl, HB.out.trans ((below_alloc1 _ _).mono HB.out.size), .nil _ _⟩
  | true =>
    have hf' := hf
    rw [fValidGather] at hf'
    simp only [Bool.and_eq_true, decide_eq_true_eq] at hf'
    obtain ⟨⟨h1, h2, h3, h4, h5, h6, h7, h8⟩, h9, h10⟩ := hf'
    obtain ⟨Y, rfl⟩ : ∃ Y : Nat, l = Y := ⟨l.toNat, by omega⟩
    rw [Int.toNat_natCast] at h10
    obtain rfl : p = (n : Int) := by omega
    have hnl : (nats xs).length = n := by rw [nats_length, hlen]
    have e : fSourceRows n Y r c xs = (ints (srcL n (nats xs)), 0) := by rw [fSourceRows, if_pos hf, hnl]
    rw [e]
    rw [hf] at S
    have hy : 2 ^ Y ≤ 64 := Nat.le_trans (Nat.pow_le_pow_right (n := 2) (by omega) (show Y ≤ 6 by omega)) (by decide)
    have hd : ∀ j, nth (nats xs) j < 64 := fun j => Nat.lt_of_lt_of_le (nats_lt h10 (Nat.pow_pos (by omega)) j) hy
    have HS := Lib.hid S
    have HG := Lib.hid hG
    have HSRC : Hid (∀ W, LB W w.heap.size (gatL n Y (.slice A n cap) r c) → Below w.heap.size w W → Calls Try.prog 99 #[.pointer (some ⟨w.heap.size, 0, none⟩)] W fun e w' => ∃ v, e = .returned v ∧ Below W.heap.size W w' ∧ Res w' W.heap.size w'.heap.size v (ints (srcL n (nats xs)))) := Lib.hid fun W hX hB => by
      refine l08Source_any w.heap.size n Y r c A n cap (nats xs) (by omega) hnl rfl hd W hX ?_
      cases hM with
      | nil A cap => exact fun h => absurd h (Nat.lt_irrefl 0)
      | row g n cap xs k1 k2 k3 k4 k5 k6 k7 => exact fun _ => ⟨g, rfl, Nat.lt_of_lt_of_le (by omega) hB.size, fun j hj => by
          rw [(hB.cell (p := ⟨g, j, none⟩) (by show g < w.heap.size; omega)), k6 j hj, nats_nth h10]⟩
    clear S e hf hG hd h9 h10 hM hnl hlen
    generalize srcL n (nats xs) = SR at HSRC ⊢
    go_enter Try.func50, Try.ntmps50
    go_wp2_with fail
    refine HS.out.mono ?_
    rintro e w1 ⟨rfl, m, rfl⟩
    have hG1 := HG.out.next (below_draws _ _ m)
    have HB := Lib.hid hG1.b
    have HX := Lib.hid hG1.x
    clear hG1
    go_wp2_with fail
    refine (HSRC.out _ HX.out HB.out).mono ?_
    rintro e w2 ⟨v2, rfl, hb2, hR2⟩
    obtain ⟨A2, n2, c2, rfl⟩ := hR2.form
    have HB2 := Lib.hid (HB.out.trans (hb2.mono HB.out.size))
    have HR2 := Lib.hid (hR2.wide HB.out.size (Nat.le_refl _) (Nat.le_refl _))
    clear hb2 hR2
    go_wp2_with fail
    go_ret2
    exact ⟨_, rfl, HB2.out, HR2.out⟩
end Go.Proofs.Ytljaabmemjehpaa
