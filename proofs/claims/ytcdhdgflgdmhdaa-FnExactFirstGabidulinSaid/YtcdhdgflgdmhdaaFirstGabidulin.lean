/- FirstGabidulin: the program and the model. -/
import Derived.Test.YtcdhdgflgdmhdaaGab
import Derived.Test.YtcdhdgflgdmhdaaRankL
import Derived.Test.YtcdhdgflgdmhdaaIn
import Derived.Test.YtcdhdgflgdmhdaaSpecMul
import Derived.Test.YtcdhdgflgdmhdaaSv
import Derived.Test.YtcdhdgflgdmhdaaStep
namespace Go.Proofs.Ytcdhdgflgdmhdaa
open Go.RowKit Go.Joins
set_option linter.unusedVariables false

def uns (k : Nat) : List Nat := lst (fun j => 2 ^ j) k
theorem uns_len (k : Nat) : (uns k).length = k := lst_length _ _
theorem uns_succ (k : Nat) : uns (k + 1) = uns k ++ [2 ^ k] := by simp [uns, lst, List.range_succ]
def fFirstGabidulin (d p L K : Int) : Int × Int × List Int × Int × Int :=
  if fldI d p = false then (0, 0, [], 0, 1) else if 1 ≤ L ∧ L ≤ d ∧ 1 ≤ K ∧ K ≤ L then (d, p, ints (uns L.toNat), K, 0) else (0, 0, [], 0, 2)
theorem fFG_A {d p L K : Int} (h : fldI d p = false) : fFirstGabidulin d p L K = (0, 0, [], 0, 1) := by rw [fFirstGabidulin, if_pos h]
theorem fFG_B {m P n : Nat} (hF : Fld m P n) {L K : Int} (h : ¬ (1 ≤ L ∧ L ≤ (m : Int) ∧ 1 ≤ K ∧ K ≤ L)) : fFirstGabidulin m P L K = (0, 0, [], 0, 2) := by
  rw [fFirstGabidulin, if_neg (by rw [fldI_of hF.f]; simp), if_neg h]
theorem fFG_C {m P n : Nat} (hF : Fld m P n) {L K : Nat} (h1 : 1 ≤ L) (h2 : L ≤ m) (h3 : 1 ≤ K) (h4 : K ≤ L) : fFirstGabidulin m P L K = ((m : Int), (P : Int), ints (uns L), (K : Int), 0) := by
  rw [fFirstGabidulin, if_neg (by rw [fldI_of hF.f]; simp), if_pos (by omega)]; rfl

theorem gab_results {fn : Func} {p u : Tmp} (h : fn.results = #[.cell p 53, .tmp u]) (tmps : Array Value) {W : World} {q : Nat} {a b c d : Value}
    (hp : tmps.getD p undef = .pointer (some ⟨q, 0, none⟩)) (hG : Box4 W q a b c d) : (results fn tmps).run Try.prog W = .ok (.tuple #[.agg #[a, b, c, d], tmps.getD u undef]) W := by
  rw [results_cell_tmp h, hp]
  simp [asAddr, gab_load hG, Result.andThen]
abbrev four (W : World) (q : Nat) (a b c d : Value) : World := (((W.setCell ⟨q, 0, none⟩ a).setCell ⟨q, 1, none⟩ b).setCell ⟨q, 2, none⟩ c).setCell ⟨q, 3, none⟩ d
theorem FB.four {W : World} {q : Nat} {v0 v1 v2 v3 : Value} (h : FB W q [v0, v1, v2, v3]) (a b c d : Value) : Box4 (four W q a b c d) q a b c d :=
  FB.box ((((h.set 0 (by simp) a).set 1 (by simp) b).set 2 (by simp) c).set 3 (by simp) d)
theorem below_four {w W : World} {B q : Nat} (h : Below B w W) (hq : B ≤ q) (a b c d : Value) : Below B w (four W q a b c d) :=
  (((h.setCell (p := ⟨q, 0, none⟩) hq a).setCell (p := ⟨q, 1, none⟩) hq b).setCell (p := ⟨q, 2, none⟩) hq c).setCell (p := ⟨q, 3, none⟩) hq d
theorem Mt.four {W : World} {g n q : Nat} {xs : List Int} (h : Mt W g n xs) (hq : g ≠ q) (a b c d : Value) : Mt (four W q a b c d) g n xs :=
  (((h.setCell (p := ⟨q, 0, none⟩) hq a).setCell (p := ⟨q, 1, none⟩) hq b).setCell (p := ⟨q, 2, none⟩) hq c).setCell (p := ⟨q, 3, none⟩) hq d
theorem OL.mtX {W : World} {B : Nat} {A : Option Addr} {n cap : Nat} {p : List Nat} (h : OL W B A n cap p) (h0 : 0 < n) (hn : n ≤ 1048576) : ∃ g, A = some ⟨g, 0, none⟩ ∧ B ≤ g ∧ Mt W g n (ints p) := by
  obtain ⟨g, e, hB, hg, hc, hf⟩ := h.row h0
  exact ⟨g, e, hB, by rw [ints_length]; exact h.len, hn, hg, fun j hj => by rw [hc j hj, ints_get], hf⟩
theorem Wr.mtX {W : World} {g n k : Nat} {f : Nat → Nat} (h : Wr W .i64 g n f) (hk : k ≤ n) (hn : k ≤ 1048576) : Mt W g k (ints (lst f k)) :=
  ⟨by rw [ints_length, lst_length], hn, h.lt, fun j hj => by rw [h.cell j (by omega), ints_get, lst_nth f hj], h.free⟩
theorem OL.startU {W : World} {B : Nat} (hB : B ≤ W.heap.size) : OL (W.alloc (.cells #[] 2)) B (some ⟨W.heap.size, 0, none⟩) 0 0 [] := ⟨rfl, World.ownsRow_made W #[] 0 hB (by unfold maxLen; omega) (by simp)⟩

set_option maxHeartbeats 1600000 in
theorem l05First_any (L : Nat) (hL : L ≤ 5) (w : World) :
    Calls Try.prog 79 #[.int .i64 L] w fun e w' => ∃ D cd, e = .returned (.slice D L cd) ∧ Below w.heap.size w w' ∧ OL w' w.heap.size D L cd (uns L) := by
  obtain ⟨i0, hi, hz0, hz1, hz2⟩ := info_parts Try.infoI
  have HO0 : Hid (OL (w.alloc (.cells #[] 2)) w.heap.size (some ⟨w.heap.size, 0, none⟩) 0 0 []) := Lib.hid (OL.startU (W := w) (B := w.heap.size) (Nat.le_refl _))
  have HB0 := Lib.hid (below_alloc1 w (.cells #[] 2))
  go_enter Try.func79, Try.ntmps79
  go_wp2_with fail
  go_loopw [3, 4] (fun v i wr => ∃ (j cp : Nat) (D : Option Addr), j ≤ L ∧ i = .int .i64 j ∧ v = .slice D j cp ∧ Below w.heap.size w wr ∧ OL wr w.heap.size D j cp (uns j)) (fun _ i _ => L - (intOf i).toNat)
  case atStart => exact ⟨0, 0, _, Nat.zero_le _, rfl, rfl, HB0.out, HO0.out⟩
  case round =>
    obtain ⟨j, cp, D, hj, rfl, rfl, hB, hO⟩ := hrel
    clear HO0 HB0
    by_cases hlt : j < L
    · have hts := uns_succ j
      have hp : 2 ^ j ≤ 32 := Nat.pow_le_pow_right (n := 2) (by omega) (show j ≤ 5 by omega)
      obtain ⟨s, hs⟩ : ∃ s : Nat, 2 ^ j = s := ⟨_, rfl⟩
      have hs32 : s ≤ 32 := by omega
      have hsh : IntKind.i64.wrap (2 ^ min (IntKind.u64.wrap (j : Int)).toNat 64) = (s : Int) := by
        have e : (IntKind.u64.wrap (j : Int)).toNat = j := by simp [IntKind.wrap, IntKind.signed, IntKind.bits]; omega
        have e2 : (2 : Int) ^ j = (s : Int) := by rw [← int_pow, hs]
        rw [e, Nat.min_eq_left (by omega), e2]
        exact wrapNat s (by omega)
      rw [hs] at hts
      have HTS := Lib.hid hts
      have HSH := Lib.hid hsh
      have HSH2 := Lib.hid (show wrap64 (2 ^ j) = (s : Int) by rw [show (2 : Int) ^ j = ((2 ^ j : Nat) : Int) by simp, hs]; unfold wrap64; omega)
      have HO := Lib.hid hO
      have HB := Lib.hid hB
      have hbz := hB.size
      clear hts hs hsh hO hB hp
      go_wp2_with (at_builtin; refine wpList_append_own _ rfl _ _ 27 rfl w.heap.size 2 i0 (.int .i64 0) 1 8 Try.underlying27 hi hz0 hz1 hz2 rfl (by decide) _ _ _ rfl (HO.out.own.alloc _) ⟨wr.heap.size, 0, none⟩ 1 1 [.int .i64 _] rfl rfl (one_new _ _ _) (one_one _ _) (by unfold maxLen; omega) (by omega) (by simp; omega) ?_; intro v' w2 hown' hgrow _; (first | rw [HSH2.out] at hown' | rw [HSH.out] at hown' | skip); have HG := Lib.hid (And.intro hown' hgrow); obtain ⟨A4, cp4, hv4, hO4⟩ := OL.of (n := j + 1) (p := uns (j + 1)) (by rw [HTS.out, ints_append, List.map_append]; exact hown'); subst hv4; have HO4 := Lib.hid hO4; clear hown' hgrow hO4)
      have hb4 : Below w.heap.size wr w2 := ((Below.refl _ wr).alloc hbz _).grown HG.out.2 (by simp; omega) (fun g hg => (HO.out.own.lt g hg).1)
      have HB4 := Lib.hid (HB.out.trans hb4)
      clear hb4 HG
      go_roundw
      case rel => exact ⟨j + 1, cp4, A4, by omega, by go_num, rfl, HB4.out, HO4.out⟩
      case measure => simp [intOf]; omega
    · obtain rfl : j = L := by omega
      have HO := Lib.hid hO
      have HB := Lib.hid hB
      clear hO hB
      go_wp2_with fail
      go_ret
      exact ⟨D, cp, rfl, HB.out, HO.out⟩

/-- The memory at the start: the field's copy and the result's room. -/
theorem fg_start (w : World) (m P : Int) (W : World) (hW : (w.alloc (.cells #[.int .i64 m, .int .i64 P] 32)).alloc (.cells (gabC 0 0 (.slice none 0 0) 0) 53) = W) : FB W (w.heap.size + 1) [.int .i64 0, .int .i64 0, .slice none 0 0, .int .i64 0] ∧ FAt w m P W := by
  have h := FB.start (w.alloc (.cells #[.int .i64 m, .int .i64 P] 32)) [.int .i64 0, .int .i64 0, .slice none 0 0, .int .i64 0] 53
  rw [World.size_alloc] at h
  subst hW
  exact ⟨h, (FAt.start w m P 32).alloc _⟩
abbrev POSTG (w : World) (gd gp : Int) (xs : List Int) (gk c : Int) : Ending → World → Prop := fun e w' => ∃ v, e = .returned (.tuple #[.agg (gabC gd gp v gk), .int .i64 c]) ∧ Below w.heap.size w w' ∧ Res w' w.heap.size w'.heap.size v xs

set_option maxHeartbeats 1600000 in
theorem specFirstGabidulin_A (d p L K : Int) (hf : fldI d p = false) (w : World) :
    Calls Try.prog 39 #[.agg #[.int .i64 d, .int .i64 p], .int .i64 L, .int .i64 K] w (POSTG w 0 0 [] 0 1) := by
  obtain ⟨hR, hA⟩ := fg_start w d p _ rfl
  have HF := Lib.hid (fun w => l01Ok_eq d p false hf w)
  clear hf
  go_enter Try.func39, Try.ntmps39
  go_wp2_with fail
  refine (HF.out _).mono ?_
  rintro e w1 ⟨rfl, hb⟩
  have hR1 := hR.below hb
  have hA1 := hA.next hb
  have r0 := hR1.cell 0 _ rfl; have r1 := hR1.cell 1 _ rfl; have r2 := hR1.cell 2 _ rfl; have r3 := hR1.cell 3 _ rfl
  have g0 := hR1.free 0 (by simp); have g1 := hR1.free 1 (by simp); have g2 := hR1.free 2 (by simp); have g3 := hR1.free 3 (by simp)
  have HR1 := Lib.hid hR1
  have HB1 := Lib.hid hA1.b
  clear hb hR hA hR1 hA1
  go_wp2_with fail
  exact bodyPost_ret (v := .tuple #[.agg (gabC 0 0 (.slice none 0 0) 0), .int .i64 1]) (gab_results (p := 6) (u := 7) (fn := Try.f39) rfl _ rfl (HR1.out.four _ _ _ _)) rfl ⟨_, rfl, below_four HB1.out (by omega) _ _ _ _, .nil none 0⟩

set_option maxHeartbeats 1600000 in
theorem specFirstGabidulin_B (m P n : Nat) (hF : Fld m P n) (L K : Int) (h : ¬ (1 ≤ L ∧ L ≤ (m : Int) ∧ 1 ≤ K ∧ K ≤ L)) (w : World) :
    Calls Try.prog 39 #[.agg #[.int .i64 m, .int .i64 P], .int .i64 L, .int .i64 K] w (POSTG w 0 0 [] 0 2) := by
  obtain ⟨hR, hA⟩ := fg_start w m P _ rfl
  have HF := Lib.hid (fun w => l01Ok_eq m P true (fldI_of hF.f) w)
  by_cases hL : 1 ≤ L ∧ L ≤ (m : Int)
  all_goals
    first
      | have HL := Lib.hid (fun w => l00In_yes L 1 m hL.1 hL.2 w)
        have HK := Lib.hid (fun w => l00In_no K 1 L (by omega) w)
      | have HL := Lib.hid (fun w => l00In_no L 1 m (by omega) w)
        have HK := HL
    clear hL h
    go_enter Try.func39, Try.ntmps39
    go_wp2_with fail
    refine (HF.out _).mono ?_
    rintro e w1 ⟨rfl, hb⟩
    have hR1 := hR.below hb
    have hA1 := hA.next hb
    have q0 := hA1.c0
    have r0 := hR1.cell 0 _ rfl; have r1 := hR1.cell 1 _ rfl; have r2 := hR1.cell 2 _ rfl; have r3 := hR1.cell 3 _ rfl
    have g0 := hR1.free 0 (by simp); have g1 := hR1.free 1 (by simp); have g2 := hR1.free 2 (by simp); have g3 := hR1.free 3 (by simp)
    have HR1 := Lib.hid hR1
    have HB1 := Lib.hid hA1.b
    clear hb hR hA hR1 hA1
    go_wp2_with (go_at_call 78; first | (with_reducible refine (HL.out _).mono ?_; rintro e w' ⟨rfl, rfl⟩) | (with_reducible refine (HK.out _).mono ?_; rintro e w' ⟨rfl, rfl⟩))
    exact bodyPost_ret (v := .tuple #[.agg (gabC 0 0 (.slice none 0 0) 0), .int .i64 2]) (gab_results (p := 6) (u := 7) (fn := Try.f39) rfl _ rfl (HR1.out.four _ _ _ _)) rfl ⟨_, rfl, below_four HB1.out (by omega) _ _ _ _, .nil none 0⟩

set_option maxHeartbeats 3200000 in
theorem specFirstGabidulin_C (m P n : Nat) (hF : Fld m P n) (L K : Nat) (h1 : 1 ≤ L) (h2 : L ≤ m) (h3 : 1 ≤ K) (h4 : K ≤ L) (w : World) :
    Calls Try.prog 39 #[.agg #[.int .i64 m, .int .i64 P], .int .i64 L, .int .i64 K] w (POSTG w m P (ints (uns L)) K 0) := by
  have hm5 := hF.m5
  obtain ⟨hR, hA⟩ := fg_start w m P _ rfl
  have HF := Lib.hid (fun w => l01Ok_eq m P true (fldI_of hF.f) w)
  have HL := Lib.hid (fun w => l00In_yes L 1 m (by omega) (by omega) w)
  have HK := Lib.hid (fun w => l00In_yes K 1 L (by omega) (by omega) w)
  have HFI := Lib.hid (fun w => l05First_any L (by omega) w)
  go_enter Try.func39, Try.ntmps39
  go_wp2_with fail
  refine (HF.out _).mono ?_
  rintro e w1 ⟨rfl, hb⟩
  have hR1 := hR.below hb
  have hA1 := hA.next hb
  have q0 := hA1.c0; have q1 := hA1.c1
  have HRD := Lib.hid (hR1.below (Below.refl _ w1).drew)
  have HAD := Lib.hid hA1.drew
  have HZ1 := Lib.hid (show w.heap.size + 1 < w1.drew.heap.size from hR1.lt)
  clear hb hR hA hR1 hA1
  go_wp2_with (go_at_call 78; first | (with_reducible refine (HL.out _).mono ?_; rintro e w' ⟨rfl, rfl⟩) | (with_reducible refine (HK.out _).mono ?_; rintro e w' ⟨rfl, rfl⟩))
  go_region_law (go_simp; go_wp2_with (go_at_call 79; refine (HFI.out _).mono ?_; rintro e w2 ⟨D, cd, rfl, hb, hO⟩; have HR2 := Lib.hid (HRD.out.below hb); have HA2 := Lib.hid (HAD.out.next hb); have s0 := HA2.out.c0; have s1 := HA2.out.c1; have r0 := HR2.out.cell 0 _ rfl; have r1 := HR2.out.cell 1 _ rfl; have r2 := HR2.out.cell 2 _ rfl; have r3 := HR2.out.cell 3 _ rfl; have g0 := HR2.out.free 0 (by simp); have g1 := HR2.out.free 1 (by simp); have g2 := HR2.out.free 2 (by simp); have g3 := HR2.out.free 3 (by simp); have HO := Lib.hid hO; clear hb hO))
  all_goals
    obtain ⟨g, rfl, hBg, hM⟩ := HO.out.mtX (by omega) (by omega)
    have hz := HZ1.out
    have HM := Lib.hid hM
    clear hM s0 s1 r0 r1 r2 r3 g0 g1 g2 g3 q0 q1
    go_wp2_with fail
    exact bodyPost_ret (v := .tuple #[.agg (gabC m P (.slice (some ⟨g, 0, none⟩) L cd) K), .int .i64 0]) (gab_results (p := 6) (u := 7) (fn := Try.f39) rfl _ rfl (HR2.out.four _ _ _ _)) rfl ⟨_, rfl, below_four HA2.out.b (by omega) _ _ _ _, (HM.out.four (by omega) _ _ _ _).res (by omega)⟩

set_option maxHeartbeats 1600000 in
theorem implFirstGabidulin_A (d p L K : Int) (hf : fldI d p = false) (hl : -9223372036854775808 ≤ p) (hh : p ≤ 9223372036854775807) (w : World) :
    Calls Try.prog 40 #[.agg #[.int .i64 d, .int .i64 p], .int .i64 L, .int .i64 K] w (POSTG w 0 0 [] 0 1) := by
  obtain ⟨hR, hA⟩ := fg_start w d p _ rfl
  have HF := Lib.hid (fun v w => calculatorFor_invalid d p hf hl hh v w)
  clear hf
  go_enter Try.func40, Try.ntmps40
  go_wp2_with fail
  refine (HF.out _ _).mono ?_
  rintro e w1 ⟨rfl, hb⟩
  have hR1 := hR.below hb
  have hA1 := hA.next hb
  have r0 := hR1.cell 0 _ rfl; have r1 := hR1.cell 1 _ rfl; have r2 := hR1.cell 2 _ rfl; have r3 := hR1.cell 3 _ rfl
  have g0 := hR1.free 0 (by simp); have g1 := hR1.free 1 (by simp); have g2 := hR1.free 2 (by simp); have g3 := hR1.free 3 (by simp)
  have HR1 := Lib.hid hR1
  have HB1 := Lib.hid hA1.b
  clear hb hR hA hR1 hA1
  go_wp2_with fail
  exact bodyPost_ret (v := .tuple #[.agg (gabC 0 0 (.slice none 0 0) 0), .int .i64 1]) (gab_results (p := 6) (u := 7) (fn := Try.f40) rfl _ rfl (HR1.out.four _ _ _ _)) rfl ⟨_, rfl, below_four HB1.out (by omega) _ _ _ _, .nil none 0⟩

set_option maxHeartbeats 1600000 in
theorem implFirstGabidulin_B (m P n : Nat) (hF : Fld m P n) (L K : Int) (h : ¬ (1 ≤ L ∧ L ≤ (m : Int) ∧ 1 ≤ K ∧ K ≤ L)) (w : World) :
    Calls Try.prog 40 #[.agg #[.int .i64 m, .int .i64 P], .int .i64 L, .int .i64 K] w (POSTG w 0 0 [] 0 2) := by
  obtain ⟨hR, hA⟩ := fg_start w m P _ rfl
  have HF := Lib.hid (fun w => calculatorFor_C m P _ hF w none 0 0 [] (arg_nil _) (by omega) rfl)
  by_cases hL : (m : Int) < L
  rotate_left
  · by_cases hK : K < 1
    rotate_left
    · have hKL : L < K := by omega
      clear h
      go_enter Try.func40, Try.ntmps40
      go_wp2_with fail
      refine (HF.out _).mono ?_
      rintro e w1 ⟨c, rfl, hb, hC, _⟩
      have hR1 := hR.below hb
      have hA1 := hA.next hb
      have hdg := hC.deg
      have r0 := hR1.cell 0 _ rfl; have r1 := hR1.cell 1 _ rfl; have r2 := hR1.cell 2 _ rfl; have r3 := hR1.cell 3 _ rfl
      have g0 := hR1.free 0 (by simp); have g1 := hR1.free 1 (by simp); have g2 := hR1.free 2 (by simp); have g3 := hR1.free 3 (by simp)
      have HR1 := Lib.hid hR1
      have HB1 := Lib.hid hA1.b
      clear hb hR hA hR1 hA1 hC
      go_wp2_with fail
      exact bodyPost_ret (v := .tuple #[.agg (gabC 0 0 (.slice none 0 0) 0), .int .i64 2]) (gab_results (p := 6) (u := 7) (fn := Try.f40) rfl _ rfl (HR1.out.four _ _ _ _)) rfl ⟨_, rfl, below_four HB1.out (by omega) _ _ _ _, .nil none 0⟩
    · clear h
      go_enter Try.func40, Try.ntmps40
      go_wp2_with fail
      refine (HF.out _).mono ?_
      rintro e w1 ⟨c, rfl, hb, hC, _⟩
      have hR1 := hR.below hb
      have hA1 := hA.next hb
      have hdg := hC.deg
      have r0 := hR1.cell 0 _ rfl; have r1 := hR1.cell 1 _ rfl; have r2 := hR1.cell 2 _ rfl; have r3 := hR1.cell 3 _ rfl
      have g0 := hR1.free 0 (by simp); have g1 := hR1.free 1 (by simp); have g2 := hR1.free 2 (by simp); have g3 := hR1.free 3 (by simp)
      have HR1 := Lib.hid hR1
      have HB1 := Lib.hid hA1.b
      clear hb hR hA hR1 hA1 hC
      go_wp2_with fail
      exact bodyPost_ret (v := .tuple #[.agg (gabC 0 0 (.slice none 0 0) 0), .int .i64 2]) (gab_results (p := 6) (u := 7) (fn := Try.f40) rfl _ rfl (HR1.out.four _ _ _ _)) rfl ⟨_, rfl, below_four HB1.out (by omega) _ _ _ _, .nil none 0⟩
  · clear h
    go_enter Try.func40, Try.ntmps40
    go_wp2_with fail
    refine (HF.out _).mono ?_
    rintro e w1 ⟨c, rfl, hb, hC, _⟩
    have hR1 := hR.below hb
    have hA1 := hA.next hb
    have hdg := hC.deg
    have r0 := hR1.cell 0 _ rfl; have r1 := hR1.cell 1 _ rfl; have r2 := hR1.cell 2 _ rfl; have r3 := hR1.cell 3 _ rfl
    have g0 := hR1.free 0 (by simp); have g1 := hR1.free 1 (by simp); have g2 := hR1.free 2 (by simp); have g3 := hR1.free 3 (by simp)
    have HR1 := Lib.hid hR1
    have HB1 := Lib.hid hA1.b
    clear hb hR hA hR1 hA1 hC
    go_wp2_with fail
    exact bodyPost_ret (v := .tuple #[.agg (gabC 0 0 (.slice none 0 0) 0), .int .i64 2]) (gab_results (p := 6) (u := 7) (fn := Try.f40) rfl _ rfl (HR1.out.four _ _ _ _)) rfl ⟨_, rfl, below_four HB1.out (by omega) _ _ _ _, .nil none 0⟩

set_option maxHeartbeats 3200000 in
theorem implFirstGabidulin_C (m P n : Nat) (hF : Fld m P n) (L K : Nat) (h1 : 1 ≤ L) (h2 : L ≤ m) (h3 : 1 ≤ K) (h4 : K ≤ L) (w : World) :
    Calls Try.prog 40 #[.agg #[.int .i64 m, .int .i64 P], .int .i64 L, .int .i64 K] w (POSTG w m P (ints (uns L)) K 0) := by
  have hm5 := hF.m5
  obtain ⟨hR, hA⟩ := fg_start w m P _ rfl
  have HF := Lib.hid (fun w => calculatorFor_C m P _ hF w none 0 0 [] (arg_nil _) (by omega) rfl)
  have HU := Lib.hid (fun c w hD => units_any c m P n hF w hD)
  go_enter Try.func40, Try.ntmps40
  go_wp2_with fail
  refine (HF.out _).mono ?_
  rintro e w1 ⟨c, rfl, hb, hC, _⟩
  have hR1 := hR.below hb
  have hA1 := hA.next hb
  have hdg := hC.deg
  have HDG := Lib.hid (show w1.drew.cell? ⟨c, 0, none⟩ = some (.int .i64 m) from hdg)
  have q0 := hA1.c0; have q1 := hA1.c1
  have HRD := Lib.hid (hR1.below (Below.refl _ w1).drew)
  have HAD := Lib.hid hA1.drew
  have HZ1 := Lib.hid (show w.heap.size + 1 < w1.drew.heap.size from hR1.lt)
  clear hb hR hA hR1 hA1 hC
  go_wp2_with fail
  go_region_law (go_simp; go_wp2_with (go_at_call 80; refine (HU.out c _ HDG.out).mono ?_; rintro e w2 ⟨g, rfl, hg, hb, hW⟩; have HR2 := Lib.hid (HRD.out.below hb); have HA2 := Lib.hid (HAD.out.next hb); have s0 := HA2.out.c0; have s1 := HA2.out.c1; have r0 := HR2.out.cell 0 _ rfl; have r1 := HR2.out.cell 1 _ rfl; have r2 := HR2.out.cell 2 _ rfl; have r3 := HR2.out.cell 3 _ rfl; have g0 := HR2.out.free 0 (by simp); have g1 := HR2.out.free 1 (by simp); have g2 := HR2.out.free 2 (by simp); have g3 := HR2.out.free 3 (by simp); have HW := Lib.hid hW; have HG := Lib.hid hg; clear hb hW hg))
  all_goals
    have hM := HW.out.mtX (k := L) (by omega) (by omega)
    have hz := HZ1.out
    have hg := HG.out
    have HM := Lib.hid hM
    clear hM s0 s1 r0 r1 r2 r3 g0 g1 g2 g3 q0 q1
    go_wp2_with fail
    exact bodyPost_ret (v := .tuple #[.agg (gabC m P (.slice (some ⟨g, 0, none⟩) L m) K), .int .i64 0]) (gab_results (p := 6) (u := 7) (fn := Try.f40) rfl _ rfl (HR2.out.four _ _ _ _)) rfl ⟨_, rfl, below_four HA2.out.b (by omega) _ _ _ _, (HM.out.four (by omega) _ _ _ _).res (by omega)⟩

theorem specFirstGabidulin_any (d p L K : Int) (w : World) :
    Calls Try.prog 39 #[.agg #[.int .i64 d, .int .i64 p], .int .i64 L, .int .i64 K] w (POSTG w (fFirstGabidulin d p L K).1 (fFirstGabidulin d p L K).2.1 (fFirstGabidulin d p L K).2.2.1 (fFirstGabidulin d p L K).2.2.2.1 (fFirstGabidulin d p L K).2.2.2.2) := by
  cases hf : fldI d p with
  | false => rw [fFG_A hf]; exact specFirstGabidulin_A d p L K hf w
  | true =>
    obtain ⟨m, P, rfl, rfl, hF⟩ := fldI_nat hf
    have hF := Fld.of hF
    by_cases h : 1 ≤ L ∧ L ≤ (m : Int) ∧ 1 ≤ K ∧ K ≤ L
    · obtain ⟨L, rfl⟩ := Int.eq_ofNat_of_zero_le (by omega : 0 ≤ L)
      obtain ⟨K, rfl⟩ := Int.eq_ofNat_of_zero_le (by omega : 0 ≤ K)
      rw [fFG_C hF (by omega) (by omega) (by omega) (by omega)]; exact specFirstGabidulin_C m P _ hF L K (by omega) (by omega) (by omega) (by omega) w
    · rw [fFG_B hF h]; exact specFirstGabidulin_B m P _ hF L K h w
theorem implFirstGabidulin_any (d p L K : Int) (hl : -9223372036854775808 ≤ p) (hh : p ≤ 9223372036854775807) (w : World) :
    Calls Try.prog 40 #[.agg #[.int .i64 d, .int .i64 p], .int .i64 L, .int .i64 K] w (POSTG w (fFirstGabidulin d p L K).1 (fFirstGabidulin d p L K).2.1 (fFirstGabidulin d p L K).2.2.1 (fFirstGabidulin d p L K).2.2.2.1 (fFirstGabidulin d p L K).2.2.2.2) := by
  cases hf : fldI d p with
  | false => rw [fFG_A hf]; exact implFirstGabidulin_A d p L K hf hl hh w
  | true =>
    obtain ⟨m, P, rfl, rfl, hF⟩ := fldI_nat hf
    have hF := Fld.of hF
    by_cases h : 1 ≤ L ∧ L ≤ (m : Int) ∧ 1 ≤ K ∧ K ≤ L
    · obtain ⟨L, rfl⟩ := Int.eq_ofNat_of_zero_le (by omega : 0 ≤ L)
      obtain ⟨K, rfl⟩ := Int.eq_ofNat_of_zero_le (by omega : 0 ≤ K)
      rw [fFG_C hF (by omega) (by omega) (by omega) (by omega)]; exact implFirstGabidulin_C m P _ hF L K (by omega) (by omega) (by omega) (by omega) w
    · rw [fFG_B hF h]; exact implFirstGabidulin_B m P _ hF L K h w
end Go.Proofs.Ytcdhdgflgdmhdaa
