/- DualWeights: the model's side. -/
import Derived.Test.YtlchelaohiojiabIn
import Derived.Test.YtlchelaohiojiabDwPure
import Derived.Test.YtlchelaohiojiabMtRes
import Derived.Test.YtlchelaohiojiabSv
import Derived.BigQuiet
import Derived.Test.YtlchelaohiojiabInv
namespace Go.Proofs.Ytlchelaohiojiab
open Go.RowKit Go.Joins
set_option linter.unusedVariables false

/-- The products of a Gaussian number: above and below. -/
def upY (n : Nat) : Nat → Nat
  | 0 => 1
  | i + 1 => upY n i * (2 ^ (n - i) - 1)
def dnY : Nat → Nat
  | 0 => 1
  | i + 1 => dnY i * (2 ^ (i + 1) - 1)
theorem udY_all : ∀ n : Fin 6, ∀ k : Fin 6, k.val ≤ n.val → upY n.val k.val / dnY k.val = gauss n.val k.val ∧ upY n.val k.val < 10000 ∧ dnY k.val < 10000 ∧ 0 < dnY k.val := by decide +kernel
theorem udY {n k : Nat} (hn : n ≤ 5) (hk : k ≤ n) : upY n k / dnY k = gauss n k ∧ upY n k < 10000 ∧ dnY k < 10000 ∧ 0 < dnY k := udY_all ⟨n, by omega⟩ ⟨k, by omega⟩ hk
theorem upY_all : ∀ n j : Fin 6, j.val < n.val → wrap64 ((upY n.val j.val : Nat) * wrap64 (wrap64 (2 ^ (n.val - j.val)) - 1)) = (upY n.val (j.val + 1) : Nat) ∧ wrap64 ((dnY j.val : Nat) * wrap64 (wrap64 (2 ^ (j.val + 1)) - 1)) = (dnY (j.val + 1) : Nat) := by decide +kernel
theorem upY_step {n j : Nat} (hn : n ≤ 5) (h : j < n) : wrap64 ((upY n j : Nat) * wrap64 (wrap64 (2 ^ (n - j)) - 1)) = (upY n (j + 1) : Nat) ∧ wrap64 ((dnY j : Nat) * wrap64 (wrap64 (2 ^ (j + 1)) - 1)) = (dnY (j + 1) : Nat) :=
  upY_all ⟨n, by omega⟩ ⟨j, by omega⟩ h
set_option maxHeartbeats 800000 in
theorem l04GaussY_any (n k : Nat) (hn : n ≤ 5) (hk : k ≤ n) (w : World) :
    Calls Try.prog 14 #[.int .i64 n, .int .i64 k] w fun e w' => e = .returned (.int .i64 (gauss n k : Nat)) ∧ w = w' := by
  go_enter Try.func14, Try.ntmps14
  go_wp2_with (go_at_call 10; refine (l00In_yes _ _ _ (by omega) (by omega) _).mono ?_; rintro e w' ⟨rfl, rfl⟩)
  go_loop [5, 6, 7] (fun u d i => ∃ j : Nat, j ≤ k ∧ i = .int .i64 j ∧ u = .int .i64 (upY n j : Nat) ∧ d = .int .i64 (dnY j : Nat)) (fun _ _ i => k - (intOf i).toNat)
  case atStart => exact ⟨0, Nat.zero_le _, rfl, rfl, rfl⟩
  case round =>
    obtain ⟨j, hj, rfl, rfl, rfl⟩ := hrel
    by_cases hlt : j < k
    · have HS := Lib.hid (upY_step hn (show j < n by omega))
      go_wp2
      go_round
      case rel => exact ⟨j + 1, by omega, by go_num, congrArg _ HS.out.1, congrArg _ HS.out.2⟩
      case measure => simp [intOf]; omega
    · obtain rfl : j = k := by omega
      obtain ⟨h1, h2, h3, h4⟩ := udY hn hk
      obtain ⟨u, hu⟩ : ∃ u, upY n j = u := ⟨_, rfl⟩
      obtain ⟨d, hd⟩ : ∃ d, dnY j = d := ⟨_, rfl⟩
      rw [hu, hd] at h1
      rw [hu] at h2 ⊢
      rw [hd] at h3 h4 ⊢
      have h5 : ¬ (d : Int) = 0 := by omega
      have HE := Lib.hid h1
      clear h1 hu hd
      go_wp2
      go_ret
      exact ⟨ret_int (by rw [← HE.out]; have h6 := Nat.div_le_self u d; have h7 : ((u / d : Nat) : Int) = (u : Int) / (d : Int) := Int.natCast_ediv u d; rw [← h7]; generalize u / d = q at h6 ⊢; unfold wrap64; omega), rfl⟩

theorem mm {a b : Int} {A B : Int} (h0 : 0 ≤ a) (h1 : a ≤ A) (h2 : 0 ≤ b) (h3 : b ≤ B) : 0 ≤ a * b ∧ a * b ≤ A * B :=
  ⟨Int.mul_nonneg h0 h2, Int.mul_le_mul h1 h3 h2 (by omega)⟩
theorem rr_at {j l : Int} (h : l ≤ j) (h0 : 0 ≤ l) (h5 : j ≤ 5) : 0 ≤ (j - l) * (j - l - 1) ∧ (j - l) * (j - l - 1) ≤ 20 := by
  obtain ⟨r, hr⟩ := Int.eq_ofNat_of_zero_le (show 0 ≤ j - l by omega)
  rw [hr]
  match r with
  | 0 => decide
  | 1 => decide
  | 2 => decide
  | 3 => decide
  | 4 => decide
  | 5 => decide
  | r + 6 => omega
theorem shD_int {m j l : Nat} (h : l ≤ j) (h5 : j ≤ 5) : ((m : Int) * (l : Int) + ((j : Int) - (l : Int)) * ((j : Int) - (l : Int) - 1) / 2).toNat = shD m j l := by
  obtain ⟨r, rfl⟩ : ∃ r, j = l + r := ⟨j - l, by omega⟩
  have e1 : ((l + r : Nat) : Int) - (l : Int) = r := by omega
  have e2 : (m : Int) * (l : Int) = ((m * l : Nat) : Int) := by rw [Int.natCast_mul]
  unfold shD
  rw [e1, e2, show l + r - l = r by omega]
  generalize m * l = M
  match r with
  | 0 => simp
  | 1 => simp
  | 2 => simp
  | 3 => simp; omega
  | 4 => simp; omega
  | 5 => simp; omega
  | r + 6 => omega
theorem wsh' {m j l : Nat} (hs : shD m j l < 32) : wrap64 ((2 : Int) ^ shD m j l) = ((2 ^ shD m j l : Nat) : Int) := by
  have h1 : 2 ^ shD m j l ≤ 2 ^ 31 := Nat.pow_le_pow_right (n := 2) (by omega) (by omega)
  have h2 : ((2 : Int) ^ shD m j l) = ((2 ^ shD m j l : Nat) : Int) := by simp
  rw [h2]
  generalize (2 ^ shD m j l : Nat) = X at h1 ⊢
  unfold wrap64
  omega
theorem wsh {m j l : Nat} (h : l ≤ j) (h5 : j ≤ 5) (hs : shD m j l < 32) : wrap64 (2 ^ ((m : Int) * (l : Int) + ((j : Int) - (l : Int)) * ((j : Int) - (l : Int) - 1) / 2).toNat) = ((2 ^ shD m j l : Nat) : Int) := by
  rw [shD_int h h5]; exact wsh' hs
theorem int_eq {a b : Int} (h : a = b) : Value.int .i64 a = .int .i64 b := by rw [h]
set_option maxHeartbeats 1600000 in
theorem l04Term_any (n m i j : Nat) (hm : m ≤ 5) (hnm : n ≤ m) (hi : i ≤ n) (hj : j ≤ n) (w : World) :
    Calls Try.prog 11 #[.int .i64 n, .int .i64 m, .int .i64 i, .int .i64 j] w fun e w' => e = .returned (.int .i64 (tD n m j i (toD n j i))) ∧ w = w' := by
  go_enter Try.func11, Try.ntmps11
  go_wp2_with fail
  go_loop [9, 10] (fun s q => ∃ l : Nat, l ≤ toD n j i ∧ s = .int .i64 (tD n m j i l) ∧ q = .int .i64 l) (fun _ q => 12 - (intOf q).toNat)
  case atStart => exact ⟨0, Nat.zero_le _, rfl, rfl⟩
  case round =>
    obtain ⟨l, hl, rfl, rfl⟩ := hrel
    by_cases hlt : l < toD n j i
    · have hlj : l ≤ j := by unfold toD at hlt; omega
      have hli : l ≤ n - i := by unfold toD at hlt; omega
      have h1 : (m : Int) * (l : Int) ≤ 5 * 5 := (mm (by omega) (by omega) (by omega) (by omega)).2
      have h2 : 0 ≤ (m : Int) * (l : Int) := (mm (A := 5) (B := 5) (by omega) (by omega) (by omega) (by omega)).1
      have h3 := rr_at (j := j) (l := l) (by omega) (by omega) (by omega)
      have hsub1 : (n : Int) - (l : Int) = ((n - l : Nat) : Int) := by omega
      have hsub2 : (n : Int) - (j : Int) = ((n - j : Nat) : Int) := by omega
      have hsub3 : (n : Int) - (i : Int) = ((n - i : Nat) : Int) := by omega
      obtain ⟨c1, c2, c3, c4⟩ := cf_at hm hnm hj hi hlj hli
      have ht0 := tD_at hm hnm hj hi hl
      have ht1 := tD_at (l := l + 1) hm hnm hj hi hlt
      have HG1 := Lib.hid (fun w => l04GaussY_any (n - l) (n - j) (by omega) (by omega) w)
      have HG2 := Lib.hid (fun w => l04GaussY_any (n - i) l (by omega) hli w)
      have hX := wsh hlj (show j ≤ 5 by omega) c4
      have hX' : wrap64 ((2 : Int) ^ (m * l + (j - l) * (j - l - 1) / 2)) = ((2 ^ shD m j l : Nat) : Int) := wsh' c4
      have hC : ((2 ^ shD m j l : Nat) : Int) * ((gauss (n - l) (n - j) : Int) * (gauss (n - i) l : Int)) = (cfD n m j i l : Nat) := by
        rw [← Int.natCast_mul, ← Int.natCast_mul]; congr 1; unfold cfD; exact Nat.mul_comm _ _
      have hstep : tD n m j i (l + 1) = tD n m j i l + sgD j l (cfD n m j i l : Nat) := rfl
      have h4 := (mm (a := (gauss (n - l) (n - j) : Int)) (b := (gauss (n - i) l : Int)) (A := 1023) (B := 1023) (by omega) (by omega) (by omega) (by omega))
      obtain ⟨g1, hg1⟩ : ∃ g, gauss (n - l) (n - j) = g := ⟨_, rfl⟩
      obtain ⟨g2, hg2⟩ : ∃ g, gauss (n - i) l = g := ⟨_, rfl⟩
      rw [hg1] at HG1 hC h4
      rw [hg2] at HG2 hC h4
      generalize (2 ^ shD m j l : Nat) = X at hX hX' hC
      generalize cfD n m j i l = C at hC c1 hstep
      have HX := Lib.hid hX; have HX' := Lib.hid hX'
      have HC := Lib.hid hC
      have HS := Lib.hid hstep
      have hB : 0 ≤ (X : Int) * ((g1 : Int) * (g2 : Int)) ∧ (X : Int) * ((g1 : Int) * (g2 : Int)) < 268435456 := by omega
      clear hX hX' hC hg1 hg2
      obtain ⟨T, hT⟩ : ∃ T, tD n m j i l = T := ⟨_, rfl⟩
      rw [hT] at ht0 HS hstep ⊢
      clear hT
      have HP := Lib.hid (⟨hlt, hlj, hli⟩ : l < toD n j i ∧ l ≤ j ∧ l ≤ n - i)
      by_cases hp : (j - l) % 2 = 1
      · have hpi : ((j : Int) - (l : Int)) % 2 = 1 := by omega
        have hsg : sgD j l (C : Nat) = -(C : Int) := if_pos hp
        rw [hsg] at hstep HS
        clear hsg
        go_wp2_with fail
        first | rw [HX.out] | rw [HX'.out]
        refine (HG1.out _).mono ?_
        rintro e w' ⟨rfl, rfl⟩
        go_wp2_with fail
        refine (HG2.out _).mono ?_
        rintro e w' ⟨rfl, rfl⟩
        go_wp2_with fail
        go_round
        case rel => exact ⟨l + 1, by omega, int_eq (by have := HS.out; have := HC.out; omega), by go_num⟩
        case measure => simp [intOf]; omega
      · have hpi : ¬ ((j : Int) - (l : Int)) % 2 = 1 := by omega
        have hsg : sgD j l (C : Nat) = (C : Int) := if_neg hp
        rw [hsg] at hstep HS
        clear hsg
        go_wp2_with fail
        first | rw [HX.out] | rw [HX'.out]
        refine (HG1.out _).mono ?_
        rintro e w' ⟨rfl, rfl⟩
        go_wp2_with fail
        refine (HG2.out _).mono ?_
        rintro e w' ⟨rfl, rfl⟩
        go_wp2_with fail
        go_round
        case rel => exact ⟨l + 1, by omega, int_eq (by have := HS.out; have := HC.out; omega), by go_num⟩
        case measure => simp [intOf]; omega
    · have he : l = toD n j i := by omega
      subst he
      generalize hq : tD n m j i (toD n j i) = T
      by_cases hc : j ≤ n - i
      · have h1 : ¬ ((toD n j i : Nat) : Int) ≤ (j : Int) := by unfold toD; omega
        go_wp2_with fail
        go_ret
        exact ⟨rfl, rfl⟩
      · have h1 : ((toD n j i : Nat) : Int) ≤ (j : Int) := by unfold toD; omega
        have h2 : ¬ ((toD n j i : Nat) : Int) ≤ (n : Int) - (i : Int) := by unfold toD; omega
        go_wp2_with fail
        go_ret
        exact ⟨rfl, rfl⟩
/-- The numbers' facts. -/
theorem smD_pos {zs : List Int} (hg : ∀ i, 0 ≤ wt zs i ∧ wt zs i ≤ 33554432) (h0 : wt zs 0 = 1) : ∀ i, 1 ≤ smD zs (i + 1)
  | 0 => by simp [smD, h0]
  | i + 1 => by have := smD_pos hg h0 i; have := hg (i + 1); rw [smD]; omega
theorem all_no {R : Nat} {p : Nat → Bool} {k : Nat} (hk : k ≤ R) (h : p k = false) : ¬ (List.range (R + 1)).all p = true := fun e => by
  rw [List.all_eq_true.1 e k (List.mem_range.2 (by omega))] at h; cases h
theorem all_yes {R : Nat} {p : Nat → Bool} (h : ∀ i, i < R + 1 → p i = true) : (List.range (R + 1)).all p = true :=
  List.all_eq_true.2 fun i hi => h i (List.mem_range.1 hi)
theorem ediv_le {D S : Int} (h0 : 0 ≤ D) (h1 : 1 ≤ S) : 0 ≤ D / S ∧ D / S ≤ D :=
  ⟨Int.ediv_nonneg h0 (by omega), Int.ediv_le_self S h0⟩
theorem wt_ok {zs : List Int} (h : zs.all okW = true) (k : Nat) : 0 ≤ wt zs k ∧ wt zs k ≤ 33554432 := by
  unfold wt
  by_cases hk : k < zs.length
  · rw [List.getElem?_eq_getElem hk, Option.getD_some]
    have := List.all_eq_true.1 h _ (List.getElem_mem hk)
    simpa [okW] using this
  · rw [List.getElem?_eq_none (by omega)]; simp
theorem wt_bad : ∀ {zs : List Int}, zs.all okW = false → ∃ t, t < zs.length ∧ ¬ (0 ≤ wt zs t ∧ wt zs t ≤ 33554432) ∧ ∀ k, k < t → 0 ≤ wt zs k ∧ wt zs k ≤ 33554432
  | [], h => by simp at h
  | x :: xs, h => by
    by_cases hx : okW x = true
    · rw [List.all_cons, hx, Bool.true_and] at h
      obtain ⟨t, h1, h2, h3⟩ := wt_bad h
      refine ⟨t + 1, by simp; exact h1, by simpa [wt] using h2, fun k hk => ?_⟩
      cases k with
      | zero => simpa [wt, okW] using hx
      | succ k => have := h3 k (by omega); simpa [wt] using this
    · exact ⟨0, by simp, by simpa [wt, okW] using hx, fun k hk => by omega⟩
set_option maxHeartbeats 1600000 in
theorem specDw_A (r c : Int) (b len cap : Nat) (zs : List Int) (w : World) (hM : Mt w b len zs) (h : ¬ (1 ≤ r ∧ r ≤ 5)) :
    Calls Try.prog 4 #[.int .i64 r, .int .i64 c, .slice (some ⟨b, 0, none⟩) len cap] w fun e w' => ∃ v, e = .returned (.tuple #[v, .int .i64 2]) ∧ Below w.heap.size w w' ∧ Res w' w.heap.size w'.heap.size v [] := by
  go_enter Try.func4, Try.ntmps4
  go_wp2_with (go_at_call 10; first | (with_reducible refine (l00In_no r 1 5 (by omega) _).mono ?_; rintro e w' ⟨rfl, rfl⟩))
  go_loop [8, 9, 10] (fun o s i => o = .bool false ∧ s = .int .i64 0 ∧ i = .int .i64 0) (fun _ _ _ => 0)
  case atStart => exact ⟨rfl, rfl, rfl⟩
  case round =>
    obtain ⟨rfl, rfl, rfl⟩ := hrel
    by_cases h0 : (0 : Int) < (len : Int)
    all_goals
      go_wp2_with fail
      go_ret2
      exact ⟨_, rfl, below_alloc1 w _, .nil _ _⟩
set_option maxHeartbeats 1600000 in
theorem specDw_B (r c : Int) (b len cap : Nat) (zs : List Int) (w : World) (hM : Mt w b len zs) (h : 1 ≤ r ∧ r ≤ 5) (h2 : ¬ (1 ≤ c ∧ c ≤ 5)) :
    Calls Try.prog 4 #[.int .i64 r, .int .i64 c, .slice (some ⟨b, 0, none⟩) len cap] w fun e w' => ∃ v, e = .returned (.tuple #[v, .int .i64 2]) ∧ Below w.heap.size w w' ∧ Res w' w.heap.size w'.heap.size v [] := by
  go_enter Try.func4, Try.ntmps4
  go_wp2_with (go_at_call 10; first | (with_reducible refine (l00In_no c 1 5 (by omega) _).mono ?_; rintro e w' ⟨rfl, rfl⟩) | (with_reducible refine (l00In_yes r 1 5 (by omega) (by omega) _).mono ?_; rintro e w' ⟨rfl, rfl⟩))
  go_loop [8, 9, 10] (fun o s i => o = .bool false ∧ s = .int .i64 0 ∧ i = .int .i64 0) (fun _ _ _ => 0)
  case atStart => exact ⟨rfl, rfl, rfl⟩
  case round =>
    obtain ⟨rfl, rfl, rfl⟩ := hrel
    by_cases h0 : (0 : Int) < (len : Int)
    all_goals
      go_wp2_with fail
      go_ret2
      exact ⟨_, rfl, below_alloc1 w _, .nil _ _⟩
set_option maxHeartbeats 1600000 in
theorem specDw_C (r c : Int) (b len cap : Nat) (zs : List Int) (w : World) (hM : Mt w b len zs) (h : 1 ≤ r ∧ r ≤ 5) (h2 : 1 ≤ c ∧ c ≤ 5) (h3 : ¬ (len : Int) = r + 1) :
    Calls Try.prog 4 #[.int .i64 r, .int .i64 c, .slice (some ⟨b, 0, none⟩) len cap] w fun e w' => ∃ v, e = .returned (.tuple #[v, .int .i64 2]) ∧ Below w.heap.size w w' ∧ Res w' w.heap.size w'.heap.size v [] := by
  go_enter Try.func4, Try.ntmps4
  go_wp2_with (go_at_call 10; first | (with_reducible refine (l00In_yes c 1 5 (by omega) (by omega) _).mono ?_; rintro e w' ⟨rfl, rfl⟩) | (with_reducible refine (l00In_yes r 1 5 (by omega) (by omega) _).mono ?_; rintro e w' ⟨rfl, rfl⟩))
  go_loop [8, 9, 10] (fun o s i => o = .bool false ∧ s = .int .i64 0 ∧ i = .int .i64 0) (fun _ _ _ => 0)
  case atStart => exact ⟨congrArg Value.bool (by simpa using h3), rfl, rfl⟩
  case round =>
    obtain ⟨rfl, rfl, rfl⟩ := hrel
    by_cases h0 : (0 : Int) < (len : Int)
    all_goals
      go_wp2_with fail
      go_ret2
      exact ⟨_, rfl, below_alloc1 w _, .nil _ _⟩
set_option maxHeartbeats 1600000 in
theorem specDw_D (r c : Int) (b len cap : Nat) (zs : List Int) (w : World) (hM : Mt w b len zs) (h : 1 ≤ r ∧ r ≤ 5) (h2 : 1 ≤ c ∧ c ≤ 5) (h3 : (len : Int) = r + 1) (t : Nat) (ht : t < len) (hb : ¬ (0 ≤ wt zs t ∧ wt zs t ≤ 33554432)) (hg : ∀ k, k < t → 0 ≤ wt zs k ∧ wt zs k ≤ 33554432) :
    Calls Try.prog 4 #[.int .i64 r, .int .i64 c, .slice (some ⟨b, 0, none⟩) len cap] w fun e w' => ∃ v, e = .returned (.tuple #[v, .int .i64 2]) ∧ Below w.heap.size w w' ∧ Res w' w.heap.size w'.heap.size v [] := by
  have HM := Lib.hid hM
  clear hM
  go_enter Try.func4, Try.ntmps4
  go_wp2_with (go_at_call 10; first | (with_reducible refine (l00In_yes c 1 5 (by omega) (by omega) _).mono ?_; rintro e w' ⟨rfl, rfl⟩) | (with_reducible refine (l00In_yes r 1 5 (by omega) (by omega) _).mono ?_; rintro e w' ⟨rfl, rfl⟩))
  go_loop [8, 9, 10] (fun o s i => ∃ (k : Nat) (x : Int), i = .int .i64 k ∧ s = .int .i64 x ∧ ((o = .bool true ∧ k ≤ t) ∨ (o = .bool false ∧ k = t + 1))) (fun _ _ i => t + 2 - (intOf i).toNat)
  case atStart => exact ⟨0, 0, rfl, rfl, .inl ⟨rfl, Nat.zero_le _⟩⟩
  case round =>
    obtain ⟨k, x, rfl, rfl, h4 | h4⟩ := hrel
    · obtain ⟨rfl, hk⟩ := h4
      have hc : w.cell? ⟨b, k, none⟩ = some (.int .i64 (wt zs k)) := HM.out.cell k (by omega)
      have hgk := hg k
      by_cases hkt : k = t
      · subst hkt
        generalize wt zs k = y at hc hb
        clear hgk hg
        go_wp2_with (go_at_call 10; refine (l00In_no y 0 33554432 (by omega) _).mono ?_; rintro e w' ⟨rfl, rfl⟩)
        go_round
        case rel => exact ⟨k + 1, _, by go_num, rfl, .inr ⟨rfl, rfl⟩⟩
        case measure => simp [intOf] <;> omega
      · have hgk2 := hgk (by omega)
        generalize wt zs k = y at hc hgk2
        clear hgk hg
        go_wp2_with (go_at_call 10; refine (l00In_yes y 0 33554432 (by omega) (by omega) _).mono ?_; rintro e w' ⟨rfl, rfl⟩)
        go_round
        case rel => exact ⟨k + 1, _, by go_num, rfl, .inl ⟨rfl, by omega⟩⟩
        case measure => simp [intOf] <;> omega
    · obtain ⟨rfl, rfl⟩ := h4
      by_cases h0 : ((t + 1 : Nat) : Int) < (len : Int)
      all_goals
        go_wp2_with fail
        go_ret2
        exact ⟨_, rfl, below_alloc1 w _, .nil _ _⟩
set_option maxRecDepth 100000 in
set_option maxHeartbeats 3200000 in
theorem specDw_E (R C : Nat) (h : 1 ≤ R ∧ R ≤ 5) (h2 : 1 ≤ C ∧ C ≤ 5) (b len cap : Nat) (h3 : len = R + 1) (zs : List Int) (w : World) (hM : Mt w b len zs) (ha : zs.all okW = true) (h4 : ¬ R ≤ C ∨ ¬ wt zs 0 = 1) :
    Calls Try.prog 4 #[.int .i64 R, .int .i64 C, .slice (some ⟨b, 0, none⟩) len cap] w fun e w' => ∃ v, e = .returned (.tuple #[v, .int .i64 4]) ∧ Below w.heap.size w w' ∧ Res w' w.heap.size w'.heap.size v [] := by
  have hg := wt_ok ha
  have hS := fun k => smD_at hg k
  have HM := Lib.hid hM
  have hc0 : w.cell? ⟨b, 0, none⟩ = some (.int .i64 (wt zs 0)) := hM.cell 0 (by omega)
  clear hM
  generalize wt zs 0 = y0 at hc0 h4
  go_enter Try.func4, Try.ntmps4
  go_wp2_with (go_at_call 10; first | (with_reducible refine (l00In_yes C 1 5 (by omega) (by omega) _).mono ?_; rintro e w' ⟨rfl, rfl⟩) | (with_reducible refine (l00In_yes R 1 5 (by omega) (by omega) _).mono ?_; rintro e w' ⟨rfl, rfl⟩))
  go_loop [8, 9, 10] (fun o s i => ∃ k : Nat, k ≤ len ∧ i = .int .i64 k ∧ s = .int .i64 (smD zs k) ∧ o = .bool true) (fun _ _ i => len - (intOf i).toNat)
  case atStart => exact ⟨0, Nat.zero_le _, rfl, rfl, congrArg Value.bool (by simp)⟩
  case round =>
    obtain ⟨k, hk, rfl, rfl, rfl⟩ := hrel
    by_cases hlt : k < len
    · have hc : w.cell? ⟨b, k, none⟩ = some (.int .i64 (wt zs k)) := HM.out.cell k hlt
      have hgk := hg k
      have hsk := hS k
      have HE := Lib.hid (show smD zs (k + 1) = smD zs k + wt zs k from rfl)
      generalize smD zs k = x at hsk HE ⊢
      generalize wt zs k = y at hc hgk HE
      clear hg hS
      go_wp2_with (go_at_call 10; refine (l00In_yes y 0 33554432 (by omega) (by omega) _).mono ?_; rintro e w' ⟨rfl, rfl⟩)
      go_round
      case rel => exact ⟨k + 1, by omega, by go_num, by rw [HE.out], rfl⟩
      case measure => simp [intOf] <;> omega
    · obtain rfl : k = len := by omega
      by_cases h5 : R ≤ C
      · have h6 : ¬ y0 = 1 := by omega
        have h7 : (y0 == 1) = false := by simpa using h6
        have h8 : (y0 != 1) = true := by simpa using h6
        go_wp2_with fail
        go_ret2
        exact ⟨_, rfl, below_alloc1 w _, .nil _ _⟩
      · go_wp2_with fail
        go_ret2
        exact ⟨_, rfl, below_alloc1 w _, .nil _ _⟩
end Go.Proofs.Ytlchelaohiojiab
