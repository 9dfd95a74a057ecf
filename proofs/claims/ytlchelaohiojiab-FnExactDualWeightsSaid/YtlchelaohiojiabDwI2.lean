/- DualWeights: the program's side. -/
import Derived.Test.YtlchelaohiojiabDwI
import Derived.Test.YtlchelaohiojiabWr
import Derived.Deep.MidRow
namespace Go.Proofs.Ytlchelaohiojiab
open Go.RowKit Go.Joins
set_option linter.unusedVariables false

/-- Six numbers of an array at the block q. -/
def a6 (f : Nat → Int) : Array Value := #[.int .i64 (f 0), .int .i64 (f 1), .int .i64 (f 2), .int .i64 (f 3), .int .i64 (f 4), .int .i64 (f 5)]
theorem a6_list (f : Nat → Int) : (a6 f).toList = (List.range 6).map fun j => Value.int .i64 (f j) := rfl
theorem a6_get (f : Nat → Int) {j : Nat} (h : j < 6) : (a6 f)[j]? = some (.int .i64 (f j)) := by
  rw [← Array.getElem?_toList, a6_list, List.getElem?_map, List.getElem?_range h]; rfl
theorem a6_size (f : Nat → Int) : (a6 f).size = 6 := rfl
theorem Try.info6 : (Try.prog.info? 33).map (·.size) = some 6 := by kernel_rfl
structure A6 (W : World) (q : Nat) (f : Nat → Int) : Prop where
  cell : ∀ j, j < 6 → W.cell? ⟨q, j, none⟩ = some (.int .i64 (f j))
  free : ∀ j, j < 6 → W.frozen? ⟨q, j, none⟩ = false
  lt : q < W.heap.size
theorem A6.below {W W' : World} {q : Nat} {f : Nat → Int} (h : A6 W q f) (hb : Below W.heap.size W W') : A6 W' q f :=
  ⟨fun j hj => (hb.cell (p := ⟨q, j, none⟩) h.lt).trans (h.cell j hj), fun j hj => (hb.frozen (p := ⟨q, j, none⟩) h.lt).trans (h.free j hj), Nat.lt_of_lt_of_le h.lt hb.size⟩
theorem A6.other {W : World} {q : Nat} {f : Nat → Int} (h : A6 W q f) {p : Addr} (hp : q ≠ p.block) (v : Value) : A6 (W.setCell p v) q f :=
  ⟨fun j hj => by rw [World.cell?_of_block (w := W) (a := ⟨q, j, none⟩) (Below.heap_setCell W p v q hp)]; exact h.cell j hj, fun j hj => by rw [World.frozen?_setCell]; exact h.free j hj, by show q < (Array.modify _ _ _).size; rw [Array.size_modify]; exact h.lt⟩
theorem A6.set {W : World} {q : Nat} {f : Nat → Int} (h : A6 W q f) (i : Nat) (hi : i < 6) (x : Int) (g : Nat → Int) (hx : g i = x) (hg : ∀ j, j ≠ i → g j = f j) : A6 (W.setCell ⟨q, i, none⟩ (.int .i64 x)) q g := by
  refine ⟨fun j hj => ?_, fun j hj => by rw [World.frozen?_setCell]; exact h.free j hj, by rw [show (W.setCell ⟨q, i, none⟩ (.int .i64 x)).heap.size = W.heap.size from Array.size_modify ..]; exact h.lt⟩
  by_cases e : j = i
  · subst e
    rw [hx]
    exact World.cell?_setCell_same' _ _ _ (by rw [h.cell j hj]; rfl)
  · rw [hg j e, World.cell?_setCell_other _ ⟨q, i, none⟩ ⟨q, j, none⟩ _ (fun h => e (by injection h with _ h _; omega))]
    exact h.cell j hj
theorem A6.start (W : World) (f : Nat → Int) (T : TypeId) : A6 (W.alloc (.cells (a6 f) T)) W.heap.size f := by
  refine ⟨fun j hj => ?_, fun j hj => ?_, by simp⟩
  · rw [World.cell?_alloc_at _ _ _ _ rfl]; exact a6_get f hj
  · rw [World.frozen?_alloc_at _ _ _ _ rfl]
theorem A6.congr {W : World} {q : Nat} {f g : Nat → Int} (h : A6 W q f) (e : ∀ j, j < 6 → g j = f j) : A6 W q g :=
  ⟨fun j hj => by rw [e j hj]; exact h.cell j hj, h.free, h.lt⟩
theorem A6.range {W : World} {q : Nat} {f : Nat → Int} (h : A6 W q f) : W.rangeAt q 0 (a6 f).toList := by
  intro j v hv
  rw [Nat.zero_add]
  have hv' : (a6 f)[j]? = some v := by simpa using hv
  have hj : j < 6 := by
    have := (Array.getElem?_eq_some_iff.1 hv').1
    simpa [a6_size] using this
  rw [h.cell j hj, ← a6_get f hj]; exact hv'
theorem a6_load {ops : Array Oper} {rest : List Oper} {op : Oper} {a : Act} {w : World} {Q : Exit → Act → World → Prop} (hgd : op.guard = none) (x : Operand) (ho : op.op = .load 33 x)
    (q : Nat) (f : Nat → Int) (hx : a.eval x = .pointer (some ⟨q, 0, none⟩)) (hA : A6 w q f) (h : wpList Try.prog ops Q rest (a.put op.dst (.agg (a6 f))) w) : wpList Try.prog ops Q (op :: rest) a w :=
  wpList_load_mid hgd 33 x ho q 0 hx (a6 f).toList _ hA.range Try.underlying33 rfl Try.info6 h
theorem dsD_congr {n m j : Nat} {a b : List Int} : ∀ k, (∀ i, i < k → wt a i = wt b i) → dsD n m j a k = dsD n m j b k
  | 0, _ => rfl
  | k + 1, h => by rw [dsD, dsD, dsD_congr k (fun i hi => h i (by omega)), h k (by omega)]
theorem six_wt (zs : List Int) : ∀ i, i < 6 → wt [wt zs 0, wt zs 1, wt zs 2, wt zs 3, wt zs 4, wt zs 5] i = wt zs i
  | 0, _ => rfl
  | 1, _ => rfl
  | 2, _ => rfl
  | 3, _ => rfl
  | 4, _ => rfl
  | 5, _ => rfl
  | i + 6, h => by omega
theorem six_beyond (x0 x1 x2 x3 x4 x5 : Int) (i : Nat) (h : 6 ≤ i) : wt [x0, x1, x2, x3, x4, x5] i = 0 := by
  rw [wt, List.getElem?_eq_none (by simpa using h)]; rfl
/-- The program's sum over the array. -/
theorem dualSum_zs (n m j : Nat) (hm : m ≤ 5) (hnm : n ≤ m) (hj : j ≤ n) (zs : List Int) (hw : ∀ i, 0 ≤ wt zs i ∧ wt zs i ≤ 33554432) (w : World) :
    Calls Try.prog 13 #[.agg (a6 (wt zs)), .int .i64 n, .int .i64 m, .int .i64 j] w fun e w' => e = .returned (.int .i64 (dsD n m j zs (n + 1))) ∧ Below w.heap.size w w' := by
  have h := dualSum_any n m j hm hnm hj (wt zs 0) (wt zs 1) (wt zs 2) (wt zs 3) (wt zs 4) (wt zs 5) _ rfl (fun i => by
    by_cases h6 : i < 6
    · rw [six_wt zs i h6]; exact hw i
    · rw [six_beyond _ _ _ _ _ _ i (by omega)]; omega) w
  rw [dsD_congr (n + 1) (fun i hi => six_wt zs i (by omega))] at h
  exact h

set_option maxHeartbeats 1600000 in
theorem implDw_A (r c : Int) (b len cap : Nat) (zs : List Int) (w : World) (hM : Mt w b len zs) (h : ¬ (1 ≤ r ∧ r ≤ 5)) :
    Calls Try.prog 6 #[.int .i64 r, .int .i64 c, .slice (some ⟨b, 0, none⟩) len cap] w fun e w' => ∃ v, e = .returned (.tuple #[v, .int .i64 2]) ∧ Below w.heap.size w w' ∧ Res w' w.heap.size w'.heap.size v [] := by
  have HN := Lib.hid (show decide (1 ≤ r ∧ r ≤ 5) = false by simp; omega)
  go_enter Try.func6, Try.ntmps6
  go_wp2_with (go_at_call 12; first | (with_reducible refine (isLength_eq _ _ HN.out _).mono ?_; rintro e w' ⟨rfl, rfl⟩))
  go_ret2
  exact ⟨_, rfl, Below.refl _ _, .nil _ _⟩
set_option maxHeartbeats 1600000 in
theorem implDw_B (r c : Int) (b len cap : Nat) (zs : List Int) (w : World) (hM : Mt w b len zs) (h : 1 ≤ r ∧ r ≤ 5) (h2 : ¬ (1 ≤ c ∧ c ≤ 5)) :
    Calls Try.prog 6 #[.int .i64 r, .int .i64 c, .slice (some ⟨b, 0, none⟩) len cap] w fun e w' => ∃ v, e = .returned (.tuple #[v, .int .i64 2]) ∧ Below w.heap.size w w' ∧ Res w' w.heap.size w'.heap.size v [] := by
  have H1 := Lib.hid (show decide (1 ≤ r ∧ r ≤ 5) = true by simp; omega)
  have HN := Lib.hid (show decide (1 ≤ c ∧ c ≤ 5) = false by simp; omega)
  go_enter Try.func6, Try.ntmps6
  go_wp2_with (go_at_call 12; first | (with_reducible refine (isLength_eq _ _ HN.out _).mono ?_; rintro e w' ⟨rfl, rfl⟩) | (with_reducible refine (isLength_eq _ _ H1.out _).mono ?_; rintro e w' ⟨rfl, rfl⟩))
  go_ret2
  exact ⟨_, rfl, Below.refl _ _, .nil _ _⟩
set_option maxHeartbeats 1600000 in
theorem implDw_C (r c : Int) (b len cap : Nat) (zs : List Int) (w : World) (hM : Mt w b len zs) (h : 1 ≤ r ∧ r ≤ 5) (h2 : 1 ≤ c ∧ c ≤ 5) (h3 : ¬ (len : Int) = r + 1) :
    Calls Try.prog 6 #[.int .i64 r, .int .i64 c, .slice (some ⟨b, 0, none⟩) len cap] w fun e w' => ∃ v, e = .returned (.tuple #[v, .int .i64 2]) ∧ Below w.heap.size w w' ∧ Res w' w.heap.size w'.heap.size v [] := by
  have H1 := Lib.hid (show decide (1 ≤ r ∧ r ≤ 5) = true by simp; omega)
  have H2 := Lib.hid (show decide (1 ≤ c ∧ c ≤ 5) = true by simp; omega)
  have h4 : ((len : Int) == r + 1) = false := by simpa using h3
  have h5 : ((len : Int) != r + 1) = true := by simpa using h3
  go_enter Try.func6, Try.ntmps6
  go_wp2_with (go_at_call 12; first | (with_reducible refine (isLength_eq _ _ H2.out _).mono ?_; rintro e w' ⟨rfl, rfl⟩) | (with_reducible refine (isLength_eq _ _ H1.out _).mono ?_; rintro e w' ⟨rfl, rfl⟩))
  go_ret2
  exact ⟨_, rfl, Below.refl _ _, .nil _ _⟩
set_option maxHeartbeats 1600000 in
theorem implDw_D (r c : Int) (b len cap : Nat) (zs : List Int) (w : World) (hM : Mt w b len zs) (h : 1 ≤ r ∧ r ≤ 5) (h2 : 1 ≤ c ∧ c ≤ 5) (h3 : (len : Int) = r + 1) (t : Nat) (ht : t < len) (hb : ¬ (0 ≤ wt zs t ∧ wt zs t ≤ 33554432)) (hg : ∀ k, k < t → 0 ≤ wt zs k ∧ wt zs k ≤ 33554432) :
    Calls Try.prog 6 #[.int .i64 r, .int .i64 c, .slice (some ⟨b, 0, none⟩) len cap] w fun e w' => ∃ v, e = .returned (.tuple #[v, .int .i64 2]) ∧ Below w.heap.size w w' ∧ Res w' w.heap.size w'.heap.size v [] := by
  have H1 := Lib.hid (show decide (1 ≤ r ∧ r ≤ 5) = true by simp; omega)
  have H2 := Lib.hid (show decide (1 ≤ c ∧ c ≤ 5) = true by simp; omega)
  have HM := Lib.hid hM
  have HA := Lib.hid (A6.start w (fun _ => 0) 33)
  have HB := Lib.hid (below_alloc1 w (.cells (a6 fun _ => 0) 33))
  clear hM
  go_enter Try.func6, Try.ntmps6
  go_wp2_with (go_at_call 12; first | (with_reducible refine (isLength_eq _ _ H2.out _).mono ?_; rintro e w' ⟨rfl, rfl⟩) | (with_reducible refine (isLength_eq _ _ H1.out _).mono ?_; rintro e w' ⟨rfl, rfl⟩))
  go_loopw [9, 32] (fun s i wr => ∃ (k : Nat) (x : Int) (f : Nat → Int), k ≤ t ∧ i = .int .i64 k ∧ s = .int .i64 x ∧ Below w.heap.size w wr ∧ A6 wr w.heap.size f) (fun _ i _ => t + 1 - (intOf i).toNat)
  case atStart => exact ⟨0, 0, _, Nat.zero_le _, rfl, rfl, HB.out, HA.out⟩
  case round =>
    obtain ⟨k, x, f, hk, rfl, rfl, hB, hA⟩ := hrel
    clear HA HB
    have hc : wr.cell? ⟨b, k, none⟩ = some (.int .i64 (wt zs k)) := (HM.out.below hB).cell k (by omega)
    have hkl : k < len := by omega
    have hgk := hg k
    have HB := Lib.hid hB
    by_cases hkt : k = t
    · subst hkt
      generalize wt zs k = y at hc hb
      clear hgk hg hA hB
      by_cases hy : y < 0
      all_goals
        go_wp2_with fail
        go_ret2
        exact ⟨_, rfl, HB.out, .nil _ _⟩
    · have hgk2 := hgk (by omega)
      have hk6 : k < 6 := by omega
      have hk6' : (k : Int) < 6 := by omega
      have hac := hA.cell k hk6
      have haf := hA.free k hk6
      have HA := Lib.hid hA
      generalize wt zs k = y at hc hgk2
      clear hgk hg hA hB
      go_wp2_with fail
      go_roundw
      case rel => exact ⟨k + 1, _, _, by omega, by go_num, rfl, HB.out.setCell (p := ⟨w.heap.size, k, none⟩) (Nat.le_refl _) _, HA.out.set k hk6 y (fun j => if j = k then y else f j) (if_pos rfl) (fun j hj => if_neg hj)⟩
      case measure => simp [intOf] <;> omega
end Go.Proofs.Ytlchelaohiojiab
