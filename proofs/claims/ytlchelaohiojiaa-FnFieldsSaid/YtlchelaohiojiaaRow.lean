/- Rows of numbers that calls have made, each in its own part of the memory: equal, marked, held. -/
import Derived.Test.YtlchelaohiojiaaMt
import Derived.Lib.SmallJoins
import Derived.Laws.OwnMore
namespace Go.Proofs.Ytlchelaohiojiaa
open Go.RowKit Go.Joins
set_option linter.unusedVariables false

/-- A value that is a slice of numbers, at the head of a block from B to below T. -/
inductive Res (W : World) (B T : Nat) : Value → List Int → Prop
  | nil (A : Option Addr) (cap : Nat) : Res W B T (.slice A 0 cap) []
  | row (g n cap : Nat) (xs : List Int) : B ≤ g → g < T → T ≤ W.heap.size → xs.length = n → n ≤ 1048576 → (∀ j, j < n → W.cell? ⟨g, j, none⟩ = some (.int .i64 (xs[j]?.getD 0))) → (∀ j, j < n → W.frozen? ⟨g, j, none⟩ = false) → Res W B T (.slice (some ⟨g, 0, none⟩) n cap) xs
theorem Res.next {W W' : World} {B T : Nat} {v : Value} {xs : List Int} (h : Res W B T v xs) (hb : Below W.heap.size W W') : Res W' B T v xs := by
  cases h with
  | nil A cap => exact .nil A cap
  | row g n cap xs h1 h2 h3 h4 h5 h6 h7 =>
    have hg : g < W.heap.size := by omega
    exact .row g n cap xs h1 h2 (Nat.le_trans h3 hb.size) h4 h5 (fun j hj => (hb.cell (p := ⟨g, j, none⟩) hg).trans (h6 j hj)) (fun j hj => (hb.frozen (p := ⟨g, j, none⟩) hg).trans (h7 j hj))
/-- What lay outside the blocks B to below T is as it was. -/
structure Chg (B T : Nat) (w w' : World) : Prop where
  os : w'.os = w.os
  tape : w'.tape = w.tape
  output : w'.output = w.output
  size : w.heap.size ≤ w'.heap.size
  block : ∀ k, k < w.heap.size → k < B ∨ T ≤ k → w'.heap[k]? = w.heap[k]?
theorem Chg.of {B T : Nat} {w w' : World} (h : Below w.heap.size w w') : Chg B T w w' := ⟨h.os, h.tape, h.output, h.size, fun k hk _ => h.block k hk⟩
theorem Chg.trans {B T : Nat} {a b c : World} (h : Chg B T a b) (k : Chg B T b c) : Chg B T a c :=
  ⟨k.os.trans h.os, k.tape.trans h.tape, k.output.trans h.output, Nat.le_trans h.size k.size, fun i hi ho => (k.block i (Nat.lt_of_lt_of_le hi h.size) ho).trans (h.block i hi ho)⟩
theorem Chg.below {B T D : Nat} {a w w' : World} (hb : Below D a w) (hD : D ≤ w.heap.size) (h : Chg B T w w') (hB : D ≤ B) : Below D a w' :=
  hb.trans ⟨h.os, h.tape, h.output, h.size, fun k hk => h.block k (by omega) (.inl (by omega))⟩
theorem Res.chg {W W' : World} {B T B' T' : Nat} {v : Value} {xs : List Int} (h : Res W B T v xs) (hb : Chg B' T' W W') (hd : T ≤ B' ∨ T' ≤ B) : Res W' B T v xs := by
  cases h with
  | nil A cap => exact .nil A cap
  | row g n cap xs h1 h2 h3 h4 h5 h6 h7 =>
    have hg : W'.heap[g]? = W.heap[g]? := hb.block g (by omega) (by omega)
    exact .row g n cap xs h1 h2 (Nat.le_trans h3 hb.size) h4 h5 (fun j hj => (World.cell?_of_block (w := W) (a := ⟨g, j, none⟩) hg).trans (h6 j hj)) (fun j hj => (World.frozen?_of_block (w := W) (a := ⟨g, j, none⟩) hg).trans (h7 j hj))

theorem Res.form {W : World} {B T : Nat} {v : Value} {xs : List Int} (h : Res W B T v xs) : ∃ ao m cap, v = .slice ao m cap := by
  cases h with
  | nil A cap => exact ⟨_, _, _, rfl⟩
  | row g n cap xs h1 h2 h3 h4 h5 h6 h7 => exact ⟨_, _, _, rfl⟩
theorem Res.small {W : World} {B T : Nat} {v : Value} {xs : List Int} (h : Res W B T v xs) : xs.length ≤ 1048576 := by
  cases h with
  | nil A cap => simp
  | row g n cap xs h1 h2 h3 h4 h5 h6 h7 => omega

theorem size_setCell_ (w : World) (a : Addr) (v : Value) : (w.setCell a v).heap.size = w.heap.size := Array.size_modify ..
theorem Res.wide2 {W : World} {B B' T : Nat} {v : Value} {xs : List Int} (h : Res W B T v xs) (hB : B' ≤ B) : Res W B' T v xs := by
  cases h with
  | nil A cap => exact .nil A cap
  | row g n cap xs h1 h2 h3 h4 h5 h6 h7 => exact .row g n cap xs (by omega) h2 h3 h4 h5 h6 h7
/-- Numbers that rise by one from k0 on. -/
def marks (k0 n : Nat) : List Int := (List.range n).map fun j => ((k0 + j : Nat) : Int)
theorem marks_len (k0 n : Nat) : (marks k0 n).length = n := by simp [marks]
theorem marks_get (k0 n j : Nat) (h : j < n) : (marks k0 n)[j]?.getD 0 = ((k0 + j : Nat) : Int) := by simp [marks, h]

theorem eq_res {w : World} {B T B' T' : Nat} {v v' : Value} {xs : List Int} (h : Res w B T v xs) (h' : Res w B' T' v' xs) :
    Calls Try.prog 105 #[v, v'] w fun e w' => e = .returned (.bool true) ∧ Below w.heap.size w w' := by
  have fin : ∀ e w', (e = Ending.returned (.bool true) ∧ ∃ q, w' = w.drewN q) → e = Ending.returned (.bool true) ∧ Below w.heap.size w w' := by
    rintro e w' ⟨rfl, q, rfl⟩
    exact ⟨rfl, below_draws _ _ _⟩
  cases h with
  | nil A cap =>
    cases h' with
    | nil A' cap' => exact (eq_nil _ _ _ _ w).mono fin
    | row g n cap xs h1 h2 h3 h4 h5 h6 h7 => obtain rfl : n = 0 := by simpa using h4.symm
                                             exact (eq_nil _ _ _ _ w).mono fin
  | row g n cap xs h1 h2 h3 h4 h5 h6 h7 =>
    cases h' with
    | nil A' cap' => obtain rfl : n = 0 := by simpa using h4.symm
                     exact (eq_nil _ _ _ _ w).mono fin
    | row g' n' cap' _ k1 k2 k3 k4 k5 k6 k7 =>
      obtain rfl : n' = n := by omega
      exact (eq_same g 0 g' 0 n' cap cap' xs w ⟨h4, by omega, fun j hj => by rw [Nat.zero_add]; exact h6 j hj⟩ ⟨h4, by omega, fun j hj => by rw [Nat.zero_add]; exact k6 j hj⟩).mono fin

set_option maxHeartbeats 800000 in
theorem mark_nil (A : Option Addr) (ca : Nat) (k0 : Int) (w : World) :
    Calls Try.prog 106 #[.slice A 0 ca, .int .i64 k0] w fun e w' => e = .returned (.int .i64 k0) ∧ w = w' := by
  go_enter Try.func106, Try.ntmps106
  go_wp2
  go_loop [1, 5] (fun s i => i = .int .i64 0 ∧ s = .int .i64 k0) (fun _ i => 0)
  case atStart => exact ⟨rfl, rfl⟩
  case round =>
    obtain ⟨rfl, rfl⟩ := hrel
    go_wp2
    go_ret
    exact ⟨rfl, rfl⟩

theorem mark_res {w : World} {B T : Nat} {v : Value} {xs : List Int} (h : Res w B T v xs) (k0 : Nat) (hk : k0 ≤ 1048577) (hx : xs.length ≤ 1048576) :
    Calls Try.prog 106 #[v, .int .i64 k0] w fun e w' => e = .returned (.int .i64 ((k0 + xs.length : Nat) : Int)) ∧ Chg B T w w' ∧ Res w' B T v (marks k0 xs.length) := by
  cases h with
  | nil A cap =>
    refine (mark_nil _ _ _ w).mono ?_
    rintro e w' ⟨rfl, rfl⟩
    exact ⟨rfl, .of (Below.refl _ _), .nil A cap⟩
  | row g n cap xs h1 h2 h3 h4 h5 h6 h7 =>
    subst h4
    refine (mark_any g 0 xs.length cap k0 hk hx w (fun j hj => ⟨_, by rw [Nat.zero_add]; exact h6 j hj⟩) (fun j hj => by rw [Nat.zero_add]; exact h7 j hj)).mono ?_
    rintro e w' ⟨rfl, hO, hF, hc⟩
    refine ⟨rfl, ⟨hO.os, hO.tape, hO.output, Nat.le_of_eq hO.size.symm, fun k _ hk => hO.block k (by omega)⟩, .row g _ cap _ h1 h2 (by rw [hO.size]; exact h3) (marks_len _ _) h5 (fun j hj => ?_) (fun j hj => ?_)⟩
    · rw [marks_get _ _ _ hj]
      have := hc j hj
      rwa [Nat.zero_add] at this
    · exact (hF _).trans (h7 j hj)

theorem held_res {w : World} {B T : Nat} {v : Value} (k0 n : Nat) (h : Res w B T v (marks k0 n)) (hk : k0 ≤ 1048577) (hx : n ≤ 1048576) :
    Calls Try.prog 107 #[v, .int .i64 k0] w fun e w' => e = .returned (.int .i64 ((k0 + n : Nat) : Int)) ∧ w = w' := by
  generalize hm : marks k0 n = xs at h
  cases h with
  | nil A cap =>
    obtain rfl : n = 0 := by have := congrArg List.length hm; simpa [marks_len] using this
    exact held_nil _ _ _ w
  | row g n' cap xs h1 h2 h3 h4 h5 h6 h7 =>
    obtain rfl : n' = n := by rw [← h4, ← hm, marks_len]
    exact held_same g 0 n' cap k0 hk hx w (fun j hj => by rw [Nat.zero_add, h6 j hj, ← hm, marks_get _ _ _ hj])

theorem own_res {W : World} {B k : Nat} {v : Value} {xs : List Int} (h : W.ownsRow B 2 1 v k (xs.map (Value.int .i64))) (hk : k ≤ 1048576) {B' : Nat} (hB : B' ≤ B) : Res W B' W.heap.size v xs := by
  have hl : xs.length = k := by have := h.1; simpa using this
  rcases ownsRow_forms h with ⟨rfl, rfl⟩ | ⟨g, cap, rfl⟩
  · obtain rfl : xs = [] := List.length_eq_zero_iff.1 hl
    exact .nil none 0
  · have hlt := h.lt g rfl
    refine .row g k cap xs (by omega) hlt.2 (Nat.le_refl _) hl hk (fun j hj => ?_) (fun j _ => h.frozenAt j)
    rw [h.cellAt j (by omega), List.getElem?_map, List.getElem?_eq_getElem (by omega)]; rfl
theorem one_new (W : World) (x : Value) (T : TypeId) : ∀ (j : Nat) (u : Value), [x][j]? = some u → (W.alloc (.cells #[x] T)).cell? ((⟨W.heap.size, 0, none⟩ : Addr).add j) = some u := by
  intro j u hj
  match j, hj with
  | 0, hj => simp at hj; subst hj; simp [Addr.add]
theorem one_one (k : IntKind) (x : Int) : ∀ u ∈ [Value.int k x], u.oneCell' = true := by
  intro u hu; simp at hu; subst hu; rfl
end Go.Proofs.Ytlchelaohiojiaa
