/- Rows of numbers that calls have made, each in its own part of the memory: equal, marked, held. -/
import Derived.Test.YtpjnpkgndghlhaaMt
import Derived.Lib.SmallJoins
import Derived.Laws.OwnMore
namespace Go.Proofs.Ytpjnpkgndghlhaa
open Go.RowKit Go.Joins
set_option linter.unusedVariables false

/-- A value that is a slice of numbers, at the head of a block from B to below T. -/
inductive Res (W : World) (B T : Nat) : Value → List Int → Prop
  | nil (A : Option Addr) (cap : Nat) : Res W B T (.slice A 0 cap) []
  | row (g n cap : Nat) (xs : List Int) : B ≤ g → g < T → T ≤ W.heap.size → xs.length = n → n ≤ 1048576 → (∀ j, j < n → W.cell? ⟨g, j, none⟩ = some (.int .i64 (xs[j]?.getD 0))) → (∀ j, j < n → W.frozen? ⟨g, j, none⟩ = false) → Res W B T (.slice (some ⟨g, 0, none⟩) n cap) xs
theorem Res.next {W W' : World} {B T : Nat} {v : Value} {xs : List Int} (h : Res W B T v xs) (hb : Below W.heap.size W W') : Res W' B T v xs := by
  cases h with
  | nil A cap => exact .nil A cap
  | row g n cap xs h1 h2 h3 h4 h5 h6 h7 =>
    have hg : g < W.heap.size := by omega
    exact .row g n cap xs h1 h2 (Nat.le_trans h3 hb.size) h4 h5 (fun j hj => (hb.cell (p := ⟨g, j, none⟩) hg).trans (h6 j hj)) (fun j hj => (hb.frozen (p := ⟨g, j, none⟩) hg).trans (h7 j hj))
/-- What lay outside the blocks B to below T is as it was. -/
structure Chg (B T : Nat) (w w' : World) : Prop where
  os : w'.os = w.os
  tape : w'.tape = w.tape
  output : w'.output = w.output
  size : w.heap.size ≤ w'.heap.size
  block : ∀ k, k < w.heap.size → k < B ∨ T ≤ k → w'.heap[k]? = w.heap[k]?
theorem Chg.of {B T : Nat} {w w' : World} (h : Below w.heap.size w w') : Chg B T w w' := ⟨h.os, h.tape, h.output, h.size, fun k hk _ => h.block k hk⟩
theorem Chg.trans {B T : Nat} {a b c : World} (h : Chg B T a b) (k : Chg B T b c) : Chg B T a c :=
  ⟨k.os.trans h.os, k.tape.trans h.tape, k.output.trans h.output, Nat.le_trans h.size k.size, fun i hi ho => (k.block i (Nat.lt_of_lt_of_le hi h.size) ho).trans (h.block i hi ho)⟩
theorem Chg.below {B T D : Nat} {a w w' : World} (hb : Below D a w) (hD : D ≤ w.heap.size) (h : Chg B T w w') (hB : D ≤ B) : Below D a w' :=
  hb.trans ⟨h.os, h.tape, h.output, h.size, fun k hk => h.block k (by omega) (.inl (by omega))⟩
theorem Res.chg {W W' : World} {B T B' T' : Nat} {v : Value} {xs : List Int} (h : Res W B T v xs) (hb : Chg B' T' W W') (hd : T ≤ B' ∨ T' ≤ B) : Res W' B T v xs := by
  cases h with
  | nil A cap => exact .nil A cap
  | row g n cap xs h1 h2 h3 h4 h5 h6 h7 =>
    have hg : W'.heap[g]? = W.heap[g]? := hb.block g (by omega) (by omega)
    exact .row g n cap xs h1 h2 (Nat.le_trans h3 hb.size) h4 h5 (fun j hj => (World.cell?_of_block (w := W) (a := ⟨g, j, none⟩) hg).trans (h6 j hj)) (fun j hj => (World.frozen?_of_block (w := W) (a := ⟨g, j, none⟩) hg).trans (h7 j hj))

theorem Res.form {W : World} {B T : Nat} {v : Value} {xs : List Int} (h : Res W B T v xs) : ∃ ao m cap, v = .slice ao m cap := by
  cases h with
  | nil A cap => exact ⟨_, _, _, rfl⟩
  | row g n cap xs h1 h2 h3 h4 h5 h6 h7 => exact ⟨_, _, _, rfl⟩
theorem Res.small {W : World} {B T : Nat} {v : Value} {xs : List Int} (h : Res W B T v xs) : xs.length ≤ 1048576 := by
  cases h with
  | nil A cap => simp
  | row g n cap xs h1 h2 h3 h4 h5 h6 h7 => omega

theorem size_setCell_ (w : World) (a : Addr) (v : Value) : (w.setCell a v).heap.size = w.heap.size := Array.size_modify ..
theorem Res.wide2 {W : World} {B B' T : Nat} {v : Value} {xs : List Int} (h : Res W B T v xs) (hB : B' ≤ B) : Res W B' T v xs := by
  cases h with
  | nil A cap => exact .nil A cap
  | row g n cap xs h1 h2 h3 h4 h5 h6 h7 => exact .row g n cap xs (by omega) h2 h3 h4 h5 h6 h7
/-- Numbers that rise by one from k0 on. -/
def marks (k0 n : Nat) : List Int := (List.range n).map fun j => ((k0 + j : Nat) : Int)
theorem marks_len (k0 n : Nat) : (marks k0 n).length = n := by simp [marks]
theorem marks_get (k0 n j : Nat) (h : j < n) : (marks k0 n)[j]?.getD 0 = ((k0 + j : Nat) : Int) := by simp [marks, h]





theorem own_res {W : World} {B k : Nat} {v : Value} {xs : List Int} (h : W.ownsRow B 2 1 v k (xs.map (Value.int .i64))) (hk : k ≤ 1048576) {B' : Nat} (hB : B' ≤ B) : Res W B' W.heap.size v xs := by
  have hl : xs.length = k := by have := h.1; simpa using this
  rcases ownsRow_forms h with ⟨rfl, rfl⟩ | ⟨g, cap, rfl⟩
  · obtain rfl : xs = [] := List.length_eq_zero_iff.1 hl
    exact .nil none 0
  · have hlt := h.lt g rfl
    refine .row g k cap xs (by omega) hlt.2 (Nat.le_refl _) hl hk (fun j hj => ?_) (fun j _ => h.frozenAt j)
    rw [h.cellAt j (by omega), List.getElem?_map, List.getElem?_eq_getElem (by omega)]; rfl
theorem one_new (W : World) (x : Value) (T : TypeId) : ∀ (j : Nat) (u : Value), [x][j]? = some u → (W.alloc (.cells #[x] T)).cell? ((⟨W.heap.size, 0, none⟩ : Addr).add j) = some u := by
  intro j u hj
  match j, hj with
  | 0, hj => simp at hj; subst hj; simp [Addr.add]
theorem one_one (k : IntKind) (x : Int) : ∀ u ∈ [Value.int k x], u.oneCell' = true := by
  intro u hu; simp at hu; subst hu; rfl
end Go.Proofs.Ytpjnpkgndghlhaa
