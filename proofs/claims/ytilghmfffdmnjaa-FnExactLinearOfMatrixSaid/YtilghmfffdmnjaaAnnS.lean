/- The model's annihilator. -/
import Derived.Test.YtilghmfffdmnjaaLinS4
import Derived.Test.YtilghmfffdmnjaaLinS3
import Derived.Test.YtilghmfffdmnjaaListS
namespace Go.Proofs.Ytilghmfffdmnjaa
open Go.RowKit Go.Joins
set_option linter.unusedVariables false
set_option linter.unusedSimpArgs false

theorem l01Ok_eq' (d p : Int) (b : Bool) (h : fldI d p = b) (w : World) :
    Calls Try.prog 47 #[.agg #[.int .i64 d, .int .i64 p]] w fun e w' => e = .returned (.bool b) ∧ Below w.heap.size w w' := l01Ok_eq d p b h w
/-- A literal list of one or two numbers. -/
theorem sv_lit1 (w : World) (a : Nat) : Sv (w.alloc (.cells #[.int .i64 a] 2)) (some ⟨w.heap.size, 0, none⟩) 1 1 [a] :=
  ⟨rfl, Nat.le_refl _, (fun e => by cases e), fun _ => ⟨_, rfl, by simp, fun j hj => by
    obtain rfl : j = 0 := by omega
    simp [nth]⟩⟩
theorem sv_lit2 (w : World) (a b : Nat) : Sv (w.alloc (.cells #[.int .i64 a, .int .i64 b] 2)) (some ⟨w.heap.size, 0, none⟩) 2 2 [a, b] :=
  ⟨rfl, Nat.le_refl _, (fun e => by cases e), fun _ => ⟨_, rfl, by simp, fun j hj => by
    have : j = 0 ∨ j = 1 := by omega
    rcases this with rfl | rfl
    · simp [nth]
    · simp [nth]⟩⟩
theorem res_lit1 (w : World) (a : Nat) {B : Nat} (hB : B ≤ w.heap.size) : Res (w.alloc (.cells #[.int .i64 a] 2)) B (w.alloc (.cells #[.int .i64 a] 2)).heap.size (.slice (some ⟨w.heap.size, 0, none⟩) 1 1) (ints [a]) :=
  .row _ 1 1 _ hB (by simp) (Nat.le_refl _) rfl (by omega) (fun j hj => by
    obtain rfl : j = 0 := by omega
    simp [ints]) (fun j hj => by simp)
theorem res_up {W W' : World} {B T : Nat} {v : Value} {xs : List Int} (h : Res W B T v xs) (hT : T ≤ W.heap.size) (hb : Below W.heap.size W W') : Res W' B W'.heap.size v xs := by
  cases h with
  | nil A cap => exact .nil _ _
  | row g n cap xs h1 h2 h3 h4 h5 h6 h7 =>
    have hg : g < W.heap.size := by omega
    exact .row _ _ _ _ h1 (Nat.lt_of_lt_of_le hg hb.size) (Nat.le_refl _) h4 h5 (fun j hj => (hb.cell (p := ⟨g, j, none⟩) hg).trans (h6 j hj)) (fun j hj => (hb.frozen (p := ⟨g, j, none⟩) hg).trans (h7 j hj))
theorem Rs.below {W W' : World} {B : Nat} {A : Option Addr} {n cap : Nat} {p : List Nat} (h : Rs W B A n cap p) (hb : Below W.heap.size W W') : Rs W' B A n cap p :=
  ⟨h.sv.below hb, fun hn => res_up (h.res hn) (Nat.le_refl _) hb⟩
theorem Rs.less {W : World} {B B' : Nat} {A : Option Addr} {n cap : Nat} {p : List Nat} (h : Rs W B A n cap p) (hB : B' ≤ B) : Rs W B' A n cap p := ⟨h.sv, fun hn => (h.res hn).wide2 hB⟩

end Go.Proofs.Ytilghmfffdmnjaa
