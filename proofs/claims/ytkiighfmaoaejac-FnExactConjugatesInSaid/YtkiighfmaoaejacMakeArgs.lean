/- The program's calculator, made for one number or for two. -/
import Derived.Test.YtkiighfmaoaejacMakeNo
namespace Go.Proofs.Ytkiighfmaoaejac
open Go.RowKit
set_option linter.unusedVariables false

/-- The post of a calculator that is made. -/
def Made (m P n : Nat) (w : World) (e : Ending) (w' : World) : Prop :=
  ∃ c, e = .returned (.tuple #[.pointer (some ⟨c, 0, none⟩), .int .i64 0]) ∧ Below w.heap.size w w' ∧ Calc c m P n w' ∧ w.heap.size ≤ c

theorem calcFor2_C (m P n : Nat) (hF : Fld m P n) (sb : Nat) (a b : Int) (ha : 0 ≤ a ∧ a < n) (hb : 0 ≤ b ∧ b < n) (w : World) (hsb : sb < w.heap.size) (h0 : w.cell? ⟨sb, 0, none⟩ = some (.int .i64 a)) (h1 : w.cell? ⟨sb, 1, none⟩ = some (.int .i64 b)) :
    Calls Try.prog 41 #[.agg #[.int .i64 m, .int .i64 P], .slice (some ⟨sb, 0, none⟩) 2 2] w (Made m P n w) :=
  calculatorFor_some m P n hF w sb 0 2 2 [a, b] hsb (by omega)
    (fun j hj => by
      have : j = 0 ∨ j = 1 := by omega
      rcases this with rfl | rfl
      · exact h0
      · exact h1)
    (fun j hj => by
      have : j = 0 ∨ j = 1 := by omega
      rcases this with rfl | rfl
      · exact ha
      · exact hb)
theorem calcFor2_B (m P n : Nat) (hF : Fld m P n) (sb : Nat) (a b : Int) (h : (a < 0 ∨ (n : Int) ≤ a) ∨ (b < 0 ∨ (n : Int) ≤ b)) (w : World) (hsb : sb < w.heap.size) (h0 : w.cell? ⟨sb, 0, none⟩ = some (.int .i64 a)) (h1 : w.cell? ⟨sb, 1, none⟩ = some (.int .i64 b)) :
    Calls Try.prog 41 #[.agg #[.int .i64 m, .int .i64 P], .slice (some ⟨sb, 0, none⟩) 2 2] w fun e w' => e = .returned (.tuple #[.pointer none, .int .i64 2]) ∧ Below w.heap.size w w' := by
  have hz : ∀ j, j < 2 → w.cell? ⟨sb, 0 + j, none⟩ = some (.int .i64 (([a, b] : List Int)[j]?.getD 0)) := fun j hj => by
    have : j = 0 ∨ j = 1 := by omega
    rcases this with rfl | rfl
    · exact h0
    · exact h1
  by_cases ha : a < 0 ∨ (n : Int) ≤ a
  · exact calculatorFor_no m P n hF w sb 0 2 2 [a, b] hsb (by omega) hz 0 (by omega) ha (fun j hj => by omega)
  · exact calculatorFor_no m P n hF w sb 0 2 2 [a, b] hsb (by omega) hz 1 (by omega) (by show b < 0 ∨ (n : Int) ≤ b; omega) (fun j hj => by
      obtain rfl : j = 0 := by omega
      show 0 ≤ a ∧ a < n
      omega)
theorem calcFor1_C (m P n : Nat) (hF : Fld m P n) (sb : Nat) (a : Int) (ha : 0 ≤ a ∧ a < n) (w : World) (hsb : sb < w.heap.size) (h0 : w.cell? ⟨sb, 0, none⟩ = some (.int .i64 a)) :
    Calls Try.prog 41 #[.agg #[.int .i64 m, .int .i64 P], .slice (some ⟨sb, 0, none⟩) 1 1] w (Made m P n w) :=
  calculatorFor_some m P n hF w sb 0 1 1 [a] hsb (by omega)
    (fun j hj => by
      obtain rfl : j = 0 := by omega
      exact h0)
    (fun j hj => by
      obtain rfl : j = 0 := by omega
      exact ha)
theorem calcFor1_B (m P n : Nat) (hF : Fld m P n) (sb : Nat) (a : Int) (h : a < 0 ∨ (n : Int) ≤ a) (w : World) (hsb : sb < w.heap.size) (h0 : w.cell? ⟨sb, 0, none⟩ = some (.int .i64 a)) :
    Calls Try.prog 41 #[.agg #[.int .i64 m, .int .i64 P], .slice (some ⟨sb, 0, none⟩) 1 1] w fun e w' => e = .returned (.tuple #[.pointer none, .int .i64 2]) ∧ Below w.heap.size w w' :=
  calculatorFor_no m P n hF w sb 0 1 1 [a] hsb (by omega)
    (fun j hj => by
      obtain rfl : j = 0 := by omega
      exact h0) 0 (by omega) h (fun j hj => by omega)
theorem Calc.below {c m P n : Nat} {W W1 : World} (h : Calc c m P n W) (hlt : c < W.heap.size) (hb : Below W.heap.size W W1) : Calc c m P n W1 :=
  ⟨(hb.cell (p := ⟨c, 0, none⟩) hlt).trans h.deg, fun a b ha hb' => (hb.cell (p := ⟨c, 1 + a * 32 + b, none⟩) hlt).trans (h.tab a b ha hb')⟩
theorem Calc.lt {c m P n : Nat} {W : World} (h : Calc c m P n W) : c < W.heap.size := World.block_lt_of_cell? W ⟨c, 0, none⟩ h.deg
end Go.Proofs.Ytkiighfmaoaejac
