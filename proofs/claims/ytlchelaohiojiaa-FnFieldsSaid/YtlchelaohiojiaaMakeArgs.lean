/- The program's calculator, made for one number or for two. -/
import Derived.Test.YtlchelaohiojiaaMake
namespace Go.Proofs.Ytlchelaohiojiaa
open Go.RowKit
set_option linter.unusedVariables false

/-- The post of a calculator that is made. -/
def Made (m P n : Nat) (w : World) (e : Ending) (w' : World) : Prop :=
  ∃ c, e = .returned (.tuple #[.pointer (some ⟨c, 0, none⟩), .int .i64 0]) ∧ Below w.heap.size w w' ∧ Calc c m P n w' ∧ w.heap.size ≤ c

theorem arg_one (w : World) (sb : Nat) (a : Int) (hsb : sb < w.heap.size) (h0 : w.cell? ⟨sb, 0, none⟩ = some (.int .i64 a)) : Arg w (some ⟨sb, 0, none⟩) 1 [a] :=
  ⟨rfl, by omega, fun _ => ⟨_, rfl, hsb, fun j hj => by
    obtain rfl : j = 0 := by omega
    exact h0⟩⟩
theorem arg_two (w : World) (sb : Nat) (a b : Int) (hsb : sb < w.heap.size) (h0 : w.cell? ⟨sb, 0, none⟩ = some (.int .i64 a)) (h1 : w.cell? ⟨sb, 1, none⟩ = some (.int .i64 b)) : Arg w (some ⟨sb, 0, none⟩) 2 [a, b] :=
  ⟨rfl, by omega, fun _ => ⟨_, rfl, hsb, fun j hj => by
    have : j = 0 ∨ j = 1 := by omega
    rcases this with rfl | rfl
    · exact h0
    · exact h1⟩⟩
theorem calcFor2_C (m P n : Nat) (hF : Fld m P n) (sb : Nat) (a b : Int) (ha : 0 ≤ a ∧ a < n) (hb : 0 ≤ b ∧ b < n) (w : World) (hsb : sb < w.heap.size) (h0 : w.cell? ⟨sb, 0, none⟩ = some (.int .i64 a)) (h1 : w.cell? ⟨sb, 1, none⟩ = some (.int .i64 b)) :
    Calls Try.prog 63 #[.agg #[.int .i64 m, .int .i64 P], .slice (some ⟨sb, 0, none⟩) 2 2] w (Made m P n w) :=
  calculatorFor_C m P n hF w _ 2 2 [a, b] (arg_two w sb a b hsb h0 h1) (by omega) (by simp [allIn]; omega)
theorem calcFor2_B (m P n : Nat) (hF : Fld m P n) (sb : Nat) (a b : Int) (h : (a < 0 ∨ (n : Int) ≤ a) ∨ (b < 0 ∨ (n : Int) ≤ b)) (w : World) (hsb : sb < w.heap.size) (h0 : w.cell? ⟨sb, 0, none⟩ = some (.int .i64 a)) (h1 : w.cell? ⟨sb, 1, none⟩ = some (.int .i64 b)) :
    Calls Try.prog 63 #[.agg #[.int .i64 m, .int .i64 P], .slice (some ⟨sb, 0, none⟩) 2 2] w fun e w' => e = .returned (.tuple #[.pointer none, .int .i64 2]) ∧ Below w.heap.size w w' :=
  calculatorFor_B m P n hF w _ 2 2 [a, b] (arg_two w sb a b hsb h0 h1) (by omega) (by simp [allIn]; omega)
theorem calcFor1_C (m P n : Nat) (hF : Fld m P n) (sb : Nat) (a : Int) (ha : 0 ≤ a ∧ a < n) (w : World) (hsb : sb < w.heap.size) (h0 : w.cell? ⟨sb, 0, none⟩ = some (.int .i64 a)) :
    Calls Try.prog 63 #[.agg #[.int .i64 m, .int .i64 P], .slice (some ⟨sb, 0, none⟩) 1 1] w (Made m P n w) :=
  calculatorFor_C m P n hF w _ 1 1 [a] (arg_one w sb a hsb h0) (by omega) (by simp [allIn]; omega)
theorem calcFor1_B (m P n : Nat) (hF : Fld m P n) (sb : Nat) (a : Int) (h : a < 0 ∨ (n : Int) ≤ a) (w : World) (hsb : sb < w.heap.size) (h0 : w.cell? ⟨sb, 0, none⟩ = some (.int .i64 a)) :
    Calls Try.prog 63 #[.agg #[.int .i64 m, .int .i64 P], .slice (some ⟨sb, 0, none⟩) 1 1] w fun e w' => e = .returned (.tuple #[.pointer none, .int .i64 2]) ∧ Below w.heap.size w w' :=
  calculatorFor_B m P n hF w _ 1 1 [a] (arg_one w sb a hsb h0) (by omega) (by simp [allIn]; omega)
theorem Calc.below {c m P n : Nat} {W W1 : World} (h : Calc c m P n W) (hlt : c < W.heap.size) (hb : Below W.heap.size W W1) : Calc c m P n W1 :=
  ⟨(hb.cell (p := ⟨c, 0, none⟩) hlt).trans h.deg, fun a b ha hb' => (hb.cell (p := ⟨c, 1 + a * 32 + b, none⟩) hlt).trans (h.tab a b ha hb')⟩
theorem Calc.lt {c m P n : Nat} {W : World} (h : Calc c m P n W) : c < W.heap.size := World.block_lt_of_cell? W ⟨c, 0, none⟩ h.deg
end Go.Proofs.Ytlchelaohiojiaa
