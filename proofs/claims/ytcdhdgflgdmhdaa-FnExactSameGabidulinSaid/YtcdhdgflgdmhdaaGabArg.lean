/- A Gabidulin code among the arguments, opened. -/
import Derived.Test.YtcdhdgflgdmhdaaGab
import Derived.Test.YtcdhdgflgdmhdaaArg
namespace Go.Proofs.Ytcdhdgflgdmhdaa
open Go.RowKit Go.Joins Go.ChangeShapes Go.WideShapes Go.Deep
set_option linter.unusedVariables false

set_option maxRecDepth 100000 in
theorem gab_open {H : Type} {enc : TypeId × Value → H} {W : World} {r : Reach} {b0 base : Nat} {spare : Nat → Bool} {held : Bool} {v : Value} {d : DataW H} {ps : List MemPlace} (hv : Value.okWide Try.prog W r b0 49 v)
    (h : DataW.Trod enc Try.prog W base spare held 49 v d ps) : ∃ (d0 p0 k : Int) (A : Option Addr) (n cap : Nat) (zs : List Int), v = .agg (gabC d0 p0 (.slice A n cap) k) ∧ (Lit.int .i64 d0).wf = true ∧ (Lit.int .i64 p0).wf = true ∧ (Lit.int .i64 k).wf = true ∧ Arg W A n zs := by
  have hC : Try.prog.cellsOf 49 = 4 := by kernel_rfl
  have hC0 : Try.prog.cellsOf 26 = 2 := by kernel_rfl
  have hC1 : Try.prog.cellsOf 27 = 1 := by kernel_rfl
  have hC2 : Try.prog.cellsOf 2 = 1 := by kernel_rfl
  obtain ⟨cs, rfl, hsz⟩ := okWide_struct Try.underlying49 hv
  obtain ⟨c0, c1, c2, c3, rfl⟩ := array4 (hsz.trans hC)
  obtain ⟨fuel, hf⟩ := h
  obtain ⟨y0, y1, y2, n, hx, _, h0, h1, h2⟩ := trod_struct3 Try.underlying49 hf
  simp only [Value.cells, hC0, hC1, hC2, List.drop_zero] at h0 h1 h2
  have h0' : DataW.trod enc Try.prog W base spare held n 26 [c0, c1] = some y0 := h0
  have h1' : DataW.trod enc Try.prog W base spare held n 27 [c2] = some y1 := h1
  have h2' : DataW.trod enc Try.prog W base spare held n 2 [c3] = some y2 := h2
  obtain ⟨u0, u1, n', _, _, g0, g1⟩ := trod_struct2 Try.underlying26 h0'
  simp only [hC2, List.drop_zero] at g0 g1
  have g0' : DataW.trod enc Try.prog W base spare held n' 2 [c0] = some u0 := g0
  have g1' : DataW.trod enc Try.prog W base spare held n' 2 [c1] = some u1 := g1
  obtain ⟨x0, e0, _, w0⟩ := DataW.trod_int Try.underlying2 g0'
  obtain ⟨x1, e1, _, w1⟩ := DataW.trod_int Try.underlying2 g1'
  obtain ⟨x3, e3, _, w3⟩ := DataW.trod_int Try.underlying2 h2'
  obtain ⟨A, m, cap, zs, rfl, hA⟩ := arg_open h1'
  simp at e0 e1 e3
  subst e0 e1 e3
  exact ⟨x0, x1, x3, A, m, cap, zs, rfl, w0, w1, w3, hA⟩
end Go.Proofs.Ytcdhdgflgdmhdaa
