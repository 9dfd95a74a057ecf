/- Marks on a result's points, and whether they are held: what a law's own functions do. · Marks on a Gabidulin code's points: what a law's own function does. · A Gabidulin code among the arguments, opened. -/
import Derived.Test.YtllojcndhkpfmaaDoorGab
import Derived.Test.YtllojcndhkpfmaaDoorArg
namespace Go.Proofs.YtllojcndhkpfmaaDoor
open Go.RowKit Go.Joins
set_option linter.unusedVariables false
set_option maxHeartbeats 400000 in
theorem markGab_out {w : World} {B T : Nat} (d p kd : Int) {v : Value} {xs : List Int} (h : Res w B T v xs) (k0 : Nat) (hk : k0 ≤ 1048577) (hx : xs.length ≤ 1048576) :
    Calls Tryd.prog 9 #[.agg (gabC d p v kd), .int .i64 k0] w fun e w' => e = .returned (.int .i64 ((k0 + xs.length : Nat) : Int)) ∧ Chg B T w w' ∧ Res w' B T v (marks k0 xs.length) := by
  obtain ⟨ao, m, cp, rfl⟩ := h.form
  go_enter Tryd.func9, Tryd.ntmps9
  go_wp2_with fail
  refine (mark_res (h.next (below_alloc1 _ _)) k0 hk hx).mono ?_
  rintro e w1 ⟨rfl, hC, hR⟩
  have HC := Lib.hid ((Chg.of (below_alloc1 w _)).trans hC)
  have HRR := Lib.hid hR
  clear hC hR
  obtain ⟨s, hs⟩ : ∃ s : Nat, k0 + xs.length = s := ⟨_, rfl⟩
  rw [hs]
  go_wp2_with fail
  go_ret
  exact ⟨by rw [hs]; rfl, HC.out, HRR.out⟩
set_option maxHeartbeats 400000 in
theorem heldGab_res {w : World} {B T : Nat} (d p kd : Int) {v : Value} (k0 n : Nat) (h : Res w B T v (marks k0 n)) (hk : k0 ≤ 1048577) (hx : n ≤ 1048576) :
    Calls Tryd.prog 10 #[.agg (gabC d p v kd), .int .i64 k0] w fun e w' => e = .returned (.int .i64 ((k0 + n : Nat) : Int)) ∧ Below w.heap.size w w' := by
  obtain ⟨ao, m, cp, rfl⟩ := h.form
  have hb := below_alloc1 w (.cells (gabC d p (.slice ao m cp) kd) 30)
  obtain ⟨s, hs⟩ : ∃ s : Nat, k0 + n = s := ⟨_, rfl⟩
  have S := held_res k0 n (h.next hb) hk hx
  rw [hs] at S ⊢
  have HS := Lib.hid S
  clear S hs
  go_enter Tryd.func10, Tryd.ntmps10
  go_wp2_with fail
  refine HS.out.mono ?_
  rintro e w1 ⟨rfl, rfl⟩
  go_wp2_with fail
  go_ret
  exact ⟨rfl, hb⟩
end Go.Proofs.YtllojcndhkpfmaaDoor
namespace Go.Proofs.YtllojcndhkpfmaaDoor
open Go.RowKit Go.Joins
set_option linter.unusedVariables false
set_option maxHeartbeats 400000 in
theorem markGab_res {w : World} {B T : Nat} (d p kd : Int) {v : Value} {xs : List Int} (h : Res w B T v xs) (k0 : Nat) (hk : k0 ≤ 1048577) (hx : xs.length ≤ 1048576) :
    Calls Tryd.prog 9 #[.agg (gabC d p v kd), .int .i64 k0] w fun e w' => e = .returned (.int .i64 ((k0 + xs.length : Nat) : Int)) ∧ Chg B T w w' := by
  obtain ⟨ao, m, cp, rfl⟩ := h.form
  go_enter Tryd.func9, Tryd.ntmps9
  go_wp2_with fail
  refine (mark_res (h.next (below_alloc1 _ _)) k0 hk hx).mono ?_
  rintro e w1 ⟨rfl, hC, hR⟩
  have HC := Lib.hid ((Chg.of (below_alloc1 w _)).trans hC)
  clear hC hR
  obtain ⟨s, hs⟩ : ∃ s : Nat, k0 + xs.length = s := ⟨_, rfl⟩
  rw [hs]
  go_wp2_with fail
  go_ret
  exact ⟨by rw [hs]; rfl, HC.out⟩
theorem G4.chg {w0 W W' : World} {d p : Int} {v : Value} {k : Int} {B T : Nat} (h : G4 w0 d p v k W) (hb : Chg B T W W') (hq : w0.heap.size < B) : G4 w0 d p v k W' :=
  ⟨Chg.below h.b (by have := h.z; omega) hb (by omega), h.x.chg hb (.inl hq)⟩
end Go.Proofs.YtllojcndhkpfmaaDoor
namespace Go.Proofs.YtllojcndhkpfmaaDoor
open Go.RowKit Go.Joins Go.ChangeShapes Go.WideShapes Go.Deep
set_option linter.unusedVariables false

set_option maxRecDepth 100000 in
theorem gab_open {H : Type} {enc : TypeId × Value → H} {W : World} {r : Reach} {b0 base : Nat} {spare : Nat → Bool} {held : Bool} {v : Value} {d : DataW H} {ps : List MemPlace} (hv : Value.okWide Tryd.prog W r b0 26 v)
    (h : DataW.Trod enc Tryd.prog W base spare held 26 v d ps) : ∃ (d0 p0 k : Int) (A : Option Addr) (n cap : Nat) (zs : List Int), v = .agg (gabC d0 p0 (.slice A n cap) k) ∧ (Lit.int .i64 d0).wf = true ∧ (Lit.int .i64 p0).wf = true ∧ (Lit.int .i64 k).wf = true ∧ Arg W A n zs := by
  have hC : Tryd.prog.cellsOf 26 = 4 := by kernel_rfl
  have hC0 : Tryd.prog.cellsOf 23 = 2 := by kernel_rfl
  have hC1 : Tryd.prog.cellsOf 24 = 1 := by kernel_rfl
  have hC2 : Tryd.prog.cellsOf 2 = 1 := by kernel_rfl
  obtain ⟨cs, rfl, hsz⟩ := okWide_struct Tryd.underlying26 hv
  obtain ⟨c0, c1, c2, c3, rfl⟩ := array4 (hsz.trans hC)
  obtain ⟨fuel, hf⟩ := h
  obtain ⟨y0, y1, y2, n, hx, _, h0, h1, h2⟩ := trod_struct3 Tryd.underlying26 hf
  simp only [Value.cells, hC0, hC1, hC2, List.drop_zero] at h0 h1 h2
  have h0' : DataW.trod enc Tryd.prog W base spare held n 23 [c0, c1] = some y0 := h0
  have h1' : DataW.trod enc Tryd.prog W base spare held n 24 [c2] = some y1 := h1
  have h2' : DataW.trod enc Tryd.prog W base spare held n 2 [c3] = some y2 := h2
  obtain ⟨u0, u1, n', _, _, g0, g1⟩ := trod_struct2 Tryd.underlying23 h0'
  simp only [hC2, List.drop_zero] at g0 g1
  have g0' : DataW.trod enc Tryd.prog W base spare held n' 2 [c0] = some u0 := g0
  have g1' : DataW.trod enc Tryd.prog W base spare held n' 2 [c1] = some u1 := g1
  obtain ⟨x0, e0, _, w0⟩ := DataW.trod_int Tryd.underlying2 g0'
  obtain ⟨x1, e1, _, w1⟩ := DataW.trod_int Tryd.underlying2 g1'
  obtain ⟨x3, e3, _, w3⟩ := DataW.trod_int Tryd.underlying2 h2'
  obtain ⟨A, m, cap, zs, rfl, hA⟩ := arg_open h1'
  simp at e0 e1 e3
  subst e0 e1 e3
  exact ⟨x0, x1, x3, A, m, cap, zs, rfl, w0, w1, w3, hA⟩
end Go.Proofs.YtllojcndhkpfmaaDoor
