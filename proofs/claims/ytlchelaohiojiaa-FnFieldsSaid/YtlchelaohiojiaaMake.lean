/- The program's calculator: it is made. -/
import Derived.Test.YtlchelaohiojiaaFill
import Derived.Test.YtlchelaohiojiaaToField
import Derived.Test.YtlchelaohiojiaaHasAll
namespace Go.Proofs.Ytlchelaohiojiaa
open Go.RowKit
set_option linter.unusedVariables false

theorem validField_eq (d p : Int) (b : Bool) (h : fldI d p = b) (hl : -9223372036854775808 ≤ p) (hh : p ≤ 9223372036854775807) (w : World) :
    Calls Try.prog 17 #[.agg #[.int .i64 d, .int .i64 p]] w fun e w' => e = .returned (.bool b) ∧ Below w.heap.size w w' := by
  rw [← h]; exact validField_any d p hl hh w

set_option maxHeartbeats 400000 in
theorem calculatorFor_invalid (d p : Int) (hf : fldI d p = false) (hl : -9223372036854775808 ≤ p) (hh : p ≤ 9223372036854775807) (sv : Value) (w : World) :
    Calls Try.prog 63 #[.agg #[.int .i64 d, .int .i64 p], sv] w fun e w' => e = .returned (.tuple #[.pointer none, .int .i64 1]) ∧ Below w.heap.size w w' := by
  have HF := Lib.hid hf
  clear hf
  go_enter Try.func63, Try.ntmps63
  go_wp2_with (go_at_call 17; refine (validField_eq _ _ _ HF.out hl hh _).mono ?_; rintro e w1 ⟨rfl, hb⟩)
  go_ret2
  exact ⟨rfl, ((Below.refl _ w).alloc (Nat.le_refl _) _).trans (hb.mono (by simp))⟩

/-- A new calculator's block. -/
structure Fresh (c m : Nat) (W : World) : Prop where
  deg : W.cell? ⟨c, 0, none⟩ = some (.int .i64 m)
  frz : ∀ x, x < 1025 → W.frozen? ⟨c, x, none⟩ = false
  old : ∀ x, x < 1025 → ∃ v, W.cell? ⟨c, x, none⟩ = some v
theorem Fresh.filled {c m P n : Nat} {W W' : World} (h : Fresh c m W) (e : W'.heap = W.heap) : Filled c m P n W' W' 0 0 := by
  have hc : ∀ a, W'.cell? a = W.cell? a := fun a => by unfold World.cell?; rw [e]
  have hf : ∀ a, W'.frozen? a = W.frozen? a := fun a => by unfold World.frozen?; rw [e]
  exact ⟨Below.refl _ _, by rw [hc]; exact h.deg, fun x hx => by rw [hf]; exact h.frz x hx, fun x hx => by rw [hc]; exact h.old x hx, fun a b _ _ hab => by omega, rfl⟩

theorem cell_of_cells {W : World} {B x : Nat} {cs : Array Value} {t : TypeId} (h : W.heap[B]? = some (.cells cs t (0, 0))) : W.cell? ⟨B, x, none⟩ = cs[x]? ∧ W.frozen? ⟨B, x, none⟩ = false := by
  constructor <;> simp [World.cell?, World.frozen?, h]
theorem fresh_new (m : Nat) (w : World) : Fresh w.heap.size m (w.alloc (.cells (Try.zeroCells148.setIfInBounds 0 (.int .i64 m)) 148)) := by
  have h := World.alloc_heap_new w (.cells (Try.zeroCells148.setIfInBounds 0 (.int .i64 m)) 148)
  refine ⟨?_, fun x _ => (cell_of_cells h).2, fun x hx => ?_⟩
  · rw [(cell_of_cells h).1]
    simp
  · rw [(cell_of_cells h).1]
    have : x < (Try.zeroCells148.setIfInBounds 0 (.int .i64 m)).size := by simp; omega
    exact ⟨_, Array.getElem?_eq_getElem this⟩

set_option maxHeartbeats 1000000 in
theorem calculatorFor_C (m P n : Nat) (hF : Fld m P n) (w : World) (A : Option Addr) (len cap : Nat) (zs : List Int) (hA : Arg w A len zs) (hlen : len ≤ 140737488351232) (hin : allIn n zs = true) :
    Calls Try.prog 63 #[.agg #[.int .i64 m, .int .i64 P], .slice A len cap] w fun e w' => ∃ c, e = .returned (.tuple #[.pointer (some ⟨c, 0, none⟩), .int .i64 0]) ∧ Below w.heap.size w w' ∧ Calc c m P n w' ∧ w.heap.size ≤ c := by
  have HF := Lib.hid (fldI_of hF.f)
  have hP := hF.P64
  have hmf : ∀ (fn : Fn) (first cap : Array Value) (w : World), (Instr.makeFunc fn first cap).run Try.prog w = .ok (.func fn first cap) w := fun _ _ _ _ => rfl
  have HIN := Lib.hid hin
  clear hin
  go_enter Try.func63, Try.ntmps63
  go_wp2_with fail
  have h0 := FAt.start w m P 25
  refine (validField_eq _ _ _ HF.out (by omega) (by omega) _).mono ?_
  rintro e w1 ⟨rfl, hb⟩
  have h1 := h0.next hb
  have z1 := h1.z; have c1 := h1.c0; have d1 := h1.c1
  clear hb h0
  go_wp2_with fail
  have g1 := h1.alloc (.cells (Try.zeroCells148.setIfInBounds 0 (.int .i64 m)) 148)
  have fr := fresh_new m w1
  have hcB : w.heap.size < w1.heap.size := by omega
  have zz : (w1.alloc (.cells (Try.zeroCells148.setIfInBounds 0 (.int .i64 m)) 148)).heap.size = w1.heap.size + 1 := by simp
  generalize w1.alloc (.cells (Try.zeroCells148.setIfInBounds 0 (.int .i64 m)) 148) = W at g1 fr zz ⊢
  generalize w1.heap.size = c at fr hcB zz z1 ⊢
  clear h1 c1 d1
  have hAW := hA.from g1.b
  have H := hasAll_any c m P n hF A len cap zs hlen W hAW fr.deg
  rw [HIN.out] at H
  refine H.mono ?_
  clear H hAW
  rintro e w' ⟨rfl, rfl⟩
  go_wp2_with fail
  have hP1 := g1.c1
  have hD := fr.deg
  go_region_with (first | (go_at_call 114; refine (size_any c m P n hF _ (by exact hD)).mono ?_; rintro e w' ⟨rfl, rfl⟩) | (go_at_call 113; refine (fill_any c w.heap.size m P n hcB hF _ (by exact hP1) (fr.filled (by rfl))).mono ?_; rintro e w2 ⟨rfl, hfi⟩))
  all_goals
    clear hP1 hD
    go_wp2
    go_ret2
    exact ⟨c, rfl, g1.b.drew.trans (hfi.b.mono (by omega)), ⟨hfi.deg, fun a b ha hb => hfi.tab a b ha hb (.inl ha)⟩, by omega⟩
set_option maxHeartbeats 1000000 in
theorem calculatorFor_B (m P n : Nat) (hF : Fld m P n) (w : World) (A : Option Addr) (len cap : Nat) (zs : List Int) (hA : Arg w A len zs) (hlen : len ≤ 140737488351232) (hin : allIn n zs = false) :
    Calls Try.prog 63 #[.agg #[.int .i64 m, .int .i64 P], .slice A len cap] w fun e w' => e = .returned (.tuple #[.pointer none, .int .i64 2]) ∧ Below w.heap.size w w' := by
  have HF := Lib.hid (fldI_of hF.f)
  have hP := hF.P64
  have HIN := Lib.hid hin
  clear hin
  go_enter Try.func63, Try.ntmps63
  go_wp2_with fail
  have h0 := FAt.start w m P 25
  refine (validField_eq _ _ _ HF.out (by omega) (by omega) _).mono ?_
  rintro e w1 ⟨rfl, hb⟩
  have h1 := h0.next hb
  have z1 := h1.z; have c1 := h1.c0; have d1 := h1.c1
  clear hb h0
  go_wp2_with fail
  have g1 := h1.alloc (.cells (Try.zeroCells148.setIfInBounds 0 (.int .i64 m)) 148)
  have fr := fresh_new m w1
  have hcB : w.heap.size < w1.heap.size := by omega
  have zz : (w1.alloc (.cells (Try.zeroCells148.setIfInBounds 0 (.int .i64 m)) 148)).heap.size = w1.heap.size + 1 := by simp
  generalize w1.alloc (.cells (Try.zeroCells148.setIfInBounds 0 (.int .i64 m)) 148) = W at g1 fr zz ⊢
  generalize w1.heap.size = c at fr hcB zz z1 ⊢
  clear h1 c1 d1
  have hAW := hA.from g1.b
  have H := hasAll_any c m P n hF A len cap zs hlen W hAW fr.deg
  rw [HIN.out] at H
  refine H.mono ?_
  clear H hAW
  rintro e w' ⟨rfl, rfl⟩
  go_wp2
  go_ret2
  exact ⟨rfl, g1.b⟩
theorem arg_nil (w : World) : Arg w none 0 [] := ⟨rfl, by omega, fun h => by omega⟩
theorem calculatorFor_none (m P n : Nat) (hF : Fld m P n) (w : World) :
    Calls Try.prog 63 #[.agg #[.int .i64 m, .int .i64 P], .slice none 0 0] w fun e w' => ∃ c, e = .returned (.tuple #[.pointer (some ⟨c, 0, none⟩), .int .i64 0]) ∧ Below w.heap.size w w' ∧ Calc c m P n w' ∧ w.heap.size ≤ c :=
  calculatorFor_C m P n hF w none 0 0 [] (arg_nil w) (by omega) rfl
end Go.Proofs.Ytlchelaohiojiaa
