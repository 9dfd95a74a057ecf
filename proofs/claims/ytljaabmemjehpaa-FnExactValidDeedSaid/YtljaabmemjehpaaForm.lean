/- The forms of deeds: the program's; the copy of a deed that the laws make. -/
import Derived.Test.YtljaabmemjehpaaIn
import Derived.Test.YtljaabmemjehpaaLB
namespace Go.Proofs.Ytljaabmemjehpaa
open Go.RowKit Go.Joins Go.ChangeShapes Go.WideShapes Go.Deep
set_option linter.unusedVariables false

/-- How many numbers the text of a kind of deeds mentions. -/
def told (k : Int) : Int := if k = 1 then 3 else if k = 5 then 2 else 1
/-- A number of a deed, with its place, is as it should be. -/
def okN (k n : Int) (j : Nat) : Bool := decide (0 ≤ n ∧ n ≤ 9999 ∧ ((j : Int) < told k ∨ n = 0))
def fValidDeed (k a b c : Int) : Bool := decide (1 ≤ k ∧ k ≤ 8) && (okN k a 0 && (okN k b 1 && okN k c 2))
/-- A deed's four values. -/
abbrev deedL (k a b c : Int) : List Value := [.int .i64 k, .int .i64 a, .int .i64 b, .int .i64 c]

set_option maxHeartbeats 800000 in
theorem toDeed_any (k a b c : Int) (w : World) :
    Calls Try.prog 43 #[.agg #[.int .i64 k, .int .i64 a, .int .i64 b, .int .i64 c]] w fun e w' => e = .returned (.agg #[.int .i64 k, .int .i64 a, .int .i64 b, .int .i64 c]) ∧ Below w.heap.size w w' := by
  go_enter Try.func43, Try.ntmps43
  go_wp2
  refine bodyPost_ret (v := .agg #[.int .i64 k, .int .i64 a, .int .i64 b, .int .i64 c]) (by simp [results, Try.results43, go_sem]) rfl ⟨rfl, ?_⟩
  exact (((Below.refl _ w).alloc (Nat.le_refl _) _).alloc (by simp) _).alloc (by simp; omega) _

set_option maxHeartbeats 400000 in
theorem isDeedNumber_any (n : Int) (w : World) :
    Calls Try.prog 95 #[.int .i64 n] w fun e w' => e = .returned (.bool (decide (0 ≤ n ∧ n ≤ 9999))) ∧ w = w' := by
  by_cases h1 : 0 ≤ n
  · by_cases h2 : n ≤ 9999
    · go_enter Try.func95, Try.ntmps95
      go_wp2
      go_ret
      exact ⟨ret_bool (by simp [h1, h2]), rfl⟩
    · go_enter Try.func95, Try.ntmps95
      go_wp2
      go_ret
      exact ⟨ret_bool (by simp [h2]), rfl⟩
  · go_enter Try.func95, Try.ntmps95
    go_wp2
    go_ret
    exact ⟨ret_bool (by simp; omega), rfl⟩

theorem forms_at (k : Nat) (h1 : 1 ≤ k) (h2 : k ≤ 8) (w : World) : ∃ s, ((w.alloc (.cells #[.string ⟨#[]⟩, .int .i64 0] 131)).alloc (.cells #[.string ⟨#[]⟩, .int .i64 0, .string ⟨#[115, 101, 110, 100]⟩, .int .i64 3, .string ⟨#[100, 101, 108, 105, 118, 101, 114]⟩, .int .i64 1, .string ⟨#[99, 111, 112, 121]⟩, .int .i64 1, .string ⟨#[100, 114, 111, 112]⟩, .int .i64 1, .string ⟨#[115, 112, 111, 105, 108]⟩, .int .i64 2, .string ⟨#[115, 97, 118, 101]⟩, .int .i64 1, .string ⟨#[99, 114, 97, 115, 104]⟩, .int .i64 1, .string ⟨#[102, 111, 114, 103, 101, 116]⟩, .int .i64 1] 200)).cell? ⟨w.heap.size + 1, k * 2, none⟩ = some (.string s) ∧ ((w.alloc (.cells #[.string ⟨#[]⟩, .int .i64 0] 131)).alloc (.cells #[.string ⟨#[]⟩, .int .i64 0, .string ⟨#[115, 101, 110, 100]⟩, .int .i64 3, .string ⟨#[100, 101, 108, 105, 118, 101, 114]⟩, .int .i64 1, .string ⟨#[99, 111, 112, 121]⟩, .int .i64 1, .string ⟨#[100, 114, 111, 112]⟩, .int .i64 1, .string ⟨#[115, 112, 111, 105, 108]⟩, .int .i64 2, .string ⟨#[115, 97, 118, 101]⟩, .int .i64 1, .string ⟨#[99, 114, 97, 115, 104]⟩, .int .i64 1, .string ⟨#[102, 111, 114, 103, 101, 116]⟩, .int .i64 1] 200)).cell? ⟨w.heap.size + 1, k * 2 + 1, none⟩ = some (.int .i64 (told k)) := by
  have e : ∀ j, ((w.alloc (.cells #[.string ⟨#[]⟩, .int .i64 0] 131)).alloc (.cells #[.string ⟨#[]⟩, .int .i64 0, .string ⟨#[115, 101, 110, 100]⟩, .int .i64 3, .string ⟨#[100, 101, 108, 105, 118, 101, 114]⟩, .int .i64 1, .string ⟨#[99, 111, 112, 121]⟩, .int .i64 1, .string ⟨#[100, 114, 111, 112]⟩, .int .i64 1, .string ⟨#[115, 112, 111, 105, 108]⟩, .int .i64 2, .string ⟨#[115, 97, 118, 101]⟩, .int .i64 1, .string ⟨#[99, 114, 97, 115, 104]⟩, .int .i64 1, .string ⟨#[102, 111, 114, 103, 101, 116]⟩, .int .i64 1] 200)).cell? ⟨w.heap.size + 1, j, none⟩ = (#[.string ⟨#[]⟩, .int .i64 0, .string ⟨#[115, 101, 110, 100]⟩, .int .i64 3, .string ⟨#[100, 101, 108, 105, 118, 101, 114]⟩, .int .i64 1, .string ⟨#[99, 111, 112, 121]⟩, .int .i64 1, .string ⟨#[100, 114, 111, 112]⟩, .int .i64 1, .string ⟨#[115, 112, 111, 105, 108]⟩, .int .i64 2, .string ⟨#[115, 97, 118, 101]⟩, .int .i64 1, .string ⟨#[99, 114, 97, 115, 104]⟩, .int .i64 1, .string ⟨#[102, 111, 114, 103, 101, 116]⟩, .int .i64 1] : Array Value)[j]? := fun j => by
    rw [World.cell?_alloc_at _ _ _ _ (by simp)]
  rw [e, e]
  obtain rfl | rfl | rfl | rfl | rfl | rfl | rfl | rfl : k = 1 ∨ k = 2 ∨ k = 3 ∨ k = 4 ∨ k = 5 ∨ k = 6 ∨ k = 7 ∨ k = 8 := by omega
  all_goals exact ⟨_, rfl, rfl⟩

set_option maxRecDepth 100000 in
set_option maxHeartbeats 3200000 in
theorem formOf_yes (k : Nat) (h1 : 1 ≤ k) (h2 : k ≤ 8) (w : World) :
    Calls Try.prog 93 #[.int .i64 k] w fun e w' => ∃ s, e = .returned (.tuple #[.agg #[.string s, .int .i64 (told k)], .bool true]) ∧ Below w.heap.size w w' := by
  have hb : ∀ O O' : Obj, Below w.heap.size w ((w.alloc O).alloc O') := fun O O' => below_alloc2 w O O'
  have h3 : ¬ ((k : Int) < 1) := by omega
  have h4 : ¬ ((k : Int) > 8) := by omega
  obtain ⟨s, z0, z1⟩ := forms_at k h1 h2 w
  generalize told k = t at z1 ⊢
  go_enter Try.func93, Try.ntmps93
  go_wp2
  refine bodyPost_ret (v := .tuple #[.agg #[.string s, .int .i64 t], .bool true]) (by simp [results, Try.results93, go_sem]) rfl ⟨⟨_, rfl⟩, ?_⟩
  exact hb _ _

set_option maxRecDepth 100000 in
set_option maxHeartbeats 3200000 in
theorem formOf_no (k : Int) (h : ¬ (1 ≤ k ∧ k ≤ 8)) (w : World) :
    Calls Try.prog 93 #[.int .i64 k] w fun e w' => ∃ s n, e = .returned (.tuple #[.agg #[.string s, .int .i64 n], .bool false]) ∧ Below w.heap.size w w' := by
  have hb : ∀ O O' : Obj, Below w.heap.size w ((w.alloc O).alloc O') := fun O O' => below_alloc2 w O O'
  by_cases h1 : k < 1
  · go_enter Try.func93, Try.ntmps93
    go_wp2
    refine bodyPost_ret (v := .tuple #[.agg #[.string ⟨#[]⟩, .int .i64 0], .bool false]) (by simp [results, Try.results93, go_sem]) rfl ?_
    first | exact ⟨⟨⟨#[]⟩, 0, rfl⟩, hb _ _⟩ | exact ⟨⟨#[]⟩, 0, rfl, hb _ _⟩
  · have h2 : 8 < k := by omega
    go_enter Try.func93, Try.ntmps93
    go_wp2
    refine bodyPost_ret (v := .tuple #[.agg #[.string ⟨#[]⟩, .int .i64 0], .bool false]) (by simp [results, Try.results93, go_sem]) rfl ?_
    first | exact ⟨⟨⟨#[]⟩, 0, rfl⟩, hb _ _⟩ | exact ⟨⟨#[]⟩, 0, rfl, hb _ _⟩

set_option maxRecDepth 100000 in
set_option maxHeartbeats 800000 in
theorem deedNumbers_any (k a b c : Int) (w : World) :
    Calls Try.prog 94 #[.agg #[.int .i64 k, .int .i64 a, .int .i64 b, .int .i64 c]] w fun e w' => e = .returned (.agg #[.int .i64 a, .int .i64 b, .int .i64 c]) ∧ Below w.heap.size w w' := by
  have hb : ∀ O O' : Obj, Below w.heap.size w ((w.alloc O).alloc O') := fun O O' => below_alloc2 w O O'
  go_enter Try.func94, Try.ntmps94
  go_wp2
  exact bodyPost_ret (v := .agg #[.int .i64 a, .int .i64 b, .int .i64 c]) (by simp [results, Try.results94, go_sem]) rfl ⟨rfl, hb _ _⟩

set_option maxRecDepth 100000 in
set_option maxHeartbeats 1600000 in
theorem deed_open {H : Type} {enc : TypeId × Value → H} {W : World} {r : Reach} {b0 base : Nat} {spare : Nat → Bool} {held : Bool} {v : Value} {d : DataW H} {ps : List MemPlace} (hv : Value.okWide Try.prog W r b0 61 v)
    (h : DataW.Trod enc Try.prog W base spare held 61 v d ps) : ∃ k a b c : Int, v = .agg #[.int .i64 k, .int .i64 a, .int .i64 b, .int .i64 c] ∧ (Lit.int .i64 k).wf = true ∧ (Lit.int .i64 a).wf = true ∧ (Lit.int .i64 b).wf = true ∧ (Lit.int .i64 c).wf = true := by
  have hC : Try.prog.cellsOf 61 = 4 := by kernel_rfl
  have hC2 : Try.prog.cellsOf 2 = 1 := by kernel_rfl
  obtain ⟨cs, rfl, hsz⟩ := okWide_struct Try.underlying61 hv
  obtain ⟨c0, c1, c2, c3, rfl⟩ := array4 (hsz.trans hC)
  obtain ⟨fuel, hf⟩ := h
  obtain ⟨y0, y1, y2, y3, n, _, _, h0, h1, h2, h3⟩ := trod_struct4 Try.underlying61 hf
  simp only [Value.cells, hC2, List.drop_zero] at h0 h1 h2 h3
  have h0' : DataW.trod enc Try.prog W base spare held n 2 [c0] = some y0 := h0
  have h1' : DataW.trod enc Try.prog W base spare held n 2 [c1] = some y1 := h1
  have h2' : DataW.trod enc Try.prog W base spare held n 2 [c2] = some y2 := h2
  have h3' : DataW.trod enc Try.prog W base spare held n 2 [c3] = some y3 := h3
  obtain ⟨x0, e0, _, w0⟩ := DataW.trod_int Try.underlying2 h0'
  obtain ⟨x1, e1, _, w1⟩ := DataW.trod_int Try.underlying2 h1'
  obtain ⟨x2, e2, _, w2⟩ := DataW.trod_int Try.underlying2 h2'
  obtain ⟨x3, e3, _, w3⟩ := DataW.trod_int Try.underlying2 h3'
  simp at e0 e1 e2 e3
  subst e0 e1 e2 e3
  exact ⟨x0, x1, x2, x3, rfl, w0, w1, w2, w3⟩
end Go.Proofs.Ytljaabmemjehpaa
