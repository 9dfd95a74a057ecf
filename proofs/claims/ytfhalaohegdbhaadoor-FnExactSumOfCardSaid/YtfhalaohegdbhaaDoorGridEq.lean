/- Grids compared as values. -/
import Derived.Test.YtfhalaohegdbhaaDoorGrid
import Derived.Laws.StructEq
import Derived.ChangeKeysEq
namespace Go.Proofs.YtfhalaohegdbhaaDoor
open Go.RowKit Go.Joins
set_option linter.unusedVariables false

theorem Tryd.fieldsG : (Tryd.prog.fieldsOf 59).toList.map (fun f => (f.name == "_", f.type, f.offset)) = [(false, 57, 0), (false, 2, 11)] := by kernel_rfl
theorem Tryd.fieldsR : (Tryd.prog.fieldsOf 57).toList.map (fun f => (f.name == "_", f.type, f.offset)) = [(false, 2, 0), (false, 55, 1)] := by kernel_rfl
theorem Tryd.structG : Tryd.prog.underlying 59 = some (.struct (Tryd.prog.fieldsOf 59)) := by kernel_rfl
theorem Tryd.structR : Tryd.prog.underlying 57 = some (.struct (Tryd.prog.fieldsOf 57)) := by kernel_rfl
theorem Tryd.stoodG : Tryd.prog.stoodInHeld 59 = false := by kernel_rfl
theorem Tryd.stoodR : Tryd.prog.stoodInHeld 57 = false := by kernel_rfl
theorem Tryd.infoRowE : ∃ i, Tryd.prog.info? 54 = some i := Option.isSome_iff_exists.1 (by kernel_rfl)
theorem Tryd.cellsE : Tryd.prog.cellsOf 54 = 1 := by kernel_rfl
theorem Tryd.plainE : Tryd.prog.plainKey 54 = true := by kernel_rfl
theorem Tryd.plainI : Tryd.prog.plainKey 2 = true := by kernel_rfl
theorem Tryd.guardG : Tryd.prog.eqGuardType Tryd.prog.depth 59 = false := by kernel_rfl

/-- The rows of a grid, and its list of rows, as cells. -/
def tenC (L : List Nat) : Array Value := #[.int .u32 (nth L 0 : Nat), .int .u32 (nth L 1 : Nat), .int .u32 (nth L 2 : Nat), .int .u32 (nth L 3 : Nat), .int .u32 (nth L 4 : Nat), .int .u32 (nth L 5 : Nat), .int .u32 (nth L 6 : Nat), .int .u32 (nth L 7 : Nat), .int .u32 (nth L 8 : Nat), .int .u32 (nth L 9 : Nat)]
def listC (L : List Nat) : Array Value := #[.int .i64 (L.length : Nat), .int .u32 (nth L 0 : Nat), .int .u32 (nth L 1 : Nat), .int .u32 (nth L 2 : Nat), .int .u32 (nth L 3 : Nat), .int .u32 (nth L 4 : Nat), .int .u32 (nth L 5 : Nat), .int .u32 (nth L 6 : Nat), .int .u32 (nth L 7 : Nat), .int .u32 (nth L 8 : Nat), .int .u32 (nth L 9 : Nat)]
theorem tenC_get (L : List Nat) (i : Nat) (h : i < 10) : (tenC L)[i]? = some (.int .u32 (nth L i : Nat)) := by
  match i, h with
  | 0, _ => rfl
  | 1, _ => rfl
  | 2, _ => rfl
  | 3, _ => rfl
  | 4, _ => rfl
  | 5, _ => rfl
  | 6, _ => rfl
  | 7, _ => rfl
  | 8, _ => rfl
  | 9, _ => rfl
theorem eqItems_rows (d : Nat) (xs ys : Array Value) (a b : Nat → Int) : ∀ (is : List Nat), (∀ i ∈ is, xs[i]? = some (.int .u32 (a i))) → (∀ i ∈ is, ys[i]? = some (.int .u32 (b i))) → ∀ (w : World),
    (Op.eqItems (d + 1) 54 (Tryd.prog.cellsOf 54) xs ys is).run Tryd.prog w = .ok (is.all fun i => a i == b i) w
  | [], _, _, w => by simp [Op.eqItems]
  | i :: is, hx, hy, w => by
    have ih := eqItems_rows d xs ys a b is (fun j hj => hx j (List.mem_cons_of_mem _ hj)) (fun j hj => hy j (List.mem_cons_of_mem _ hj)) w
    have h1 := run_part_plain (P := Tryd.prog) w Tryd.plainE (hx i List.mem_cons_self)
    have h2 := run_part_plain (P := Tryd.prog) w Tryd.plainE (hy i List.mem_cons_self)
    rw [Tryd.cellsE] at ih ⊢
    have h3 := run_equalIn_int (P := Tryd.prog) w d 54 .u32 .u32 (a i) (b i) Tryd.underlying54
    simp only [Op.eqItems, Sem.run_bind, Nat.mul_one, h1, h2, h3, Result.andThen_ok]
    cases hr : (a i == b i)
    · simp [hr]
    · simp [hr, ih]
theorem equal_rows (L M : List Nat) (w : World) : (Op.equalIn 9998 55 (.agg (tenC L)) (.agg (tenC M))).run Tryd.prog w = .ok ((List.range 10).all fun i => ((nth L i : Nat) : Int) == ((nth M i : Nat) : Int)) w := by
  obtain ⟨i, hi⟩ := Tryd.infoRowE
  rw [run_equalIn_array (P := Tryd.prog) w 9997 (tenC L) (tenC M) Tryd.underlying55 hi]
  exact eqItems_rows 9996 (tenC L) (tenC M) (fun i => ((nth L i : Nat) : Int)) (fun i => ((nth M i : Nat) : Int)) (List.range 10) (fun i hi => tenC_get L i (List.mem_range.1 hi)) (fun i hi => tenC_get M i (List.mem_range.1 hi)) w
theorem two_fields {P : Program} {t : TypeId} {a b : Bool × TypeId × Nat} (h : (P.fieldsOf t).toList.map (fun f => (f.name == "_", f.type, f.offset)) = [a, b]) : ∃ f g, (P.fieldsOf t).toList = [f, g] ∧ (f.name == "_", f.type, f.offset) = a ∧ (g.name == "_", g.type, g.offset) = b := by
  match h2 : (P.fieldsOf t).toList, h with
  | [f, g], h => simp at h; exact ⟨f, g, rfl, by simp [h.1], by simp [h.2]⟩
theorem part_listR (L : List Nat) (w : World) : (Go.part 55 (listC L) 1).run Tryd.prog w = .ok (.agg (tenC L)) w := by kernel_rfl
theorem part_gridR (L : List Nat) (c : Int) (w : World) : (Go.part 57 (gridC L c) 0).run Tryd.prog w = .ok (.agg (listC L)) w := by kernel_rfl
theorem equal_list (L M : List Nat) (w : World) : (Op.equalIn 9999 57 (.agg (listC L)) (.agg (listC M))).run Tryd.prog w = .ok (((L.length : Int) == (M.length : Int)) && (List.range 10).all fun i => ((nth L i : Nat) : Int) == ((nth M i : Nat) : Int)) w := by
  rw [run_equalIn_struct (P := Tryd.prog) w 9998 57 _ _ Tryd.structR Tryd.stoodR]
  obtain ⟨f, g, e, hf, hg⟩ := two_fields Tryd.fieldsR
  simp only [Prod.mk.injEq] at hf hg
  have h1 := run_part_plain (P := Tryd.prog) w Tryd.plainI (xs := listC L) (off := 0) (v := .int .i64 (L.length : Nat)) rfl
  have h2 := run_part_plain (P := Tryd.prog) w Tryd.plainI (xs := listC M) (off := 0) (v := .int .i64 (M.length : Nat)) rfl
  have h3 := run_equalIn_int (P := Tryd.prog) w 9997 2 .i64 .i64 (L.length : Nat) (M.length : Nat) Tryd.underlying2
  have n1 : f.name ≠ "_" := by simpa using hf.1
  have n2 : g.name ≠ "_" := by simpa using hg.1
  rw [e]
  simp only [Op.eqFields, Sem.run_bind, Sem.run_ite, n1, n2, ne_eq, not_false_iff, if_true, hf.2.1, hf.2.2, hg.2.1, hg.2.2, h1, h2, h3, Result.andThen_ok]
  cases hr : ((L.length : Int) == (M.length : Int))
  · simp
  · have h4 := part_listR L w
    have h5 := part_listR M w
    have h6 := equal_rows L M w
    simp only [Bool.not_true, Bool.false_eq_true, if_false, h4, h5, h6, Result.andThen_ok]
    cases ha : (List.range 10).all fun i => ((nth L i : Nat) : Int) == ((nth M i : Nat) : Int) <;> simp
theorem equal_grid' (L M : List Nat) (c d : Int) (w : World) : (Op.equalIn 10000 59 (.agg (gridC L c)) (.agg (gridC M d))).run Tryd.prog w = .ok ((((L.length : Int) == (M.length : Int)) && (List.range 10).all fun i => ((nth L i : Nat) : Int) == ((nth M i : Nat) : Int)) && (c == d)) w := by
  rw [run_equalIn_struct (P := Tryd.prog) w 9999 59 _ _ Tryd.structG Tryd.stoodG]
  obtain ⟨f, g, e, hf, hg⟩ := two_fields Tryd.fieldsG
  simp only [Prod.mk.injEq] at hf hg
  have h1 := part_gridR L c w
  have h2 := part_gridR M d w
  have h3 := equal_list L M w
  have n1 : f.name ≠ "_" := by simpa using hf.1
  have n2 : g.name ≠ "_" := by simpa using hg.1
  rw [e]
  simp only [Op.eqFields, Sem.run_bind, Sem.run_ite, n1, n2, ne_eq, not_false_iff, if_true, hf.2.1, hf.2.2, hg.2.1, hg.2.2, h1, h2, h3, Result.andThen_ok]
  cases hr : (((L.length : Int) == (M.length : Int)) && (List.range 10).all fun i => ((nth L i : Nat) : Int) == ((nth M i : Nat) : Int))
  · simp
  · have h4 := run_part_plain (P := Tryd.prog) w Tryd.plainI (xs := gridC L c) (off := 11) (v := .int .i64 c) rfl
    have h5 := run_part_plain (P := Tryd.prog) w Tryd.plainI (xs := gridC M d) (off := 11) (v := .int .i64 d) rfl
    have h6 := run_equalIn_int (P := Tryd.prog) w 9998 2 .i64 .i64 c d Tryd.underlying2
    simp only [Bool.not_true, Bool.false_eq_true, if_false, h4, h5, h6, Result.andThen_ok]
    cases ha : (c == d) <;> simp
theorem grid_decide {L M : List Nat} {c d : Int} (hl : L.length ≤ 10) : ((((L.length : Int) == (M.length : Int)) && (List.range 10).all fun i => ((nth L i : Nat) : Int) == ((nth M i : Nat) : Int)) && (c == d)) = decide (L = M ∧ c = d) := by
  rw [Bool.eq_iff_iff]
  simp only [Bool.and_eq_true, beq_iff_eq, List.all_eq_true, List.mem_range, decide_eq_true_eq]
  constructor
  · rintro ⟨⟨h1, h2⟩, h3⟩
    refine ⟨List.ext_getElem (by omega) (fun j a b => ?_), h3⟩
    have := h2 j (by omega)
    simp [nth, a, b] at this
    omega
  · rintro ⟨rfl, rfl⟩
    exact ⟨⟨rfl, fun _ _ => rfl⟩, rfl⟩
theorem neq_grid (L M : List Nat) (c d : Int) (hl : L.length ≤ 10) (w : World) : (binOp .neq 59 (.agg (gridC L c)) (.agg (gridC M d))).run Tryd.prog w = .ok (.bool (!decide (L = M ∧ c = d))) w := by
  rw [run_neq_struct, equal_grid', grid_decide hl]; rfl
theorem eql_grid (L M : List Nat) (c d : Int) (hl : L.length ≤ 10) (w : World) : (binOp .eql 59 (.agg (gridC L c)) (.agg (gridC M d))).run Tryd.prog w = .ok (.bool (decide (L = M ∧ c = d))) w := by
  rw [run_eql_struct, equal_grid', grid_decide hl]; rfl
end Go.Proofs.YtfhalaohegdbhaaDoor
