/- Grids compared as values. · The grid of a space: the program's. -/
import Derived.Test.YtilghmfffdmnjaaDoorGrid
import Derived.Laws.StructEq
import Derived.ChangeKeysEq
import Derived.Test.YtilghmfffdmnjaaDoorGridFor
import Derived.Test.YtilghmfffdmnjaaDoorEchelonOf
namespace Go.Proofs.YtilghmfffdmnjaaDoor
open Go.RowKit Go.Joins
set_option linter.unusedVariables false

theorem Tryd.fieldsG : (Tryd.prog.fieldsOf 105).toList.map (fun f => (f.name == "_", f.type, f.offset)) = [(false, 103, 0), (false, 2, 11)] := by kernel_rfl
theorem Tryd.fieldsR : (Tryd.prog.fieldsOf 103).toList.map (fun f => (f.name == "_", f.type, f.offset)) = [(false, 2, 0), (false, 101, 1)] := by kernel_rfl
theorem Tryd.structG : Tryd.prog.underlying 105 = some (.struct (Tryd.prog.fieldsOf 105)) := by kernel_rfl
theorem Tryd.structR : Tryd.prog.underlying 103 = some (.struct (Tryd.prog.fieldsOf 103)) := by kernel_rfl
theorem Tryd.stoodG : Tryd.prog.stoodInHeld 105 = false := by kernel_rfl
theorem Tryd.stoodR : Tryd.prog.stoodInHeld 103 = false := by kernel_rfl
theorem Tryd.infoRowE : ∃ i, Tryd.prog.info? 100 = some i := Option.isSome_iff_exists.1 (by kernel_rfl)
theorem Tryd.cellsE : Tryd.prog.cellsOf 100 = 1 := by kernel_rfl
theorem Tryd.plainE : Tryd.prog.plainKey 100 = true := by kernel_rfl
theorem Tryd.plainI : Tryd.prog.plainKey 2 = true := by kernel_rfl
theorem Tryd.guardG : Tryd.prog.eqGuardType Tryd.prog.depth 105 = false := by kernel_rfl

/-- The rows of a grid, and its list of rows, as cells. -/
def tenC (L : List Nat) : Array Value := #[.int .u32 (nth L 0 : Nat), .int .u32 (nth L 1 : Nat), .int .u32 (nth L 2 : Nat), .int .u32 (nth L 3 : Nat), .int .u32 (nth L 4 : Nat), .int .u32 (nth L 5 : Nat), .int .u32 (nth L 6 : Nat), .int .u32 (nth L 7 : Nat), .int .u32 (nth L 8 : Nat), .int .u32 (nth L 9 : Nat)]
def listC (L : List Nat) : Array Value := #[.int .i64 (L.length : Nat), .int .u32 (nth L 0 : Nat), .int .u32 (nth L 1 : Nat), .int .u32 (nth L 2 : Nat), .int .u32 (nth L 3 : Nat), .int .u32 (nth L 4 : Nat), .int .u32 (nth L 5 : Nat), .int .u32 (nth L 6 : Nat), .int .u32 (nth L 7 : Nat), .int .u32 (nth L 8 : Nat), .int .u32 (nth L 9 : Nat)]
theorem tenC_get (L : List Nat) (i : Nat) (h : i < 10) : (tenC L)[i]? = some (.int .u32 (nth L i : Nat)) := by
  match i, h with
  | 0, _ => rfl
  | 1, _ => rfl
  | 2, _ => rfl
  | 3, _ => rfl
  | 4, _ => rfl
  | 5, _ => rfl
  | 6, _ => rfl
  | 7, _ => rfl
  | 8, _ => rfl
  | 9, _ => rfl
theorem eqItems_rows (d : Nat) (xs ys : Array Value) (a b : Nat → Int) : ∀ (is : List Nat), (∀ i ∈ is, xs[i]? = some (.int .u32 (a i))) → (∀ i ∈ is, ys[i]? = some (.int .u32 (b i))) → ∀ (w : World),
    (Op.eqItems (d + 1) 100 (Tryd.prog.cellsOf 100) xs ys is).run Tryd.prog w = .ok (is.all fun i => a i == b i) w
  | [], _, _, w => by simp [Op.eqItems]
  | i :: is, hx, hy, w => by
    have ih := eqItems_rows d xs ys a b is (fun j hj => hx j (List.mem_cons_of_mem _ hj)) (fun j hj => hy j (List.mem_cons_of_mem _ hj)) w
    have h1 := run_part_plain (P := Tryd.prog) w Tryd.plainE (hx i List.mem_cons_self)
    have h2 := run_part_plain (P := Tryd.prog) w Tryd.plainE (hy i List.mem_cons_self)
    rw [Tryd.cellsE] at ih ⊢
    have h3 := run_equalIn_int (P := Tryd.prog) w d 100 .u32 .u32 (a i) (b i) Tryd.underlying100
    simp only [Op.eqItems, Sem.run_bind, Nat.mul_one, h1, h2, h3, Result.andThen_ok]
    cases hr : (a i == b i)
    · simp [hr]
    · simp [hr, ih]
theorem equal_rows (L M : List Nat) (w : World) : (Op.equalIn 9998 101 (.agg (tenC L)) (.agg (tenC M))).run Tryd.prog w = .ok ((List.range 10).all fun i => ((nth L i : Nat) : Int) == ((nth M i : Nat) : Int)) w := by
  obtain ⟨i, hi⟩ := Tryd.infoRowE
  rw [run_equalIn_array (P := Tryd.prog) w 9997 (tenC L) (tenC M) Tryd.underlying101 hi]
  exact eqItems_rows 9996 (tenC L) (tenC M) (fun i => ((nth L i : Nat) : Int)) (fun i => ((nth M i : Nat) : Int)) (List.range 10) (fun i hi => tenC_get L i (List.mem_range.1 hi)) (fun i hi => tenC_get M i (List.mem_range.1 hi)) w
theorem two_fields {P : Program} {t : TypeId} {a b : Bool × TypeId × Nat} (h : (P.fieldsOf t).toList.map (fun f => (f.name == "_", f.type, f.offset)) = [a, b]) : ∃ f g, (P.fieldsOf t).toList = [f, g] ∧ (f.name == "_", f.type, f.offset) = a ∧ (g.name == "_", g.type, g.offset) = b := by
  match h2 : (P.fieldsOf t).toList, h with
  | [f, g], h => simp at h; exact ⟨f, g, rfl, by simp [h.1], by simp [h.2]⟩
theorem part_listR (L : List Nat) (w : World) : (Go.part 101 (listC L) 1).run Tryd.prog w = .ok (.agg (tenC L)) w := by kernel_rfl
theorem part_gridR (L : List Nat) (c : Int) (w : World) : (Go.part 103 (gridC L c) 0).run Tryd.prog w = .ok (.agg (listC L)) w := by kernel_rfl
theorem equal_list (L M : List Nat) (w : World) : (Op.equalIn 9999 103 (.agg (listC L)) (.agg (listC M))).run Tryd.prog w = .ok (((L.length : Int) == (M.length : Int)) && (List.range 10).all fun i => ((nth L i : Nat) : Int) == ((nth M i : Nat) : Int)) w := by
  rw [run_equalIn_struct (P := Tryd.prog) w 9998 103 _ _ Tryd.structR Tryd.stoodR]
  obtain ⟨f, g, e, hf, hg⟩ := two_fields Tryd.fieldsR
  simp only [Prod.mk.injEq] at hf hg
  have h1 := run_part_plain (P := Tryd.prog) w Tryd.plainI (xs := listC L) (off := 0) (v := .int .i64 (L.length : Nat)) rfl
  have h2 := run_part_plain (P := Tryd.prog) w Tryd.plainI (xs := listC M) (off := 0) (v := .int .i64 (M.length : Nat)) rfl
  have h3 := run_equalIn_int (P := Tryd.prog) w 9997 2 .i64 .i64 (L.length : Nat) (M.length : Nat) Tryd.underlying2
  have n1 : f.name ≠ "_" := by simpa using hf.1
  have n2 : g.name ≠ "_" := by simpa using hg.1
  rw [e]
  simp only [Op.eqFields, Sem.run_bind, Sem.run_ite, n1, n2, ne_eq, not_false_iff, if_true, hf.2.1, hf.2.2, hg.2.1, hg.2.2, h1, h2, h3, Result.andThen_ok]
  cases hr : ((L.length : Int) == (M.length : Int))
  · simp
  · have h4 := part_listR L w
    have h5 := part_listR M w
    have h6 := equal_rows L M w
    simp only [Bool.not_true, Bool.false_eq_true, if_false, h4, h5, h6, Result.andThen_ok]
    cases ha : (List.range 10).all fun i => ((nth L i : Nat) : Int) == ((nth M i : Nat) : Int) <;> simp
theorem equal_grid' (L M : List Nat) (c d : Int) (w : World) : (Op.equalIn 10000 105 (.agg (gridC L c)) (.agg (gridC M d))).run Tryd.prog w = .ok ((((L.length : Int) == (M.length : Int)) && (List.range 10).all fun i => ((nth L i : Nat) : Int) == ((nth M i : Nat) : Int)) && (c == d)) w := by
  rw [run_equalIn_struct (P := Tryd.prog) w 9999 105 _ _ Tryd.structG Tryd.stoodG]
  obtain ⟨f, g, e, hf, hg⟩ := two_fields Tryd.fieldsG
  simp only [Prod.mk.injEq] at hf hg
  have h1 := part_gridR L c w
  have h2 := part_gridR M d w
  have h3 := equal_list L M w
  have n1 : f.name ≠ "_" := by simpa using hf.1
  have n2 : g.name ≠ "_" := by simpa using hg.1
  rw [e]
  simp only [Op.eqFields, Sem.run_bind, Sem.run_ite, n1, n2, ne_eq, not_false_iff, if_true, hf.2.1, hf.2.2, hg.2.1, hg.2.2, h1, h2, h3, Result.andThen_ok]
  cases hr : (((L.length : Int) == (M.length : Int)) && (List.range 10).all fun i => ((nth L i : Nat) : Int) == ((nth M i : Nat) : Int))
  · simp
  · have h4 := run_part_plain (P := Tryd.prog) w Tryd.plainI (xs := gridC L c) (off := 11) (v := .int .i64 c) rfl
    have h5 := run_part_plain (P := Tryd.prog) w Tryd.plainI (xs := gridC M d) (off := 11) (v := .int .i64 d) rfl
    have h6 := run_equalIn_int (P := Tryd.prog) w 9998 2 .i64 .i64 c d Tryd.underlying2
    simp only [Bool.not_true, Bool.false_eq_true, if_false, h4, h5, h6, Result.andThen_ok]
    cases ha : (c == d) <;> simp
theorem grid_decide {L M : List Nat} {c d : Int} (hl : L.length ≤ 10) : ((((L.length : Int) == (M.length : Int)) && (List.range 10).all fun i => ((nth L i : Nat) : Int) == ((nth M i : Nat) : Int)) && (c == d)) = decide (L = M ∧ c = d) := by
  rw [Bool.eq_iff_iff]
  simp only [Bool.and_eq_true, beq_iff_eq, List.all_eq_true, List.mem_range, decide_eq_true_eq]
  constructor
  · rintro ⟨⟨h1, h2⟩, h3⟩
    refine ⟨List.ext_getElem (by omega) (fun j a b => ?_), h3⟩
    have := h2 j (by omega)
    simp [nth, a, b] at this
    omega
  · rintro ⟨rfl, rfl⟩
    exact ⟨⟨rfl, fun _ _ => rfl⟩, rfl⟩
theorem neq_grid (L M : List Nat) (c d : Int) (hl : L.length ≤ 10) (w : World) : (binOp .neq 105 (.agg (gridC L c)) (.agg (gridC M d))).run Tryd.prog w = .ok (.bool (!decide (L = M ∧ c = d))) w := by
  rw [run_neq_struct, equal_grid', grid_decide hl]; rfl
theorem eql_grid (L M : List Nat) (c d : Int) (hl : L.length ≤ 10) (w : World) : (binOp .eql 105 (.agg (gridC L c)) (.agg (gridC M d))).run Tryd.prog w = .ok (.bool (decide (L = M ∧ c = d))) w := by
  rw [run_eql_struct, equal_grid', grid_decide hl]; rfl
end Go.Proofs.YtilghmfffdmnjaaDoor
namespace Go.Proofs.YtilghmfffdmnjaaDoor
open Go.RowKit Go.Joins
set_option linter.unusedVariables false

/-- Whether numbers are the columns and rows of a space. -/
def isSp (c : Int) (zs : List Int) : Bool := okM c zs && decide (joined [] (zs.map Int.toNat) = zs.map Int.toNat)
theorem isSp_yes {c : Int} {zs : List Int} (h : isSp c zs = true) : ∃ (C : Nat) (L : List Nat), c = C ∧ zs = ints L ∧ OkM C L ∧ joined [] L = L := by
  simp only [isSp, Bool.and_eq_true, decide_eq_true_eq] at h
  obtain ⟨C, L, rfl, rfl, hO⟩ := okM_nat h.1
  rw [toNats_ints] at h
  exact ⟨C, L, rfl, rfl, hO, h.2⟩
theorem isSp_mk {C : Nat} {L : List Nat} (hO : OkM C L) : isSp C (ints L) = decide (joined [] L = L) := by
  rw [isSp, okM_ints hO, toNats_ints, Bool.true_and]
theorem isSp_no {c : Int} {zs : List Int} (h : isSp c zs = false) : okM c zs = false ∨ ∃ (C : Nat) (L : List Nat), c = C ∧ zs = ints L ∧ OkM C L ∧ joined [] L ≠ L := by
  cases hk : okM c zs with
  | false => exact .inl rfl
  | true =>
    obtain ⟨C, L, rfl, rfl, hO⟩ := okM_nat hk
    rw [isSp_mk hO] at h
    exact .inr ⟨C, L, rfl, rfl, hO, by simpa using h⟩

set_option maxRecDepth 100000 in
set_option maxHeartbeats 3200000 in
theorem spaceFor_yesR (C : Nat) (L : List Nat) (hO : OkM C L) (hJ : joined [] L = L) (A : Option Addr) (n cap : Nat) (w : World) (hM : Rd w w.heap.size A n (ints L)) (hT : Tab w) :
    Calls Tryd.prog 88 #[.agg #[.int .i64 C, .slice A n cap]] w fun e w' => e = .returned (.tuple #[.agg (gridC L C), .int .i64 0]) ∧ Below w.heap.size w w' := by
  have hn10 := hO.n10
  have hc10 := hO.c10
  have hR : Room ((w.alloc (.cells #[.int .i64 C, .slice A n cap] 50)).alloc (.cells (gridC [] 0) 105)) (w.heap.size + 1) := by
    have := (GAt.start (w.alloc (.cells #[.int .i64 C, .slice A n cap] 50)) [] 0 105 (by simp) (by intro j; simp [nth])).room
    simpa using this
  have hb0 := below_alloc2 w (.cells #[.int .i64 C, .slice A n cap] 50) (.cells (gridC [] 0) 105)
  have hM0 := hM.below hb0
  have E := fun w hT => echelon_any C L hc10 hO.lt hn10 w hT
  rw [hJ] at E
  have hne : ∀ w, (binOp .neq 105 (.agg (gridC L C)) (.agg #[.int .i64 (L.length : Nat), .int .u32 (nth L 0 : Nat), .int .u32 (nth L 1 : Nat), .int .u32 (nth L 2 : Nat), .int .u32 (nth L 3 : Nat), .int .u32 (nth L 4 : Nat), .int .u32 (nth L 5 : Nat), .int .u32 (nth L 6 : Nat), .int .u32 (nth L 7 : Nat), .int .u32 (nth L 8 : Nat), .int .u32 (nth L 9 : Nat), .int .i64 C])).run Tryd.prog w = .ok (.bool false) w := by
    intro w
    have := neq_grid L L C C hn10 w
    rw [show (!decide (L = L ∧ (C : Int) = C)) = false by simp] at this
    exact this
  have hgd := Tryd.guardG
  have HR := Lib.hid hR
  have EE := Lib.hid E
  clear hR E
  go_enter Tryd.func88, Tryd.ntmps88
  go_wp2_with fail
  refine (gridFor_yesR C L hO A n cap _ hM0).mono ?_
  rintro e w1 ⟨rfl, hb⟩
  have hR1 := HR.out.below hb
  have hb1 := hb0.trans (hb.mono hb0.size)
  have hlt1 := hR1.lt
  clear hb hb0 HR
  obtain ⟨w2, hst, hG2, hb⟩ := grid_put w1 L C hO.n10 (fun j => Nat.lt_trans (hO.get' j) (by omega))
  have hR2 := hR1.below hb
  have hb2 := hb1.trans (hb.mono hb1.size)
  have HT2 := Lib.hid (hT.below hb2)
  have HG2 := Lib.hid hG2
  have HR2 := Lib.hid hR2
  have HB2 := Lib.hid hb2
  obtain ⟨g0, g1, g2, g3, g4, g5, g6, g7, g8, g9, g10, g11⟩ := hG2.facts
  clear hb hb1 hR1 hR2 hb2 hG2 hT hM hM0
  go_wp2_with fail
  go_region_held3 (fun w' => w'.cell? ⟨w1.heap.size, 0, none⟩ = some (.int .i64 (L.length : Nat)) ∧ w'.cell? ⟨w1.heap.size, 1, none⟩ = some (.int .u32 (nth L 0 : Nat)) ∧ w'.cell? ⟨w1.heap.size, 2, none⟩ = some (.int .u32 (nth L 1 : Nat)) ∧ w'.cell? ⟨w1.heap.size, 3, none⟩ = some (.int .u32 (nth L 2 : Nat)) ∧ w'.cell? ⟨w1.heap.size, 4, none⟩ = some (.int .u32 (nth L 3 : Nat)) ∧ w'.cell? ⟨w1.heap.size, 5, none⟩ = some (.int .u32 (nth L 4 : Nat)) ∧ w'.cell? ⟨w1.heap.size, 6, none⟩ = some (.int .u32 (nth L 5 : Nat)) ∧ w'.cell? ⟨w1.heap.size, 7, none⟩ = some (.int .u32 (nth L 6 : Nat)) ∧ w'.cell? ⟨w1.heap.size, 8, none⟩ = some (.int .u32 (nth L 7 : Nat)) ∧ w'.cell? ⟨w1.heap.size, 9, none⟩ = some (.int .u32 (nth L 8 : Nat)) ∧ w'.cell? ⟨w1.heap.size, 10, none⟩ = some (.int .u32 (nth L 9 : Nat)) ∧ w'.cell? ⟨w1.heap.size, 11, none⟩ = some (.int .i64 C)) (first | exact ⟨g0, g1, g2, g3, g4, g5, g6, g7, g8, g9, g10, g11⟩ | exact ⟨by assumption, by assumption, by assumption, by assumption, by assumption, by assumption, by assumption, by assumption, by assumption, by assumption, by assumption, by assumption⟩) (first | (go_at_call 77; refine (EE.out _ (HT2.out.drewN 1)).mono ?_; rintro e w3 ⟨rfl, hb3⟩; have hG3 := (HG2.out.drewN 1).below hb3; have HR3 := Lib.hid ((show Room w2.drew (w.heap.size + 1) from HR2.out.drewN 1).below hb3); have HB3 := Lib.hid ((HB2.out.trans ((Below.refl _ _).drew)).trans (hb3.mono HB2.out.size)); obtain ⟨t0, t1, t2, t3, t4, t5, t6, t7, t8, t9, t10, t11⟩ := hG3.facts; clear hb3 hG3))
  obtain ⟨⟨u0, u1, u2, u3, u4, u5, u6, u7, u8, u9, u10, u11, d0, d1, d2, d3, d4, d5, d6, d7, d8, d9, d10, d11⟩, f0, f1, f2, f3, f4, f5, f6, f7, f8, f9, f10, f11⟩ := HR3.out.facts
  have HFIN := Lib.hid (GAt.store12 HR3.out L C hn10 HG2.out.r32)
  go_wp2_with fail
  refine bodyPost_ret (v := .tuple #[.agg (gridC L C), .int .i64 0]) (grid_results (p := 2) (u := 3) (fn := Tryd.f88) rfl _ rfl HFIN.out) rfl ⟨rfl, ?_⟩
  exact (only12 w3 _ _ _ _ _ _ _ _ _ _ _ _ _).below HB3.out (by omega)
theorem spaceFor_yes (C : Nat) (L : List Nat) (hO : OkM C L) (hJ : joined [] L = L) (b n cap : Nat) (w : World) (hM : Mt w b n (ints L)) (hT : Tab w) :
    Calls Tryd.prog 88 #[.agg #[.int .i64 C, .slice (some ⟨b, 0, none⟩) n cap]] w fun e w' => e = .returned (.tuple #[.agg (gridC L C), .int .i64 0]) ∧ Below w.heap.size w w' :=
  spaceFor_yesR C L hO hJ (some ⟨b, 0, none⟩) n cap w hM.rd hT

set_option maxRecDepth 100000 in
set_option maxHeartbeats 3200000 in
theorem spaceFor_otherR (C : Nat) (L : List Nat) (hO : OkM C L) (hJ : joined [] L ≠ L) (A : Option Addr) (n cap : Nat) (w : World) (hM : Rd w w.heap.size A n (ints L)) (hT : Tab w) :
    Calls Tryd.prog 88 #[.agg #[.int .i64 C, .slice A n cap]] w fun e w' => e = .returned (.tuple #[.agg (gridC [] 0), .int .i64 1]) ∧ Below w.heap.size w w' := by
  have hn10 := hO.n10
  have hc10 := hO.c10
  have hR : Room ((w.alloc (.cells #[.int .i64 C, .slice A n cap] 50)).alloc (.cells (gridC [] 0) 105)) (w.heap.size + 1) := by
    have := (GAt.start (w.alloc (.cells #[.int .i64 C, .slice A n cap] 50)) [] 0 105 (by simp) (by intro j; simp [nth])).room
    simpa using this
  have hb0 := below_alloc2 w (.cells #[.int .i64 C, .slice A n cap] 50) (.cells (gridC [] 0) 105)
  have hM0 := hM.below hb0
  have E := fun w hT => echelon_any C L hc10 hO.lt hn10 w hT
  have hJl := joined_len hc10 hO.lt
  obtain ⟨J, hJ0⟩ : ∃ J, joined [] L = J := ⟨_, rfl⟩
  rw [hJ0] at E hJ hJl
  clear hJ0
  have hne : ∀ w, (binOp .neq 105 (.agg (gridC J C)) (.agg #[.int .i64 (L.length : Nat), .int .u32 (nth L 0 : Nat), .int .u32 (nth L 1 : Nat), .int .u32 (nth L 2 : Nat), .int .u32 (nth L 3 : Nat), .int .u32 (nth L 4 : Nat), .int .u32 (nth L 5 : Nat), .int .u32 (nth L 6 : Nat), .int .u32 (nth L 7 : Nat), .int .u32 (nth L 8 : Nat), .int .u32 (nth L 9 : Nat), .int .i64 C])).run Tryd.prog w = .ok (.bool true) w := by
    intro w
    have := neq_grid J L C C hJl w
    rw [show (!decide (J = L ∧ (C : Int) = C)) = true by simp [hJ]] at this
    exact this
  have hgd := Tryd.guardG
  have HR := Lib.hid hR
  have EE := Lib.hid E
  clear hR E
  go_enter Tryd.func88, Tryd.ntmps88
  go_wp2_with fail
  refine (gridFor_yesR C L hO A n cap _ hM0).mono ?_
  rintro e w1 ⟨rfl, hb⟩
  have hR1 := HR.out.below hb
  have hb1 := hb0.trans (hb.mono hb0.size)
  have hlt1 := hR1.lt
  clear hb hb0 HR
  obtain ⟨w2, hst, hG2, hb⟩ := grid_put w1 L C hO.n10 (fun j => Nat.lt_trans (hO.get' j) (by omega))
  have hR2 := hR1.below hb
  have hb2 := hb1.trans (hb.mono hb1.size)
  have HT2 := Lib.hid (hT.below hb2)
  have HG2 := Lib.hid hG2
  have HR2 := Lib.hid hR2
  have HB2 := Lib.hid hb2
  obtain ⟨g0, g1, g2, g3, g4, g5, g6, g7, g8, g9, g10, g11⟩ := hG2.facts
  clear hb hb1 hR1 hR2 hb2 hG2 hT hM hM0
  go_wp2_with fail
  go_region_held3 (fun w' => w'.cell? ⟨w1.heap.size, 0, none⟩ = some (.int .i64 (L.length : Nat)) ∧ w'.cell? ⟨w1.heap.size, 1, none⟩ = some (.int .u32 (nth L 0 : Nat)) ∧ w'.cell? ⟨w1.heap.size, 2, none⟩ = some (.int .u32 (nth L 1 : Nat)) ∧ w'.cell? ⟨w1.heap.size, 3, none⟩ = some (.int .u32 (nth L 2 : Nat)) ∧ w'.cell? ⟨w1.heap.size, 4, none⟩ = some (.int .u32 (nth L 3 : Nat)) ∧ w'.cell? ⟨w1.heap.size, 5, none⟩ = some (.int .u32 (nth L 4 : Nat)) ∧ w'.cell? ⟨w1.heap.size, 6, none⟩ = some (.int .u32 (nth L 5 : Nat)) ∧ w'.cell? ⟨w1.heap.size, 7, none⟩ = some (.int .u32 (nth L 6 : Nat)) ∧ w'.cell? ⟨w1.heap.size, 8, none⟩ = some (.int .u32 (nth L 7 : Nat)) ∧ w'.cell? ⟨w1.heap.size, 9, none⟩ = some (.int .u32 (nth L 8 : Nat)) ∧ w'.cell? ⟨w1.heap.size, 10, none⟩ = some (.int .u32 (nth L 9 : Nat)) ∧ w'.cell? ⟨w1.heap.size, 11, none⟩ = some (.int .i64 C)) (first | exact ⟨g0, g1, g2, g3, g4, g5, g6, g7, g8, g9, g10, g11⟩ | exact ⟨by assumption, by assumption, by assumption, by assumption, by assumption, by assumption, by assumption, by assumption, by assumption, by assumption, by assumption, by assumption⟩) (first | (go_at_call 77; refine (EE.out _ (HT2.out.drewN 1)).mono ?_; rintro e w3 ⟨rfl, hb3⟩; have hG3 := (HG2.out.drewN 1).below hb3; have HR3 := Lib.hid ((show Room w2.drew (w.heap.size + 1) from HR2.out.drewN 1).below hb3); have HB3 := Lib.hid ((HB2.out.trans ((Below.refl _ _).drew)).trans (hb3.mono HB2.out.size)); obtain ⟨t0, t1, t2, t3, t4, t5, t6, t7, t8, t9, t10, t11⟩ := hG3.facts; clear hb3 hG3))
  obtain ⟨⟨u0, u1, u2, u3, u4, u5, u6, u7, u8, u9, u10, u11, d0, d1, d2, d3, d4, d5, d6, d7, d8, d9, d10, d11⟩, f0, f1, f2, f3, f4, f5, f6, f7, f8, f9, f10, f11⟩ := HR3.out.facts
  have HFIN := Lib.hid (GAt.store12 HR3.out [] 0 (by simp) (by intro j; simp [nth]))
  go_wp2_with fail
  refine bodyPost_ret (v := .tuple #[.agg (gridC [] 0), .int .i64 1]) (grid_results (p := 2) (u := 3) (fn := Tryd.f88) rfl _ rfl HFIN.out) rfl ⟨rfl, ?_⟩
  exact (only12 w3 _ _ _ _ _ _ _ _ _ _ _ _ _).below HB3.out (by omega)
theorem spaceFor_other (C : Nat) (L : List Nat) (hO : OkM C L) (hJ : joined [] L ≠ L) (b n cap : Nat) (w : World) (hM : Mt w b n (ints L)) (hT : Tab w) :
    Calls Tryd.prog 88 #[.agg #[.int .i64 C, .slice (some ⟨b, 0, none⟩) n cap]] w fun e w' => e = .returned (.tuple #[.agg (gridC [] 0), .int .i64 1]) ∧ Below w.heap.size w w' :=
  spaceFor_otherR C L hO hJ (some ⟨b, 0, none⟩) n cap w hM.rd hT

set_option maxRecDepth 100000 in
set_option maxHeartbeats 3200000 in
theorem spaceFor_invalidR (c : Int) (A : Option Addr) (n cap : Nat) (xs : List Int) (hk : okM c xs = false) (w : World) (hM : Rd w w.heap.size A n xs) :
    Calls Tryd.prog 88 #[.agg #[.int .i64 c, .slice A n cap]] w fun e w' => e = .returned (.tuple #[.agg (gridC [] 0), .int .i64 1]) ∧ Below w.heap.size w w' := by
  have hR : Room ((w.alloc (.cells #[.int .i64 c, .slice A n cap] 50)).alloc (.cells (gridC [] 0) 105)) (w.heap.size + 1) := by
    have := (GAt.start (w.alloc (.cells #[.int .i64 c, .slice A n cap] 50)) [] 0 105 (by simp) (by intro j; simp [nth])).room
    simpa using this
  have hb0 := below_alloc2 w (.cells #[.int .i64 c, .slice A n cap] 50) (.cells (gridC [] 0) 105)
  have hM0 := hM.below hb0
  have HR := Lib.hid hR
  clear hR
  go_enter Tryd.func88, Tryd.ntmps88
  go_wp2_with fail
  refine (gridFor_noR c A n cap xs _ hM0 hk).mono ?_
  rintro e w1 ⟨rfl, hb⟩
  have hR1 := HR.out.below hb
  have hb1 := hb0.trans (hb.mono hb0.size)
  have hlt1 := hR1.lt
  clear hb hb0 HR
  obtain ⟨w2, hst, hG2, hb⟩ := grid_put w1 [] 0 (by simp) (by intro j; simp [nth])
  have hR2 := hR1.below hb
  have HR2 := Lib.hid hR2
  have HB2 := Lib.hid (hb1.trans (hb.mono hb1.size))
  clear hb hb1 hR1 hR2 hM hM0 hG2
  go_wp2_with fail
  go_quiet (fail)
  generalize hw3 : World.drewN w2 _ = w3
  have HR3 := Lib.hid (show Room w3 (w.heap.size + 1) by rw [← hw3]; exact HR2.out.drewN _)
  have HB3 := Lib.hid (show Below w.heap.size w w3 by rw [← hw3]; exact HB2.out.trans (below_draws _ _ _))
  clear hw3
  obtain ⟨⟨u0, u1, u2, u3, u4, u5, u6, u7, u8, u9, u10, u11, d0, d1, d2, d3, d4, d5, d6, d7, d8, d9, d10, d11⟩, f0, f1, f2, f3, f4, f5, f6, f7, f8, f9, f10, f11⟩ := HR3.out.facts
  have HFIN := Lib.hid (GAt.store12 HR3.out [] 0 (by simp) (by intro j; simp [nth]))
  go_wp2_with fail
  refine bodyPost_ret (v := .tuple #[.agg (gridC [] 0), .int .i64 1]) (grid_results (p := 2) (u := 3) (fn := Tryd.f88) rfl _ rfl HFIN.out) rfl ⟨rfl, ?_⟩
  exact (only12 w3 _ _ _ _ _ _ _ _ _ _ _ _ _).below HB3.out (by omega)
theorem spaceFor_invalid (c : Int) (b n cap : Nat) (xs : List Int) (hk : okM c xs = false) (w : World) (hM : Mt w b n xs) :
    Calls Tryd.prog 88 #[.agg #[.int .i64 c, .slice (some ⟨b, 0, none⟩) n cap]] w fun e w' => e = .returned (.tuple #[.agg (gridC [] 0), .int .i64 1]) ∧ Below w.heap.size w w' :=
  spaceFor_invalidR c (some ⟨b, 0, none⟩) n cap xs hk w hM.rd

theorem spaceFor_noR (c : Int) (A : Option Addr) (n cap : Nat) (xs : List Int) (hk : isSp c xs = false) (w : World) (hM : Rd w w.heap.size A n xs) (hT : Tab w) :
    Calls Tryd.prog 88 #[.agg #[.int .i64 c, .slice A n cap]] w fun e w' => e = .returned (.tuple #[.agg (gridC [] 0), .int .i64 1]) ∧ Below w.heap.size w w' := by
  rcases isSp_no hk with h | ⟨C, L, rfl, rfl, hO, hJ⟩
  · exact spaceFor_invalidR c A n cap xs h w hM
  · exact spaceFor_otherR C L hO hJ A n cap w hM hT
theorem spaceFor_no (c : Int) (b n cap : Nat) (xs : List Int) (hk : isSp c xs = false) (w : World) (hM : Mt w b n xs) (hT : Tab w) :
    Calls Tryd.prog 88 #[.agg #[.int .i64 c, .slice (some ⟨b, 0, none⟩) n cap]] w fun e w' => e = .returned (.tuple #[.agg (gridC [] 0), .int .i64 1]) ∧ Below w.heap.size w w' :=
  spaceFor_noR c (some ⟨b, 0, none⟩) n cap xs hk w hM.rd hT
end Go.Proofs.YtilghmfffdmnjaaDoor
