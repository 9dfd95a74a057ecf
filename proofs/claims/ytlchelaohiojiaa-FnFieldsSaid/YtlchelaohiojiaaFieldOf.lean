/- The first field of a degree: both sides. -/
import Derived.Test.YtlchelaohiojiaaFieldsI
import Derived.Sort.QuietIn
namespace Go.Proofs.Ytlchelaohiojiaa
open Go.RowKit Go.Shelf Go.Joins
attribute [local go_sem] Oper.semAt_some
set_option linter.unusedVariables false

/-- What FieldOf returns. -/
def fFieldOf (d : Int) : Int × Int × Int := if 1 ≤ d ∧ d ≤ 5 then (d, (nth (fOf d.toNat (2 * 2 ^ d.toNat)) 0 : Nat), 0) else (0, 0, 2)
theorem fOf_more (d : Nat) (p : Nat) : ∀ j, ∃ r, fOf d (p + j) = fOf d p ++ r
  | 0 => ⟨[], by simp⟩
  | j + 1 => by
    obtain ⟨r, hr⟩ := fOf_more d p j
    rw [show p + (j + 1) = (p + j) + 1 by omega, fOf]
    split
    · exact ⟨r ++ [p + j], by rw [hr, List.append_assoc]⟩
    · exact ⟨r, hr⟩
theorem fOf_head (d : Nat) {p q : Nat} (h : p ≤ q) (hn : fOf d p ≠ []) : nth (fOf d p) 0 = nth (fOf d q) 0 := by
  obtain ⟨r, hr⟩ := fOf_more d p (q - p)
  rw [show p + (q - p) = q by omega] at hr
  rw [hr]
  cases e : fOf d p with
  | nil => exact absurd e hn
  | cons x l => rfl
theorem Bears.lf {β : Type} {B K q : Nat} {vs : List Value} (hq : q < B) : Bears B K (fun (_ : β) V => LF V q vs) := fun _ W V row h hg hr => by
  have hb : V.heap[q]? = W.heap[q]? := hg.block q h.b.lt (fun e => by have := (hr q e.symm).1; omega)
  exact ⟨⟨fun j v hv => (World.cell?_of_block (w := W) (a := ⟨q, j, none⟩) hb).trans (h.b.cell j v hv), Nat.lt_of_lt_of_le h.b.lt hg.size⟩, fun j hj => (World.frozen?_of_block (w := W) (a := ⟨q, j, none⟩) hb).trans (h.free j hj)⟩
theorem LF.putO {V : World} {q l : Nat} {vs : List Value} (h : LF V q vs) (hl : l ≠ q) (o : Obj) : LF (V.putObj l o) q vs := by
  have hb : (V.putObj l o).heap[q]? = V.heap[q]? := World.putObj_heap_other (fun e => hl e.symm)
  exact ⟨⟨fun j v hv => (World.cell?_of_block (w := V) (a := ⟨q, j, none⟩) hb).trans (h.b.cell j v hv), by rw [World.putObj_size]; exact h.b.lt⟩, fun j hj => (World.frozen?_of_block (w := V) (a := ⟨q, j, none⟩) hb).trans (h.free j hj)⟩
theorem fd_results {fn : Func} {p u : Tmp} (h : fn.results = #[.cell p 25, .cell u 2]) (tmps : Array Value) {W : World} {q r : Nat} {x y z : Value}
    (hp : tmps.getD p undef = .pointer (some ⟨q, 0, none⟩)) (hu : tmps.getD u undef = .pointer (some ⟨r, 0, none⟩)) (hG : LB W q [x, y]) (hR : LB W r [z]) : (results fn tmps).run Try.prog W = .ok (.tuple #[.agg #[x, y], z]) W := by
  have hp' : tmps[p]?.getD undef = .pointer (some ⟨q, 0, none⟩) := by simpa using hp
  have hu' : tmps[u]?.getD undef = .pointer (some ⟨r, 0, none⟩) := by simpa using hu
  have h1 := lb_load hG 25 Try.underlying25 rfl (by exact Try.infoFs)
  have h2 : W.cell? ⟨r, 0, none⟩ = some z := hR.cell 0 _ rfl
  have h3 : (loadVar 2 ⟨r, 0, none⟩).run Try.prog W = .ok z W := by simp [go_sem, h2]
  simp [results, h, hp', hu', asAddr, h1, h3, Result.andThen]
theorem fd_results1 {fn : Func} {p u : Tmp} (h : fn.results = #[.cell p 25, .tmp u]) (tmps : Array Value) {W : World} {q : Nat} {x y : Value}
    (hp : tmps.getD p undef = .pointer (some ⟨q, 0, none⟩)) (hG : LB W q [x, y]) : (results fn tmps).run Try.prog W = .ok (.tuple #[.agg #[x, y], tmps.getD u undef]) W := by
  rw [results_cell_tmp h, hp]
  simp [asAddr, lb_load hG 25 Try.underlying25 rfl (by exact Try.infoFs), Result.andThen]
/-- A store of two cells. -/
theorem LF.put2 {W : World} {q : Nat} {u v : Value} (h : LF W q [u, v]) (a b : Value) : LF ((W.setCell ⟨q, 0, none⟩ a).setCell ⟨q, 1, none⟩ b) q [a, b] := (h.set 0 (by simp) a).set 1 (by simp) b
theorem LF.apart {W : World} {q r : Nat} {vs : List Value} (h : LF W q vs) (hr : r ≠ q) (i : Nat) (v : Value) : LF (W.setCell ⟨r, i, none⟩ v) q vs := h.only ((Only.refl r W).setCell i v) (fun e => hr e.symm)

theorem Rnd.setCell {Q : Nat → Prop} {B K : Nat} {W V : World} (h : Rnd Q B K W V) {r : Nat} (h1 : ¬ Q r) (h2 : r < B) (i : Nat) (v : Value) : Rnd Q B K W (V.setCell ⟨r, i, none⟩ v) :=
  h.trans ⟨Nat.le_of_eq ((Only.refl r V).setCell i v).size.symm, fun k o ho hq => (((Only.refl r V).setCell i v).block k (fun e => by
    subst e
    rcases hq with hq | ⟨hq, _⟩
    · exact h1 hq
    · omega)).trans ho⟩

set_option maxRecDepth 100000 in
set_option maxHeartbeats 4000000 in
theorem implFieldOf_in (d : Nat) (h1 : 1 ≤ d) (h5 : d ≤ 5) (w : World) :
    CallsIn Fence.wide 9 Try.prog 16 #[.int .i64 d] w fun e w' => e = .returned (.tuple #[.agg #[.int .i64 d, .int .i64 (nth (fOf d (2 * 2 ^ d)) 0 : Nat)], .int .i64 0]) ∧ Below w.heap.size w w' := by
  have hL := LF.start w [.int .i64 0, .int .i64 0] 25
  have hM := LF.start (w.alloc (.cells #[.int .i64 0, .int .i64 0] 25)) [.int .i64 0] 2
  have hL2 := hL.next (below_alloc1 (w.alloc (.cells #[.int .i64 0, .int .i64 0] 25)) (.cells #[.int .i64 0] 2))
  have hL3 := hL2.next (below_alloc1 _ (.cells #[.int .i64 d] 2))
  have hM3 := hM.next (below_alloc1 _ (.cells #[.int .i64 d] 2))
  rw [World.size_alloc] at hM3
  have hc := cell_new_l ((w.alloc (.cells #[.int .i64 0, .int .i64 0] 25)).alloc (.cells #[.int .i64 0] 2)) (.int .i64 d) 2
  simp only [World.size_alloc] at hc
  have hb3 := (below_alloc2 w (.cells #[.int .i64 0, .int .i64 0] 25) (.cells #[.int .i64 0] 2)).alloc (by simp; omega) (.cells #[.int .i64 d] 2)
  have HS := Lib.hid (And.intro hL3 (And.intro hM3 hb3))
  clear hL hM hL2 hL3 hM3 hb3
  refine callsIn_of_wp_marks Try.func16 rfl trivial ?_ rfl
  simp only [Try.ntmps16, List.size_toArray, List.length_cons, List.length_nil, Nat.reduceAdd, Nat.reduceSub, Array.replicate_succ, Array.replicate_zero, List.push_toArray, List.append_toArray, List.nil_append, List.cons_append]
  gi_wp2_with (refine ⟨trivial, ?_⟩; gi_at_call 66; refine (callsIn_wide.2 (fieldsOf_any _ _)).mono ?_; rintro e w' ⟨rfl, rfl⟩)
  refine range_R (α := FieldP d) rfl (by omega) (gf := 119) (lb := #[.pointer (some ⟨w.heap.size + 1 + 1, 0, none⟩)]) rfl trivial (enters_of Try.func119 (by kernel_rfl) rfl)
    (fieldsOf_R d h1 h5 (w.heap.size + 1 + 1) _ hc.1 (by simp)) (Below.refl _ _) (fun k e => by subst e; simp) (fun _ _ _ _ => trivial) (fun _ => rfl)
    (fun pre V => pre = [] ∧ LF V w.heap.size [.int .i64 0, .int .i64 0] ∧ LF V (w.heap.size + 1) [.int .i64 0] ∧ Below w.heap.size w V)
    (fun c pre V => (c = .ret ∧ pre.length = 1) ∧ LF V w.heap.size [.int .i64 d, .int .i64 (nth (pre.map (·.1)) 0 : Nat)] ∧ LF V (w.heap.size + 1) [.int .i64 0] ∧ Below w.heap.size w V)
    ((Bears.pure _ _ _).and ((Bears.lf (by simp; omega)).and ((Bears.lf (by simp)).and (Bears.below (Nat.le_refl _) (by simp; omega)))))
    (fun c s W V row hs hg hr => ⟨hs.1, Bears.lf (β := Unit) (by simp; omega) () W V row hs.2.1 hg hr, Bears.lf (β := Unit) (by simp) () W V row hs.2.2.1 hg hr, Bears.below (β := Unit) (Nat.le_refl _) (by simp; omega) () W V row hs.2.2.2 hg hr⟩)
    ⟨rfl, HS.out⟩
    (fun x a' V => ∃ q, w.heap.size + 1 + 1 + 1 + 2 ≤ q ∧ LF V q [.int .i64 d, .int .i64 (x.1 : Nat)] ∧ a' = { tmps := #[.int .i64 d, undef, .pointer (some ⟨w.heap.size, 0, none⟩), .pointer (some ⟨w.heap.size + 1, 0, none⟩), .pointer (some ⟨q, 0, none⟩), .int .i64 d, .func (.func 119) #[] #[.pointer (some ⟨w.heap.size + 1 + 1, 0, none⟩)], .agg #[.int .i64 d, .int .i64 (x.1 : Nat)], undef, undef], defers := [] })
    (fun x a' V o h => by obtain ⟨q, h1, h2, h3⟩ := h; exact ⟨q, h1, h2.putO (by simp; omega) o, h3⟩) ?assign ?body ?done ?stop
  case assign =>
    rintro l pre x V G ⟨rfl, h2, h3, hb⟩ hsz _ hK
    simp only [World.size_alloc] at hsz
    have HV := Lib.hid (And.intro h2 (And.intro h3 hb))
    clear h2 h3 hb
    gi_wp2_with fail
    exact hK _ _ (Rnd.belowW (below_alloc1 _ _)) ⟨trivial, HV.out.1.next (below_alloc1 _ _), HV.out.2.1.next (below_alloc1 _ _), HV.out.2.2.alloc HV.out.2.2.size _⟩ trivial ⟨V.heap.size, by omega, LF.start V _ _, rfl⟩
  case body =>
    rintro l pre x a' V ⟨rfl, h2, h3, hb⟩ hsz _ ⟨q, hq, hL, rfl⟩ _
    have c0 := hL.b.cell 0 _ rfl; have c1 := hL.b.cell 1 _ rfl
    have a0 := h2.b.cell 0 _ rfl; have a1 := h2.b.cell 1 _ rfl; have b0 := h3.b.cell 0 _ rfl
    have f0 := h2.free 0 (by simp); have f1 := h2.free 1 (by simp); have g0 := h3.free 0 (by simp)
    have HV := Lib.hid (And.intro h2 (And.intro h3 hb))
    clear h2 h3 hb hL
    gi_wp2_with fail
    obtain ⟨h2, h3, hb⟩ := HV.out
    exact ⟨(((Rnd.refl _ _ _ V).setCell (by omega) (by simp; omega) _ _).setCell (by omega) (by simp; omega) _ _).setCell (by omega) (by simp) _ _, ⟨by simp, by simp⟩, (h2.put2 _ _).apart (by omega) _ _, ((h3.apart (by omega) _ _).apart (by omega) _ _).set 0 (by simp) _, ((hb.setCell (p := ⟨w.heap.size, 0, none⟩) (Nat.le_refl _) _).setCell (p := ⟨w.heap.size, 1, none⟩) (Nat.le_refl _) _).setCell (p := ⟨w.heap.size + 1, 0, none⟩) (by simp) _⟩
  case done =>
    rintro ys V hS ⟨rfl, _⟩ hK
    exact absurd (congrArg List.length hS).symm (fOf_ne ⟨d, by omega⟩ (by show 0 < d; omega))
  case stop =>
    rintro cc pre V ⟨k, hk, hpre⟩ ⟨⟨rfl, hl⟩, h2, h3, hb⟩ hK
    have hne : (pre.map (·.1)) ≠ [] := by intro e; have := congrArg List.length e; simp only [List.length_map, List.length_nil] at this; omega
    have hnth : nth (pre.map (·.1)) 0 = nth (fOf d (2 * 2 ^ d)) 0 := by
      rw [hpre] at hne ⊢
      exact fOf_head d (by omega) hne
    rw [hnth] at h2
    have HV := Lib.hid (And.intro h2 (And.intro h3 hb))
    clear h2 h3 hb hne hnth hpre hl
    gi_wp2
    refine ⟨by simp, .inl ⟨_, _, rfl, run_takeDeferred hK, ?_⟩⟩
    obtain ⟨h2, h3, hb⟩ := HV.out
    refine ⟨_, fd_results rfl _ rfl rfl (h2.putO (by simp only [World.size_alloc]; omega) _).b (h3.putO (by simp only [World.size_alloc]; omega) _).b, rfl, hb.trans (belowK_b (w := w) (Nat.le_refl _) V _ _ _ (by simp only [World.size_alloc]; omega) hK rfl rfl)⟩

set_option maxRecDepth 100000 in
set_option maxHeartbeats 4000000 in
theorem implFieldOf_no (d : Int) (hd : d < 1 ∨ 5 < d) (w : World) :
    CallsIn Fence.wide 9 Try.prog 16 #[.int .i64 d] w fun e w' => e = .returned (.tuple #[.agg #[.int .i64 0, .int .i64 0], .int .i64 2]) ∧ Below w.heap.size w w' := by
  have hL := LF.start w [.int .i64 0, .int .i64 0] 25
  have hM := LF.start (w.alloc (.cells #[.int .i64 0, .int .i64 0] 25)) [.int .i64 0] 2
  have hL2 := hL.next (below_alloc1 (w.alloc (.cells #[.int .i64 0, .int .i64 0] 25)) (.cells #[.int .i64 0] 2))
  have hL3 := hL2.next (below_alloc1 _ (.cells #[.int .i64 d] 2))
  have hM3 := hM.next (below_alloc1 _ (.cells #[.int .i64 d] 2))
  rw [World.size_alloc] at hM3
  have hc := cell_new_l ((w.alloc (.cells #[.int .i64 0, .int .i64 0] 25)).alloc (.cells #[.int .i64 0] 2)) (.int .i64 d) 2
  simp only [World.size_alloc] at hc
  have hb3 := (below_alloc2 w (.cells #[.int .i64 0, .int .i64 0] 25) (.cells #[.int .i64 0] 2)).alloc (by simp; omega) (.cells #[.int .i64 d] 2)
  have HS := Lib.hid (And.intro hL3 (And.intro hM3 hb3))
  have HD := Lib.hid hd
  clear hL hM hL2 hL3 hM3 hb3 hd
  refine callsIn_of_wp_marks Try.func16 rfl trivial ?_ rfl
  simp only [Try.ntmps16, List.size_toArray, List.length_cons, List.length_nil, Nat.reduceAdd, Nat.reduceSub, Array.replicate_succ, Array.replicate_zero, List.push_toArray, List.append_toArray, List.nil_append, List.cons_append]
  gi_wp2_with (refine ⟨trivial, ?_⟩; gi_at_call 66; refine (callsIn_wide.2 (fieldsOf_any _ _)).mono ?_; rintro e w' ⟨rfl, rfl⟩)
  refine range_R (α := FieldP d.toNat) rfl (by omega) (gf := 119) (lb := #[.pointer (some ⟨w.heap.size + 1 + 1, 0, none⟩)]) rfl trivial (enters_of Try.func119 (by kernel_rfl) rfl)
    (fieldsOf_no d HD.out (w.heap.size + 1 + 1) _ hc.1 (by simp)) (Below.refl _ _) (fun k e => by subst e; simp) (fun _ _ _ h => h) (fun _ => rfl)
    (fun pre V => LF V w.heap.size [.int .i64 0, .int .i64 0] ∧ LF V (w.heap.size + 1) [.int .i64 0] ∧ Below w.heap.size w V)
    (fun _ _ _ => False)
    ((Bears.lf (by simp; omega)).and ((Bears.lf (by simp)).and (Bears.below (Nat.le_refl _) (by simp; omega))))
    (fun _ _ _ _ _ h _ _ => h.elim)
    HS.out
    (fun _ _ _ => False) (fun _ _ _ _ h => h.elim) ?assign ?body ?done ?stop
  case assign =>
    rintro l pre x V G _ _ h
    exact h.elim
  case body =>
    rintro l pre x a' V _ _ h
    exact h.elim
  case done =>
    rintro ys V rfl ⟨h2, h3, hb⟩ hK
    have a0 := h2.b.cell 0 _ rfl; have a1 := h2.b.cell 1 _ rfl; have b0 := h3.b.cell 0 _ rfl
    have f0 := h2.free 0 (by simp); have f1 := h2.free 1 (by simp); have g0 := h3.free 0 (by simp)
    have HV := Lib.hid (And.intro h2 (And.intro h3 hb))
    clear h2 h3 hb
    gi_wp2
    obtain ⟨h2, h3, hb⟩ := HV.out
    have hK' : (((V.setCell ⟨w.heap.size, 0, none⟩ (.int .i64 0)).setCell ⟨w.heap.size, 1, none⟩ (.int .i64 0)).setCell ⟨w.heap.size + 1, 0, none⟩ (.int .i64 2)).heap[(((w.alloc (.cells #[.int .i64 0, .int .i64 0] 25)).alloc (.cells #[.int .i64 0] 2)).alloc (.cells #[.int .i64 d] 2)).heap.size]? = some (.deferred (some [])) :=
      (((Only.refl (w.heap.size + 1) _).setCell 0 _).block _ (by simp only [World.size_alloc]; omega)).trans (((((Only.refl w.heap.size V).setCell 0 _).setCell 1 _).block _ (by simp only [World.size_alloc]; omega)).trans hK)
    refine ⟨by simp, .inl ⟨_, _, rfl, run_takeDeferred hK', ?_⟩⟩
    have k2 := (h2.put2 (.int .i64 0) (.int .i64 0)).apart (r := w.heap.size + 1) (by omega) 0 (.int .i64 2)
    have k3 := ((h3.apart (r := w.heap.size) (by omega) 0 (.int .i64 0)).apart (r := w.heap.size) (by omega) 1 (.int .i64 0)).set 0 (by simp) (.int .i64 2)
    exact ⟨_, fd_results rfl _ rfl rfl (k2.putO (by simp only [World.size_alloc]; omega) _).b (k3.putO (by simp only [World.size_alloc]; omega) _).b, rfl, (((hb.setCell (p := ⟨w.heap.size, 0, none⟩) (Nat.le_refl _) _).setCell (p := ⟨w.heap.size, 1, none⟩) (Nat.le_refl _) _).setCell (p := ⟨w.heap.size + 1, 0, none⟩) (by simp) _).trans (belowK_b (w := w) (Nat.le_refl _) _ _ _ _ (by simp only [World.size_alloc]; omega) hK' rfl rfl)⟩
  case stop =>
    rintro cc pre V h
    exact h.elim

theorem implFieldOf_any (d : Int) (w : World) :
    Calls Try.prog 16 #[.int .i64 d] w fun e w' => e = .returned (.tuple #[.agg #[.int .i64 (fFieldOf d).1, .int .i64 (fFieldOf d).2.1], .int .i64 (fFieldOf d).2.2]) ∧ Below w.heap.size w w' := by
  by_cases h : 1 ≤ d ∧ d ≤ 5
  · obtain ⟨m, rfl⟩ := Int.eq_ofNat_of_zero_le (by omega : 0 ≤ d)
    rw [fFieldOf, if_pos h]
    exact (callsIn_wide (n := 9)).1 (implFieldOf_in m (by omega) (by omega) w)
  · rw [fFieldOf, if_neg h]
    exact (callsIn_wide (n := 9)).1 (implFieldOf_no d (by omega) w)
set_option maxHeartbeats 1600000 in
theorem specFieldOf_any (d : Int) (w : World) :
    Calls Try.prog 41 #[.int .i64 d] w fun e w' => e = .returned (.tuple #[.agg #[.int .i64 (fFieldOf d).1, .int .i64 (fFieldOf d).2.1], .int .i64 (fFieldOf d).2.2]) ∧ Below w.heap.size w w' := by
  by_cases h : 1 ≤ d ∧ d ≤ 5
  · obtain ⟨m, rfl⟩ := Int.eq_ofNat_of_zero_le (by omega : 0 ≤ d)
    rw [fFieldOf, if_pos h]
    obtain ⟨h1, h5⟩ := h
    have HS := Lib.hid (fun w => l01Fields_any m (by omega) (by omega) w)
    have hne := fOf_ne ⟨m, by omega⟩ (by show 0 < m; omega)
    simp only at hne
    have hlen := fOf_len m (2 * 2 ^ m)
    have hp5 : 2 ^ m ≤ 32 := Nat.pow_le_pow_right (n := 2) (by omega) (show m ≤ 5 by omega)
    rw [Int.toNat_natCast]
    dsimp only
    generalize fOf m (2 * 2 ^ m) = L at hne hlen HS ⊢
    obtain ⟨P, hP⟩ : ∃ P, nth L 0 = P := ⟨_, rfl⟩
    rw [hP]
    have HP := Lib.hid hP
    clear hP
    go_enter Try.func41, Try.ntmps41
    go_wp2_with (go_at_call 96; refine (l00In_yes (m : Int) 1 5 (by omega) (by omega) _).mono ?_; rintro e w' ⟨rfl, rfl⟩)
    refine (HS.out _).mono ?_
    rintro e w3 ⟨g, cap, rfl, hb, hO⟩
    have c0 := hO.cells rfl 0 _ (fCs_get m L 0 (by omega)).1
    have c1 := hO.cells rfl 1 _ (fCs_get m L 0 (by omega)).2
    rw [addr_at] at c0 c1
    have hL := (LF.start w [.int .i64 0, .int .i64 0] 25).next hb
    have a0 := hL.b.cell 0 _ rfl; have a1 := hL.b.cell 1 _ rfl
    have f0 := hL.free 0 (by simp); have f1 := hL.free 1 (by simp)
    have HL := Lib.hid hL
    have hB := (below_alloc1 w (.cells #[.int .i64 0, .int .i64 0] 25)).trans (hb.mono (by simp))
    have HB := Lib.hid hB
    have hLl : 0 < L.length := by omega
    rw [HP.out] at c1
    clear hL hb hO hB hne
    go_wp2_with fail
    refine bodyPost_ret (v := .tuple #[.agg #[.int .i64 (m : Nat), .int .i64 (P : Nat)], .int .i64 0]) (fd_results1 (p := 2) (u := 3) (fn := Try.f41) rfl _ rfl (HL.out.put2 _ _).b) rfl ?_
    exact ⟨rfl, (HB.out.setCell (p := ⟨w.heap.size, 0, none⟩) (Nat.le_refl _) _).setCell (p := ⟨w.heap.size, 1, none⟩) (Nat.le_refl _) _⟩
  · rw [fFieldOf, if_neg h]
    go_enter Try.func41, Try.ntmps41
    go_wp2_with (go_at_call 96; refine (l00In_no d 1 5 (by omega) _).mono ?_; rintro e w' ⟨rfl, rfl⟩)
    refine bodyPost_ret (v := .tuple #[.agg #[.int .i64 0, .int .i64 0], .int .i64 2]) (fd_results1 (p := 2) (u := 3) (fn := Try.f41) rfl _ rfl (LF.start w [.int .i64 0, .int .i64 0] 25).b) rfl ?_
    exact ⟨rfl, below_alloc1 w _⟩

set_option maxHeartbeats 800000 in
theorem eqField_one (d p : Int) (w : World) :
    Calls Try.prog 42 #[.agg #[.int .i64 d, .int .i64 p], .agg #[.int .i64 d, .int .i64 p]] w fun e w' => e = .returned (.bool true) ∧ Below w.heap.size w w' := by
  have hb := below_alloc2 w (.cells #[.int .i64 d, .int .i64 p] 25) (.cells #[.int .i64 d, .int .i64 p] 25)
  have HB := Lib.hid hb
  clear hb
  go_enter Try.func42, Try.ntmps42
  go_wp2
  go_ret
  exact ⟨rfl, HB.out⟩
end Go.Proofs.Ytlchelaohiojiaa
