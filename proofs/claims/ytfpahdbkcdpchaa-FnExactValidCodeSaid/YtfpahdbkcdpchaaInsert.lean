/- A word put among the words of a list of the call's own: the library's Insert, of one element. -/
import Derived.Test.YtfpahdbkcdpchaaWr
import Derived.Maps.AppendAt
import Derived.Shelf.Spec.SlicesInsert
import Derived.Lib.AppendZerosOnto
import Derived.Laws.NewBlocks
import Derived.Deep.RegionLaw
import Derived.Laws.Externs
import Derived.Lib.Overlaps
namespace Go.Proofs.Ytfpahdbkcdpchaa
open Go.RowKit Go.Joins Go.Lib
set_option linter.unusedVariables false
set_option linter.unusedSimpArgs false

theorem Try.infoWd : (Try.prog.info? 88).map (fun i => (i.zero, i.size, i.bytes)) = some (some (.slice none 0 0), 1, 24) := by kernel_rfl

theorem ownsRow_cells {B : Nat} {e : TypeId} {g n cap : Nat} : ∀ (vs : List Value) (o : Nat) {w : World} {xs : List Value}, w.ownsRow B e 1 (.slice (some ⟨g, 0, none⟩) n cap) n xs → o + vs.length ≤ n →
    (w.setCells g o vs).ownsRow B e 1 (.slice (some ⟨g, 0, none⟩) n cap) n (xs.take o ++ vs ++ xs.drop (o + vs.length)) ∧ w.grownBy (w.setCells g o vs) (some g)
  | [], o, w, xs, h, ho => ⟨by simpa [World.setCells] using h, World.grownBy.refl w _⟩
  | v :: vs, o, w, xs, h, ho => by
    have hx : xs.length = n := by have := h.1; omega
    simp only [List.length_cons] at ho
    obtain ⟨h1, h2⟩ := h.stored o v
    obtain ⟨h3, h4⟩ := ownsRow_cells vs (o + 1) h1 (by omega)
    refine ⟨?_, World.grownBy.trans h2 h4⟩
    have e : (xs.set o v).take (o + 1) ++ vs ++ (xs.set o v).drop (o + 1 + vs.length) = xs.take o ++ v :: vs ++ xs.drop (o + (v :: vs).length) := by
      rw [List.drop_set_of_lt (by omega), List.take_add_one, List.take_set_of_le (by omega), List.getElem?_set_self (by omega)]
      simp only [Option.toList, List.length_cons, List.append_assoc, List.cons_append, List.nil_append]
      rw [show o + 1 + vs.length = o + (vs.length + 1) by omega]
    rw [e] at h3
    exact h3
theorem ownsRow_more {w : World} {B : Nat} {e : TypeId} {g n cap : Nat} {xs : List Value} (h : w.ownsRow B e 1 (.slice (some ⟨g, 0, none⟩) n cap) n xs) (hc : n + 1 ≤ cap) : ∃ y, w.ownsRow B e 1 (.slice (some ⟨g, 0, none⟩) (n + 1) cap) (n + 1) (xs ++ [y]) := by
  obtain ⟨h1, h2⟩ := h
  rcases h2 with ⟨e, _⟩ | ⟨g', cap', cur, e, hb, hg, hn, hm, hs, ht⟩
  · cases e
  · injection e with e1 e2 e3
    injection e1 with e1; injection e1 with e1
    subst e1 e3
    obtain ⟨y, hy⟩ : ∃ y, cur.toList[n]? = some y := ⟨_, List.getElem?_eq_getElem (by simp; omega)⟩
    refine ⟨y, by simp; omega, .inr ⟨g, cap, cur, rfl, hb, hg, hc, hm, hs, ?_⟩⟩
    rw [← ht, Nat.mul_one, Nat.mul_one, List.take_add_one, hy]
    rfl

/-- What lies in a block that holds one word. -/
structure One (w : World) (vb : Nat) (x : Value) : Prop where
  heap : w.heap[vb]? = some (.cells #[x] 88 (0, 0))
  one : x.oneCell' = true

set_option maxHeartbeats 4000000 in
set_option maxRecDepth 100000 in
theorem insert_end (B n : Nat) (v : Value) (xs : List Value) (w : World) (hown : w.ownsRow B 88 1 v n xs) (hn : n ≤ 1000) (hB : B ≤ w.heap.size) (vb : Nat) (x : Value) (hx : One w vb x) :
    Calls Try.prog 130 #[v, .int .i64 (n : Int), .slice (some ⟨vb, 0, none⟩) 1 1] w fun e w' => ∃ v', e = .returned v' ∧ w'.ownsRow B 88 1 v' (n + 1) (xs ++ [x]) ∧ w.grownBy w' v.ownBlock ∧ (v'.ownBlock = v.ownBlock ∨ v'.ownBlock = some w.heap.size) := by
  obtain ⟨i0, hi, hz0, hz1, hz2⟩ := info_parts Try.infoWd
  have hnew : ∀ (j : Nat) (u : Value), [x][j]? = some u → w.cell? ((⟨vb, 0, none⟩ : Addr).add j) = some u := fun j u hj => by
    match j, hj with
    | 0, hj =>
      simp at hj; subst hj
      have := hx.heap
      simp [Addr.add, World.cell?, this]
  have h1c : ∀ u ∈ [x], u.oneCell' = true := fun u hu => by simp at hu; subst hu; exact hx.one
  have HNEW := Lib.hid (And.intro hnew h1c)
  clear hnew h1c
  rcases ownsRow_forms hown with ⟨rfl, rfl⟩ | ⟨g, cap, rfl⟩
  · go_enter Try.func130, Try.ntmps130
    go_wp2_with (at_builtin; refine wpList_append_own_at _ rfl _ _ 77 rfl B 88 i0 (.slice none 0 0) 1 24 Try.underlying77 hi hz0 hz1 hz2 rfl (by decide) _ _ _ rfl hown ⟨vb, 0, none⟩ 1 1 [x] rfl rfl HNEW.out.1 HNEW.out.2 (by unfold maxLen; omega) (by omega) hB ?_; intro v' w2 hown' hgrow _ hat; have HAP := Lib.hid (And.intro hown' (And.intro hgrow hat)); clear hown' hgrow hat)
    go_ret
    exact ⟨_, rfl, HAP.out.1, HAP.out.2.1, HAP.out.2.2⟩
  · have hcap : n ≤ cap := by
      rcases hown.2 with ⟨e, _⟩ | ⟨g', c', cur, e, _, _, h1, _⟩
      · cases e
      · injection e with e1 e2 e3; omega
    go_enter Try.func130, Try.ntmps130
    go_wp2_with (at_builtin; refine wpList_append_own_at _ rfl _ _ 77 rfl B 88 i0 (.slice none 0 0) 1 24 Try.underlying77 hi hz0 hz1 hz2 rfl (by decide) _ _ _ rfl hown ⟨vb, 0, none⟩ 1 1 [x] rfl rfl HNEW.out.1 HNEW.out.2 (by unfold maxLen; omega) (by omega) hB ?_; intro v' w2 hown' hgrow _ hat; have HAP := Lib.hid (And.intro hown' (And.intro hgrow hat)); clear hown' hgrow hat)
    all_goals
      go_ret
      exact ⟨_, rfl, HAP.out.1, HAP.out.2.1, HAP.out.2.2⟩

set_option maxHeartbeats 4000000 in
set_option maxRecDepth 100000 in
theorem insert_shift (B n g c i : Nat) (xs : List Value) (w : World) (hown : w.ownsRow B 88 1 (.slice (some ⟨g, 0, none⟩) n c) n xs) (h1x : ∀ u ∈ xs, u.oneCell' = true) (hi0 : i < n) (hn : n ≤ 1000) (hroom : n + 1 ≤ c) (vb : Nat) (x : Value) (hx : One w vb x) (hvb : vb ≠ g) :
    Calls Try.prog 130 #[.slice (some ⟨g, 0, none⟩) n c, .int .i64 (i : Int), .slice (some ⟨vb, 0, none⟩) 1 1] w fun e w' => ∃ v', e = .returned v' ∧ w'.ownsRow B 88 1 v' (n + 1) (xs.take i ++ x :: xs.drop i) ∧ w.grownBy w' (some g) ∧ v'.ownBlock = some g := by
  obtain ⟨i0, hi, hz0, hz1, hz2⟩ := info_parts Try.infoWd
  have hxl : xs.length = n := by have := hown.1; omega
  obtain ⟨y, hown1⟩ := ownsRow_more hown hroom
  have hfz : ∀ j, w.frozen? ⟨g, j, none⟩ = false := fun j => hown.frozenAt j
  have hcs : ∀ j v, xs[j]? = some v → w.cell? ⟨g, j, none⟩ = some v := fun j v hj => by
    have hjn : j < n := by have := (List.getElem?_eq_some_iff.1 hj).1; omega
    rw [hown.cellAt j (by omega)]; exact hj
  have hsp : ∀ j, j < n + 1 → (w.cell? ⟨g, j, none⟩).isSome = true := fun j hj => by
    rw [hown1.cellAt j (by omega)]
    rw [List.getElem?_eq_getElem (by rw [List.length_append]; simp; omega)]; rfl
  have hc63 : c ≤ 9223372036854775807 := by
    rcases hown.2 with ⟨e, _⟩ | ⟨g', c', cur, e, _, _, _, h1, _⟩
    · cases e
    · injection e with e1 e2 e3; unfold maxLen at h1; omega
  have hgs : ∃ cur : Array Value, w.heap[g]? = some (.cells cur 88 (0, 0)) ∧ cur.size ≠ 0 := by
    rcases hown.2 with ⟨e, _⟩ | ⟨g', c', cur, e, _, hg, h1, _, h2, _⟩
    · cases e
    · injection e with e1 e2 e3
      injection e1 with e1; injection e1 with e1
      exact ⟨cur, by rw [e1]; exact hg, by omega⟩
  obtain ⟨cur, hgc, hcn⟩ := hgs
  have hsa : w.shape? vb = some (88, 1) := by simp [World.shape?, hx.heap]
  have hsb : w.shape? g = some (88, cur.size) := by simp [World.shape?, hgc]
  have hfa : w.frozen? ⟨vb, 0, none⟩ = false := by simp [World.frozen?, hx.heap]
  have hfe : w.frozen? ⟨vb, 1, none⟩ = false := by simp [World.frozen?, hx.heap]
  have hvx : w.cell? ⟨vb, 0, none⟩ = some x := by simp [World.cell?, hx.heap]
  have hsz : (Try.prog.info? 88).map (·.size) = some 1 := by rw [hi]; simp [hz1]
  have hov : ∀ lb cb, (callFunc 144 #[.slice (some ⟨vb, 0, none⟩) 1 1, .slice (some ⟨g, i + 1, none⟩) lb cb]).run Try.prog w = .ok (.value (.bool false)) w := fun lb cb => by
    rw [run_callFunc_extern Try.func144 (by kernel_rfl) (by kernel_rfl) (by kernel_rfl) (e := Extern.SlicesOverlaps.overlaps #[77, 77] #[4]) (by kernel_rfl),
      Lib.run_overlaps_apart w 77 4 88 Try.underlying77 1 (fun w => by simp [Go.sizeOf, Go.typeInfo, hi, hz1]) ⟨vb, 0, none⟩ ⟨g, i + 1, none⟩ 1 1 lb cb hvb _ _ _ _ hsa hsb hcn hfa hfe]
    rfl
  have hdl : (xs.drop i).length = n - i := by rw [List.length_drop, hxl]
  have h1d : ∀ v ∈ xs.drop i, v.oneCell' = true := fun v hv => h1x v (List.mem_of_mem_drop hv)
  have hcp1 : ∀ ty dc sc, (Builtin.copy_ #[77, 77] ty #[.slice (some ⟨g, i + 1, none⟩) (n - i) dc, .slice (some ⟨g, i, none⟩) (n + 1 - i) sc]).run Try.prog w.drew = .ok (goInt (xs.drop i).length) (w.drew.setCells g (i + 1) (xs.drop i)) := fun ty dc sc =>
    run_copy_cells w.drew _ _ ty 88 g (i + 1) (n - i) dc ⟨g, i, none⟩ (n + 1 - i) sc (xs.drop i) Try.underlying77 hsz (by rw [hdl]; simp only [Nat.min_def]; split <;> omega)
      (fun j v hj => by rw [Addr.add_lit]; exact hcs (i + j) v (by rwa [List.getElem?_drop] at hj))
      (fun j hj => hsp _ (by rw [hdl] at hj; omega)) (fun j hj => hfz _) h1d
  obtain ⟨W1, hW1⟩ : ∃ W1, W1 = w.drew.setCells g (i + 1) (xs.drop i) := ⟨_, rfl⟩
  have hown1d : w.drew.ownsRow B 88 1 (.slice (some ⟨g, 0, none⟩) (n + 1) c) (n + 1) (xs ++ [y]) := hown1
  obtain ⟨hA1, hA2⟩ := ownsRow_cells (xs.drop i) (i + 1) hown1d (by rw [hdl]; omega)
  rw [← hW1] at hA1 hA2 hcp1
  have hl1 : (xs ++ [y]).take (i + 1) ++ xs.drop i ++ (xs ++ [y]).drop (i + 1 + (xs.drop i).length) = (xs ++ [y]).take (i + 1) ++ xs.drop i := by
    have hd : (xs ++ [y]).drop (i + 1 + (xs.drop i).length) = [] := List.drop_eq_nil_of_le (by rw [List.length_append, hdl, List.length_singleton, hxl]; omega)
    rw [hd, List.append_nil]
  rw [hl1] at hA1
  obtain ⟨hB1, hB2⟩ := ownsRow_cells [x] i hA1 (by simp; omega)
  have hl2 : ((xs ++ [y]).take (i + 1) ++ xs.drop i).take i ++ [x] ++ ((xs ++ [y]).take (i + 1) ++ xs.drop i).drop (i + [x].length) = xs.take i ++ x :: xs.drop i := by
    have e1 : ((xs ++ [y]).take (i + 1)).length = i + 1 := by simp [hxl]; omega
    rw [List.take_append_of_le_length (by omega), List.take_take, Nat.min_eq_left (by omega), List.take_append_of_le_length (by omega), List.length_singleton, List.drop_append_of_le_length (by omega), List.drop_eq_nil_of_le (by omega), List.nil_append, List.append_assoc]
    rfl
  rw [hl2] at hB1
  have HFIN := Lib.hid (And.intro hB1 (show w.grownBy (W1.setCells g i [x]) (some g) from ⟨hB2.os.trans hA2.os, hB2.tape.trans hA2.tape, hB2.output.trans hA2.output, Nat.le_trans hA2.size hB2.size, fun k hk hne => (hB2.block k (Nat.lt_of_lt_of_le hk hA2.size) hne).trans (hA2.block k hk hne)⟩))
  have hcp2 : ∀ ty dc, (Builtin.copy_ #[77, 77] ty #[.slice (some ⟨g, i, none⟩) (n + 1 - i) dc, .slice (some ⟨vb, 0, none⟩) 1 1]).run Try.prog W1 = .ok (goInt [x].length) (W1.setCells g i [x]) := fun ty dc =>
    run_copy_cells W1 _ _ ty 88 g i (n + 1 - i) dc ⟨vb, 0, none⟩ 1 1 [x] Try.underlying77 hsz (by simp only [Nat.min_def, List.length_singleton]; split <;> omega)
      (fun j v hj => by
        match j, hj with
        | 0, hj =>
          simp at hj; subst hj
          rw [hW1, World.cell?_setCells_out g _ _ _ _ (fun h _ => absurd h hvb)]
          exact hvx)
      (fun j hj => by rw [hA1.cellAt _ (by simp at hj; omega), List.getElem?_eq_getElem (by have := hA1.1; simp at hj; omega)]; rfl) (fun j hj => hA1.frozenAt _) (fun u hu => by simp at hu; subst hu; exact hx.one)
  have hw1 : IntKind.i64.wrap ((i : Int) + 1) = (i : Int) + 1 := by rw [IntKind.wrap_i64]; omega
  have hb1 : (0 : Int) ≤ (i : Int) + 1 := by omega
  have hin : i ≤ n := by omega
  have htn : ((i : Int) + 1).toNat = i + 1 := by omega
  have hb2 : ¬ (c = i + 1) := by omega
  have hb3 : (i : Int) ≤ (n : Int) + 1 := by omega
  have hb4 : ¬ (c = i) := by omega
  have hz2' : ¬ ((i : Int) = (n : Int)) := by omega
  clear hA1 hA2 hB1 hB2 hown1d hown1 hown hcs hsp hfz h1x h1d hgc hsa hsb hl1 hl2 hW1 hx
  go_enter Try.func130, Try.ntmps130
  go_wp2_with (simp only [hov])
  go_region_law (refine step_copy_runI rfl _ _ 77 77 rfl _ _ (by simp [Act.eval, Act.put]) (by simp [Act.eval, Act.put]) (hcp1 _ _ _) ?_)
  go_wp2_with (at_builtin; refine wpList_copy_runI _ rfl _ _ 77 77 rfl _ _ rfl rfl (hcp2 _ _) ?_)
  go_ret
  exact ⟨_, rfl, HFIN.out.1, HFIN.out.2, rfl⟩

set_option maxHeartbeats 4000000 in
set_option maxRecDepth 100000 in
theorem insert_grow (B n g c i : Nat) (xs : List Value) (w : World) (hown : w.ownsRow B 88 1 (.slice (some ⟨g, 0, none⟩) n c) n xs) (h1x : ∀ u ∈ xs, u.oneCell' = true) (hi0 : i < n) (hn : n ≤ 1000) (hroom : c < n + 1) (vb : Nat) (x : Value) (hx : One w vb x) :
    Calls Try.prog 130 #[.slice (some ⟨g, 0, none⟩) n c, .int .i64 (i : Int), .slice (some ⟨vb, 0, none⟩) 1 1] w fun e w' => ∃ v', e = .returned v' ∧ w'.ownsRow B 88 1 v' (n + 1) (xs.take i ++ x :: xs.drop i) ∧ w.grownBy w' (some g) ∧ v'.ownBlock = some w.heap.size := by
  obtain ⟨i0, hi, hz0, hz1, hz2⟩ := info_parts Try.infoWd
  have hxl : xs.length = n := by have := hown.1; omega
  have hB : B ≤ w.heap.size := by have := hown.lt g rfl; omega
  have hcs : ∀ j v, xs[j]? = some v → w.cell? ⟨g, j, none⟩ = some v := fun j v hj => by
    have hjn : j < n := by have := (List.getElem?_eq_some_iff.1 hj).1; omega
    rw [hown.cellAt j (by omega)]; exact hj
  have hnc : n ≤ c := by
    rcases hown.2 with ⟨e, _⟩ | ⟨g', c', cur, e, _, _, h1, _⟩
    · cases e
    · injection e with e1 e2 e3; omega
  have hgw : g < w.heap.size := (hown.lt g rfl).2
  have hvw : vb < w.heap.size := by
    rcases Nat.lt_or_ge vb w.heap.size with h | h
    · exact h
    · have := hx.heap; rw [Array.getElem?_eq_none h] at this; cases this
  have hvx : w.cell? ⟨vb, 0, none⟩ = some x := by simp [World.cell?, hx.heap]
  have hsz : (Try.prog.info? 88).map (·.size) = some 1 := by rw [hi]; simp [hz1]
  have hold : (Builtin.firstCells i0.size i (.slice (some ⟨g, 0, none⟩) i c)).run Try.prog w.drew = .ok (xs.take i).toArray w.drew := by
    rw [hz1]
    exact run_firstCells_some w.drew 1 i ⟨g, 0, none⟩ i c (xs.take i) (by rw [List.length_take]; omega) (fun j v hj => by
      rw [Addr.add_lit, Nat.zero_add]
      rw [List.getElem?_take] at hj
      split at hj
      · exact hcs j v hj
      · cases hj)
  have hkk : (n : Int) + 1 - (i : Int) = ((n + 1 - i : Nat) : Int) := by omega
  have hik : i + (n + 1 - i) = n + 1 := by omega
  obtain ⟨G, hG⟩ : ∃ G, G = grownCap w (n + 1) c 88 := ⟨_, rfl⟩
  obtain ⟨ROW, hROW⟩ : ∃ ROW : Array Value, ROW = (xs.take i).toArray ++ Builtin.zeroCells (Value.slice none 0 0).cells (n + 1 - i) ++ Builtin.zeroCells (Value.slice none 0 0).cells (G - (n + 1)) := ⟨_, rfl⟩
  have hrz : ∀ ty, (Builtin.append_ #[77, 3] ty #[.slice (some ⟨g, 0, none⟩) i c, .int .i64 ((n : Int) + 1 - (i : Int))]).run Try.prog w = .ok (.slice (some ⟨w.heap.size, 0, none⟩) (n + 1) G) (w.drew.alloc (.cells ROW 88)) := fun ty => by
    have h := Lib.run_append_grow_zeros w 77 3 ty 88 i0 _ .i64 .i64 Try.underlying77 Try.underlying3 hi hz0 (some ⟨g, 0, none⟩) i c (xs.take i) hold (n + 1 - i) (by omega) (by omega) (by omega) (by omega) (by rw [hz2]; omega) (by rw [hz2, hik]; exact growslice_fits hroom (by omega))
    rw [hik] at h
    rw [hkk, hROW, hG]
    exact h
  have hGn : n + 1 ≤ G := by rw [hG]; exact grownCap_ge w _ _ _
  have hGm : G ≤ maxLen := by rw [hG]; exact grownCap_le_maxLen w (n + 1) c 88 (by unfold maxLen; omega)
  have hG63 : G ≤ 9223372036854775807 := by unfold maxLen at hGm; omega
  have hRs : ROW.size = G := by
    rw [hROW]
    simp [Builtin.zeroCells, Value.cells, hxl]
    omega
  have hRt : ROW.toList.take i = xs.take i := by
    rw [hROW]
    simp only [Array.toList_append]
    rw [List.append_assoc, List.take_append_of_le_length (by simp [hxl]; omega)]
    simp [List.take_take]
  obtain ⟨W1, hW1⟩ : ∃ W1, W1 = w.drew.alloc (.cells ROW 88) := ⟨_, rfl⟩
  rw [← hW1] at hrz
  have hdl : (xs.drop i).length = n - i := by rw [List.length_drop, hxl]
  have h1d : ∀ v ∈ xs.drop i, v.oneCell' = true := fun v hv => h1x v (List.mem_of_mem_drop hv)
  have hownN : W1.ownsRow B 88 1 (.slice (some ⟨w.heap.size, 0, none⟩) (n + 1) G) (n + 1) (ROW.toList.take (n + 1)) := by
    rw [hW1]
    exact ⟨by simp [hRs]; omega, .inr ⟨w.heap.size, G, ROW, rfl, hB, heap_alloc_new w.drew _, hGn, hGm, by omega, by rw [Nat.mul_one]⟩⟩
  have hgr1 : w.grownBy W1 (some g) := by
    have h := World.grownBy_alloc w.drew (.cells ROW 88) (some g)
    rw [hW1]
    exact ⟨h.os, h.tape, h.output, h.size, h.block⟩
  obtain ⟨hA1, hA2⟩ := ownsRow_cells [x] i hownN (by simp; omega)
  obtain ⟨hB1, hB2⟩ := ownsRow_cells (xs.drop i) (i + 1) hA1 (by rw [hdl]; omega)
  have hl : ((ROW.toList.take (n + 1)).take i ++ [x] ++ (ROW.toList.take (n + 1)).drop (i + [x].length)).take (i + 1) ++ xs.drop i ++ ((ROW.toList.take (n + 1)).take i ++ [x] ++ (ROW.toList.take (n + 1)).drop (i + [x].length)).drop (i + 1 + (xs.drop i).length) = xs.take i ++ x :: xs.drop i := by
    have e0 : (ROW.toList.take (n + 1)).take i = xs.take i := by rw [List.take_take, Nat.min_eq_left (by omega), hRt]
    have e1 : (xs.take i ++ [x]).length = i + 1 := by simp [hxl]; omega
    have e2 : (ROW.toList.take (n + 1)).length = n + 1 := by simp [hRs]; omega
    rw [e0]
    rw [show (xs.take i ++ [x] ++ (ROW.toList.take (n + 1)).drop (i + [x].length)).drop (i + 1 + (xs.drop i).length) = [] from List.drop_eq_nil_of_le (by rw [List.length_append, e1, List.length_drop, e2, hdl, List.length_singleton]; omega)]
    rw [List.take_append_of_le_length (by omega), List.take_of_length_le (by omega), List.append_nil, List.append_assoc]
    rfl
  rw [hl] at hB1
  have HFIN := Lib.hid (And.intro hB1 (show w.grownBy ((W1.setCells w.heap.size i [x]).setCells w.heap.size (i + 1) (xs.drop i)) (some g) from by
    have hs1 : w.heap.size ≤ W1.heap.size := hgr1.size
    exact ⟨(hB2.os.trans hA2.os).trans hgr1.os, (hB2.tape.trans hA2.tape).trans hgr1.tape, (hB2.output.trans hA2.output).trans hgr1.output, Nat.le_trans hs1 (Nat.le_trans hA2.size hB2.size), fun k hk hne =>
      ((hB2.block k (by have := hA2.size; omega) (by simp; omega)).trans (hA2.block k (by omega) (by simp; omega))).trans (hgr1.block k hk hne)⟩))
  have hOg : ∀ j v, w.cell? ⟨g, j, none⟩ = some v → W1.cell? ⟨g, j, none⟩ = some v := fun j v h => by rw [hW1, World.cell?_alloc_past (w := w.drew) _ g j hgw]; exact h
  have hcpA : ∀ ty dc, (Builtin.copy_ #[77, 77] ty #[.slice (some ⟨w.heap.size, i, none⟩) (n + 1 - i) dc, .slice (some ⟨vb, 0, none⟩) 1 1]).run Try.prog W1 = .ok (goInt [x].length) (W1.setCells w.heap.size i [x]) := fun ty dc =>
    run_copy_cells W1 _ _ ty 88 w.heap.size i (n + 1 - i) dc ⟨vb, 0, none⟩ 1 1 [x] Try.underlying77 hsz (by simp only [Nat.min_def, List.length_singleton]; split <;> omega)
      (fun j v hj => by
        match j, hj with
        | 0, hj =>
          simp at hj; subst hj
          rw [hW1]
          show (World.alloc _ _).cell? ⟨vb, 0, none⟩ = some x
          rw [World.cell?_alloc_past (w := w.drew) _ vb 0 hvw]; exact hvx)
      (fun j hj => by rw [hownN.cellAt _ (by simp at hj; omega), List.getElem?_eq_getElem (by have := hownN.1; simp at hj; omega)]; rfl) (fun j hj => hownN.frozenAt _) (fun u hu => by simp at hu; subst hu; exact hx.one)
  have hcpB : ∀ ty dc sc, (Builtin.copy_ #[77, 77] ty #[.slice (some ⟨w.heap.size, i + 1, none⟩) (n - i) dc, .slice (some ⟨g, i, none⟩) (n - i) sc]).run Try.prog (W1.setCells w.heap.size i [x]).drew = .ok (goInt (xs.drop i).length) ((W1.setCells w.heap.size i [x]).drew.setCells w.heap.size (i + 1) (xs.drop i)) := fun ty dc sc =>
    run_copy_cells _ _ _ ty 88 w.heap.size (i + 1) (n - i) dc ⟨g, i, none⟩ (n - i) sc (xs.drop i) Try.underlying77 hsz (by rw [hdl]; simp only [Nat.min_def]; split <;> omega)
      (fun j v hj => by
        rw [Addr.add_lit]
        show (W1.setCells w.heap.size i [x]).cell? ⟨g, i + j, none⟩ = some v
        rw [World.cell?_setCells_out _ _ _ _ _ (fun h _ => by have : g = w.heap.size := h; omega)]
        exact hOg _ v (hcs (i + j) v (by rwa [List.getElem?_drop] at hj)))
      (fun j hj => by
        show ((W1.setCells w.heap.size i [x]).cell? _).isSome = true
        rw [hA1.cellAt _ (by rw [hdl] at hj; omega), List.getElem?_eq_getElem (by have := hA1.1; rw [hdl] at hj; omega)]; rfl)
      (fun j hj => hA1.frozenAt _) h1d
  have hw1 : IntKind.i64.wrap ((i : Int) + 1) = (i : Int) + 1 := by rw [IntKind.wrap_i64]; omega
  have hb1 : (0 : Int) ≤ (i : Int) + 1 := by omega
  have hin : i ≤ n := by omega
  have htn : ((i : Int) + 1).toNat = i + 1 := by omega
  have hGi : ¬ (G = i) := by omega
  have hGim : ¬ (G = i + 1) := by omega
  have hci : ¬ (c = i) := by omega
  have hb3 : (i : Int) ≤ (n : Int) := by omega
  have hz2' : ¬ ((i : Int) = (n : Int)) := by omega
  have hz3 : (c : Int) < (n : Int) + 1 := by omega
  have HRES : Hid (∃ W2, ((W1.setCells w.heap.size i [x]).drew.setCells w.heap.size (i + 1) (xs.drop i)) = W2 ∧ W2.ownsRow B 88 1 (.slice (some ⟨w.heap.size, 0, none⟩) (n + 1) G) (n + 1) (xs.take i ++ x :: xs.drop i) ∧ w.grownBy W2 (some g)) := Lib.hid ⟨_, rfl, by rw [← Go.Proofs.drew_setCells]; exact HFIN.out.1, by rw [← Go.Proofs.drew_setCells]; exact ⟨HFIN.out.2.os, HFIN.out.2.tape, HFIN.out.2.output, HFIN.out.2.size, HFIN.out.2.block⟩⟩
  obtain ⟨W2, hW2, hE1, hE2⟩ := HRES.out
  rw [hW2] at hcpB
  have HEND := Lib.hid (And.intro hE1 hE2)
  obtain ⟨W1x, hW1x⟩ : ∃ W1x, W1.setCells w.heap.size i [x] = W1x := ⟨_, rfl⟩
  rw [hW1x] at hcpA hcpB
  clear hA1 hA2 hB1 hB2 hownN hown hcs h1x h1d hl hx hOg HFIN HRES hE1 hE2 hW1x hW1 hW2 hgr1 hROW hold hRt hRs hkk hik hG hGm
  go_enter Try.func130, Try.ntmps130
  go_wp2_with (first
    | (at_builtin; refine Lib.wpList_append_run _ rfl _ _ _ _ rfl _ _ rfl rfl _ _ (hrz _) ?_)
    | (at_builtin; refine wpList_copy_runI _ rfl _ _ 77 77 rfl _ _ rfl rfl (hcpA _ _) ?_))
  go_region_law (refine step_copy_runI rfl _ _ 77 77 rfl _ _ (by simp [Act.eval, Act.put]) (by simp [Act.eval, Act.put]) (hcpB _ _ _) ?_)
  go_wp2
  go_ret
  exact ⟨_, rfl, HEND.out.1, HEND.out.2, rfl⟩
end Go.Proofs.Ytfpahdbkcdpchaa
