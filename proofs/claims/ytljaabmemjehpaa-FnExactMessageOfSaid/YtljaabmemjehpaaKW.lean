/- A word put among the words of a list of the call's own: the library's Insert, of one element. · A coder's rows: words that a call has made and changes. -/
import Derived.Test.YtljaabmemjehpaaWr
import Derived.Maps.AppendAt
import Derived.Shelf.Spec.SlicesInsert
import Derived.Lib.AppendZerosOnto
import Derived.Laws.NewBlocks
import Derived.Deep.RegionLaw
import Derived.Laws.Externs
import Derived.Lib.Overlaps
import Derived.Test.YtljaabmemjehpaaHW
import Derived.Test.YtljaabmemjehpaaBSearch
import Derived.Test.YtljaabmemjehpaaWSum
import Derived.Test.YtljaabmemjehpaaLinI4
namespace Go.Proofs.Ytljaabmemjehpaa
open Go.RowKit Go.Joins Go.Lib
set_option linter.unusedVariables false
set_option linter.unusedSimpArgs false

theorem Try.infoWd : (Try.prog.info? 96).map (fun i => (i.zero, i.size, i.bytes)) = some (some (.slice none 0 0), 1, 24) := by kernel_rfl

theorem ownsRow_cells {B : Nat} {e : TypeId} {g n cap : Nat} : ∀ (vs : List Value) (o : Nat) {w : World} {xs : List Value}, w.ownsRow B e 1 (.slice (some ⟨g, 0, none⟩) n cap) n xs → o + vs.length ≤ n →
    (w.setCells g o vs).ownsRow B e 1 (.slice (some ⟨g, 0, none⟩) n cap) n (xs.take o ++ vs ++ xs.drop (o + vs.length)) ∧ w.grownBy (w.setCells g o vs) (some g)
  | [], o, w, xs, h, ho => ⟨by simpa [World.setCells] using h, World.grownBy.refl w _⟩
  | v :: vs, o, w, xs, h, ho => by
    have hx : xs.length = n := by have := h.1; omega
    simp only [List.length_cons] at ho
    obtain ⟨h1, h2⟩ := h.stored o v
    obtain ⟨h3, h4⟩ := ownsRow_cells vs (o + 1) h1 (by omega)
    refine ⟨?_, World.grownBy.trans h2 h4⟩
    have e : (xs.set o v).take (o + 1) ++ vs ++ (xs.set o v).drop (o + 1 + vs.length) = xs.take o ++ v :: vs ++ xs.drop (o + (v :: vs).length) := by
      rw [List.drop_set_of_lt (by omega), List.take_add_one, List.take_set_of_le (by omega), List.getElem?_set_self (by omega)]
      simp only [Option.toList, List.length_cons, List.append_assoc, List.cons_append, List.nil_append]
      rw [show o + 1 + vs.length = o + (vs.length + 1) by omega]
    rw [e] at h3
    exact h3
theorem ownsRow_more {w : World} {B : Nat} {e : TypeId} {g n cap : Nat} {xs : List Value} (h : w.ownsRow B e 1 (.slice (some ⟨g, 0, none⟩) n cap) n xs) (hc : n + 1 ≤ cap) : ∃ y, w.ownsRow B e 1 (.slice (some ⟨g, 0, none⟩) (n + 1) cap) (n + 1) (xs ++ [y]) := by
  obtain ⟨h1, h2⟩ := h
  rcases h2 with ⟨e, _⟩ | ⟨g', cap', cur, e, hb, hg, hn, hm, hs, ht⟩
  · cases e
  · injection e with e1 e2 e3
    injection e1 with e1; injection e1 with e1
    subst e1 e3
    obtain ⟨y, hy⟩ : ∃ y, cur.toList[n]? = some y := ⟨_, List.getElem?_eq_getElem (by simp; omega)⟩
    refine ⟨y, by simp; omega, .inr ⟨g, cap, cur, rfl, hb, hg, hc, hm, hs, ?_⟩⟩
    rw [← ht, Nat.mul_one, Nat.mul_one, List.take_add_one, hy]
    rfl

/-- What lies in a block that holds one word. -/
structure One (w : World) (vb : Nat) (x : Value) : Prop where
  heap : w.heap[vb]? = some (.cells #[x] 96 (0, 0))
  one : x.oneCell' = true

set_option maxHeartbeats 4000000 in
set_option maxRecDepth 100000 in
theorem insert_end (B n : Nat) (v : Value) (xs : List Value) (w : World) (hown : w.ownsRow B 96 1 v n xs) (hn : n ≤ 1000) (hB : B ≤ w.heap.size) (vb : Nat) (x : Value) (hx : One w vb x) :
    Calls Try.prog 159 #[v, .int .i64 (n : Int), .slice (some ⟨vb, 0, none⟩) 1 1] w fun e w' => ∃ v', e = .returned v' ∧ w'.ownsRow B 96 1 v' (n + 1) (xs ++ [x]) ∧ w.grownBy w' v.ownBlock ∧ (v'.ownBlock = v.ownBlock ∨ v'.ownBlock = some w.heap.size) := by
  obtain ⟨i0, hi, hz0, hz1, hz2⟩ := info_parts Try.infoWd
  have hnew : ∀ (j : Nat) (u : Value), [x][j]? = some u → w.cell? ((⟨vb, 0, none⟩ : Addr).add j) = some u := fun j u hj => by
    match j, hj with
    | 0, hj =>
      simp at hj; subst hj
      have := hx.heap
      simp [Addr.add, World.cell?, this]
  have h1c : ∀ u ∈ [x], u.oneCell' = true := fun u hu => by simp at hu; subst hu; exact hx.one
  have HNEW := Lib.hid (And.intro hnew h1c)
  clear hnew h1c
  rcases ownsRow_forms hown with ⟨rfl, rfl⟩ | ⟨g, cap, rfl⟩
  · go_enter Try.func159, Try.ntmps159
    go_wp2_with (at_builtin; refine wpList_append_own_at _ rfl _ _ 100 rfl B 96 i0 (.slice none 0 0) 1 24 Try.underlying100 hi hz0 hz1 hz2 rfl (by decide) _ _ _ rfl hown ⟨vb, 0, none⟩ 1 1 [x] rfl rfl HNEW.out.1 HNEW.out.2 (by unfold maxLen; omega) (by omega) hB ?_; intro v' w2 hown' hgrow _ hat; have HAP := Lib.hid (And.intro hown' (And.intro hgrow hat)); clear hown' hgrow hat)
    go_ret
    exact ⟨_, rfl, HAP.out.1, HAP.out.2.1, HAP.out.2.2⟩
  · have hcap : n ≤ cap := by
      rcases hown.2 with ⟨e, _⟩ | ⟨g', c', cur, e, _, _, h1, _⟩
      · cases e
      · injection e with e1 e2 e3; omega
    go_enter Try.func159, Try.ntmps159
    go_wp2_with (at_builtin; refine wpList_append_own_at _ rfl _ _ 100 rfl B 96 i0 (.slice none 0 0) 1 24 Try.underlying100 hi hz0 hz1 hz2 rfl (by decide) _ _ _ rfl hown ⟨vb, 0, none⟩ 1 1 [x] rfl rfl HNEW.out.1 HNEW.out.2 (by unfold maxLen; omega) (by omega) hB ?_; intro v' w2 hown' hgrow _ hat; have HAP := Lib.hid (And.intro hown' (And.intro hgrow hat)); clear hown' hgrow hat)
    all_goals
      go_ret
      exact ⟨_, rfl, HAP.out.1, HAP.out.2.1, HAP.out.2.2⟩

set_option maxHeartbeats 4000000 in
set_option maxRecDepth 100000 in
theorem insert_shift (B n g c i : Nat) (xs : List Value) (w : World) (hown : w.ownsRow B 96 1 (.slice (some ⟨g, 0, none⟩) n c) n xs) (h1x : ∀ u ∈ xs, u.oneCell' = true) (hi0 : i < n) (hn : n ≤ 1000) (hroom : n + 1 ≤ c) (vb : Nat) (x : Value) (hx : One w vb x) (hvb : vb ≠ g) :
    Calls Try.prog 159 #[.slice (some ⟨g, 0, none⟩) n c, .int .i64 (i : Int), .slice (some ⟨vb, 0, none⟩) 1 1] w fun e w' => ∃ v', e = .returned v' ∧ w'.ownsRow B 96 1 v' (n + 1) (xs.take i ++ x :: xs.drop i) ∧ w.grownBy w' (some g) ∧ v'.ownBlock = some g := by
  obtain ⟨i0, hi, hz0, hz1, hz2⟩ := info_parts Try.infoWd
  have hxl : xs.length = n := by have := hown.1; omega
  obtain ⟨y, hown1⟩ := ownsRow_more hown hroom
  have hfz : ∀ j, w.frozen? ⟨g, j, none⟩ = false := fun j => hown.frozenAt j
  have hcs : ∀ j v, xs[j]? = some v → w.cell? ⟨g, j, none⟩ = some v := fun j v hj => by
    have hjn : j < n := by have := (List.getElem?_eq_some_iff.1 hj).1; omega
    rw [hown.cellAt j (by omega)]; exact hj
  have hsp : ∀ j, j < n + 1 → (w.cell? ⟨g, j, none⟩).isSome = true := fun j hj => by
    rw [hown1.cellAt j (by omega)]
    rw [List.getElem?_eq_getElem (by rw [List.length_append]; simp; omega)]; rfl
  have hc63 : c ≤ 9223372036854775807 := by
    rcases hown.2 with ⟨e, _⟩ | ⟨g', c', cur, e, _, _, _, h1, _⟩
    · cases e
    · injection e with e1 e2 e3; unfold maxLen at h1; omega
  have hgs : ∃ cur : Array Value, w.heap[g]? = some (.cells cur 96 (0, 0)) ∧ cur.size ≠ 0 := by
    rcases hown.2 with ⟨e, _⟩ | ⟨g', c', cur, e, _, hg, h1, _, h2, _⟩
    · cases e
    · injection e with e1 e2 e3
      injection e1 with e1; injection e1 with e1
      exact ⟨cur, by rw [e1]; exact hg, by omega⟩
  obtain ⟨cur, hgc, hcn⟩ := hgs
  have hsa : w.shape? vb = some (96, 1) := by simp [World.shape?, hx.heap]
  have hsb : w.shape? g = some (96, cur.size) := by simp [World.shape?, hgc]
  have hfa : w.frozen? ⟨vb, 0, none⟩ = false := by simp [World.frozen?, hx.heap]
  have hfe : w.frozen? ⟨vb, 1, none⟩ = false := by simp [World.frozen?, hx.heap]
  have hvx : w.cell? ⟨vb, 0, none⟩ = some x := by simp [World.cell?, hx.heap]
  have hsz : (Try.prog.info? 96).map (·.size) = some 1 := by rw [hi]; simp [hz1]
  have hov : ∀ lb cb, (callFunc 176 #[.slice (some ⟨vb, 0, none⟩) 1 1, .slice (some ⟨g, i + 1, none⟩) lb cb]).run Try.prog w = .ok (.value (.bool false)) w := fun lb cb => by
    rw [run_callFunc_extern Try.func176 (by kernel_rfl) (by kernel_rfl) (by kernel_rfl) (e := Extern.SlicesOverlaps.overlaps #[100, 100] #[4]) (by kernel_rfl),
      Lib.run_overlaps_apart w 100 4 96 Try.underlying100 1 (fun w => by simp [Go.sizeOf, Go.typeInfo, hi, hz1]) ⟨vb, 0, none⟩ ⟨g, i + 1, none⟩ 1 1 lb cb hvb _ _ _ _ hsa hsb hcn hfa hfe]
    rfl
  have hdl : (xs.drop i).length = n - i := by rw [List.length_drop, hxl]
  have h1d : ∀ v ∈ xs.drop i, v.oneCell' = true := fun v hv => h1x v (List.mem_of_mem_drop hv)
  have hcp1 : ∀ ty dc sc, (Builtin.copy_ #[100, 100] ty #[.slice (some ⟨g, i + 1, none⟩) (n - i) dc, .slice (some ⟨g, i, none⟩) (n + 1 - i) sc]).run Try.prog w.drew = .ok (goInt (xs.drop i).length) (w.drew.setCells g (i + 1) (xs.drop i)) := fun ty dc sc =>
    run_copy_cells w.drew _ _ ty 96 g (i + 1) (n - i) dc ⟨g, i, none⟩ (n + 1 - i) sc (xs.drop i) Try.underlying100 hsz (by rw [hdl]; simp only [Nat.min_def]; split <;> omega)
      (fun j v hj => by rw [Addr.add_lit]; exact hcs (i + j) v (by rwa [List.getElem?_drop] at hj))
      (fun j hj => hsp _ (by rw [hdl] at hj; omega)) (fun j hj => hfz _) h1d
  obtain ⟨W1, hW1⟩ : ∃ W1, W1 = w.drew.setCells g (i + 1) (xs.drop i) := ⟨_, rfl⟩
  have hown1d : w.drew.ownsRow B 96 1 (.slice (some ⟨g, 0, none⟩) (n + 1) c) (n + 1) (xs ++ [y]) := hown1
  obtain ⟨hA1, hA2⟩ := ownsRow_cells (xs.drop i) (i + 1) hown1d (by rw [hdl]; omega)
  rw [← hW1] at hA1 hA2 hcp1
  have hl1 : (xs ++ [y]).take (i + 1) ++ xs.drop i ++ (xs ++ [y]).drop (i + 1 + (xs.drop i).length) = (xs ++ [y]).take (i + 1) ++ xs.drop i := by
    have hd : (xs ++ [y]).drop (i + 1 + (xs.drop i).length) = [] := List.drop_eq_nil_of_le (by rw [List.length_append, hdl, List.length_singleton, hxl]; omega)
    rw [hd, List.append_nil]
  rw [hl1] at hA1
  obtain ⟨hB1, hB2⟩ := ownsRow_cells [x] i hA1 (by simp; omega)
  have hl2 : ((xs ++ [y]).take (i + 1) ++ xs.drop i).take i ++ [x] ++ ((xs ++ [y]).take (i + 1) ++ xs.drop i).drop (i + [x].length) = xs.take i ++ x :: xs.drop i := by
    have e1 : ((xs ++ [y]).take (i + 1)).length = i + 1 := by simp [hxl]; omega
    rw [List.take_append_of_le_length (by omega), List.take_take, Nat.min_eq_left (by omega), List.take_append_of_le_length (by omega), List.length_singleton, List.drop_append_of_le_length (by omega), List.drop_eq_nil_of_le (by omega), List.nil_append, List.append_assoc]
    rfl
  rw [hl2] at hB1
  have HFIN := Lib.hid (And.intro hB1 (show w.grownBy (W1.setCells g i [x]) (some g) from ⟨hB2.os.trans hA2.os, hB2.tape.trans hA2.tape, hB2.output.trans hA2.output, Nat.le_trans hA2.size hB2.size, fun k hk hne => (hB2.block k (Nat.lt_of_lt_of_le hk hA2.size) hne).trans (hA2.block k hk hne)⟩))
  have hcp2 : ∀ ty dc, (Builtin.copy_ #[100, 100] ty #[.slice (some ⟨g, i, none⟩) (n + 1 - i) dc, .slice (some ⟨vb, 0, none⟩) 1 1]).run Try.prog W1 = .ok (goInt [x].length) (W1.setCells g i [x]) := fun ty dc =>
    run_copy_cells W1 _ _ ty 96 g i (n + 1 - i) dc ⟨vb, 0, none⟩ 1 1 [x] Try.underlying100 hsz (by simp only [Nat.min_def, List.length_singleton]; split <;> omega)
      (fun j v hj => by
        match j, hj with
        | 0, hj =>
          simp at hj; subst hj
          rw [hW1, World.cell?_setCells_out g _ _ _ _ (fun h _ => absurd h hvb)]
          exact hvx)
      (fun j hj => by rw [hA1.cellAt _ (by simp at hj; omega), List.getElem?_eq_getElem (by have := hA1.1; simp at hj; omega)]; rfl) (fun j hj => hA1.frozenAt _) (fun u hu => by simp at hu; subst hu; exact hx.one)
  have hw1 : IntKind.i64.wrap ((i : Int) + 1) = (i : Int) + 1 := by rw [IntKind.wrap_i64]; omega
  have hb1 : (0 : Int) ≤ (i : Int) + 1 := by omega
  have hin : i ≤ n := by omega
  have htn : ((i : Int) + 1).toNat = i + 1 := by omega
  have hb2 : ¬ (c = i + 1) := by omega
  have hb3 : (i : Int) ≤ (n : Int) + 1 := by omega
  have hb4 : ¬ (c = i) := by omega
  have hz2' : ¬ ((i : Int) = (n : Int)) := by omega
  clear hA1 hA2 hB1 hB2 hown1d hown1 hown hcs hsp hfz h1x h1d hgc hsa hsb hl1 hl2 hW1 hx
  go_enter Try.func159, Try.ntmps159
  go_wp2_with (simp only [hov])
  go_region_law (refine step_copy_runI rfl _ _ 100 100 rfl _ _ (by simp [Act.eval, Act.put]) (by simp [Act.eval, Act.put]) (hcp1 _ _ _) ?_)
  go_wp2_with (at_builtin; refine wpList_copy_runI _ rfl _ _ 100 100 rfl _ _ rfl rfl (hcp2 _ _) ?_)
  go_ret
  exact ⟨_, rfl, HFIN.out.1, HFIN.out.2, rfl⟩

set_option maxHeartbeats 4000000 in
set_option maxRecDepth 100000 in
theorem insert_grow (B n g c i : Nat) (xs : List Value) (w : World) (hown : w.ownsRow B 96 1 (.slice (some ⟨g, 0, none⟩) n c) n xs) (h1x : ∀ u ∈ xs, u.oneCell' = true) (hi0 : i < n) (hn : n ≤ 1000) (hroom : c < n + 1) (vb : Nat) (x : Value) (hx : One w vb x) :
    Calls Try.prog 159 #[.slice (some ⟨g, 0, none⟩) n c, .int .i64 (i : Int), .slice (some ⟨vb, 0, none⟩) 1 1] w fun e w' => ∃ v', e = .returned v' ∧ w'.ownsRow B 96 1 v' (n + 1) (xs.take i ++ x :: xs.drop i) ∧ w.grownBy w' (some g) ∧ v'.ownBlock = some w.heap.size := by
  obtain ⟨i0, hi, hz0, hz1, hz2⟩ := info_parts Try.infoWd
  have hxl : xs.length = n := by have := hown.1; omega
  have hB : B ≤ w.heap.size := by have := hown.lt g rfl; omega
  have hcs : ∀ j v, xs[j]? = some v → w.cell? ⟨g, j, none⟩ = some v := fun j v hj => by
    have hjn : j < n := by have := (List.getElem?_eq_some_iff.1 hj).1; omega
    rw [hown.cellAt j (by omega)]; exact hj
  have hnc : n ≤ c := by
    rcases hown.2 with ⟨e, _⟩ | ⟨g', c', cur, e, _, _, h1, _⟩
    · cases e
    · injection e with e1 e2 e3; omega
  have hgw : g < w.heap.size := (hown.lt g rfl).2
  have hvw : vb < w.heap.size := by
    rcases Nat.lt_or_ge vb w.heap.size with h | h
    · exact h
    · have := hx.heap; rw [Array.getElem?_eq_none h] at this; cases this
  have hvx : w.cell? ⟨vb, 0, none⟩ = some x := by simp [World.cell?, hx.heap]
  have hsz : (Try.prog.info? 96).map (·.size) = some 1 := by rw [hi]; simp [hz1]
  have hold : (Builtin.firstCells i0.size i (.slice (some ⟨g, 0, none⟩) i c)).run Try.prog w.drew = .ok (xs.take i).toArray w.drew := by
    rw [hz1]
    exact run_firstCells_some w.drew 1 i ⟨g, 0, none⟩ i c (xs.take i) (by rw [List.length_take]; omega) (fun j v hj => by
      rw [Addr.add_lit, Nat.zero_add]
      rw [List.getElem?_take] at hj
      split at hj
      · exact hcs j v hj
      · cases hj)
  have hkk : (n : Int) + 1 - (i : Int) = ((n + 1 - i : Nat) : Int) := by omega
  have hik : i + (n + 1 - i) = n + 1 := by omega
  obtain ⟨G, hG⟩ : ∃ G, G = grownCap w (n + 1) c 96 := ⟨_, rfl⟩
  obtain ⟨ROW, hROW⟩ : ∃ ROW : Array Value, ROW = (xs.take i).toArray ++ Builtin.zeroCells (Value.slice none 0 0).cells (n + 1 - i) ++ Builtin.zeroCells (Value.slice none 0 0).cells (G - (n + 1)) := ⟨_, rfl⟩
  have hrz : ∀ ty, (Builtin.append_ #[100, 3] ty #[.slice (some ⟨g, 0, none⟩) i c, .int .i64 ((n : Int) + 1 - (i : Int))]).run Try.prog w = .ok (.slice (some ⟨w.heap.size, 0, none⟩) (n + 1) G) (w.drew.alloc (.cells ROW 96)) := fun ty => by
    have h := Lib.run_append_grow_zeros w 100 3 ty 96 i0 _ .i64 .i64 Try.underlying100 Try.underlying3 hi hz0 (some ⟨g, 0, none⟩) i c (xs.take i) hold (n + 1 - i) (by omega) (by omega) (by omega) (by omega) (by rw [hz2]; omega) (by rw [hz2, hik]; exact growslice_fits hroom (by omega))
    rw [hik] at h
    rw [hkk, hROW, hG]
    exact h
  have hGn : n + 1 ≤ G := by rw [hG]; exact grownCap_ge w _ _ _
  have hGm : G ≤ maxLen := by rw [hG]; exact grownCap_le_maxLen w (n + 1) c 96 (by unfold maxLen; omega)
  have hG63 : G ≤ 9223372036854775807 := by unfold maxLen at hGm; omega
  have hRs : ROW.size = G := by
    rw [hROW]
    simp [Builtin.zeroCells, Value.cells, hxl]
    omega
  have hRt : ROW.toList.take i = xs.take i := by
    rw [hROW]
    simp only [Array.toList_append]
    rw [List.append_assoc, List.take_append_of_le_length (by simp [hxl]; omega)]
    simp [List.take_take]
  obtain ⟨W1, hW1⟩ : ∃ W1, W1 = w.drew.alloc (.cells ROW 96) := ⟨_, rfl⟩
  rw [← hW1] at hrz
  have hdl : (xs.drop i).length = n - i := by rw [List.length_drop, hxl]
  have h1d : ∀ v ∈ xs.drop i, v.oneCell' = true := fun v hv => h1x v (List.mem_of_mem_drop hv)
  have hownN : W1.ownsRow B 96 1 (.slice (some ⟨w.heap.size, 0, none⟩) (n + 1) G) (n + 1) (ROW.toList.take (n + 1)) := by
    rw [hW1]
    exact ⟨by simp [hRs]; omega, .inr ⟨w.heap.size, G, ROW, rfl, hB, heap_alloc_new w.drew _, hGn, hGm, by omega, by rw [Nat.mul_one]⟩⟩
  have hgr1 : w.grownBy W1 (some g) := by
    have h := World.grownBy_alloc w.drew (.cells ROW 96) (some g)
    rw [hW1]
    exact ⟨h.os, h.tape, h.output, h.size, h.block⟩
  obtain ⟨hA1, hA2⟩ := ownsRow_cells [x] i hownN (by simp; omega)
  obtain ⟨hB1, hB2⟩ := ownsRow_cells (xs.drop i) (i + 1) hA1 (by rw [hdl]; omega)
  have hl : ((ROW.toList.take (n + 1)).take i ++ [x] ++ (ROW.toList.take (n + 1)).drop (i + [x].length)).take (i + 1) ++ xs.drop i ++ ((ROW.toList.take (n + 1)).take i ++ [x] ++ (ROW.toList.take (n + 1)).drop (i + [x].length)).drop (i + 1 + (xs.drop i).length) = xs.take i ++ x :: xs.drop i := by
    have e0 : (ROW.toList.take (n + 1)).take i = xs.take i := by rw [List.take_take, Nat.min_eq_left (by omega), hRt]
    have e1 : (xs.take i ++ [x]).length = i + 1 := by simp [hxl]; omega
    have e2 : (ROW.toList.take (n + 1)).length = n + 1 := by simp [hRs]; omega
    rw [e0]
    rw [show (xs.take i ++ [x] ++ (ROW.toList.take (n + 1)).drop (i + [x].length)).drop (i + 1 + (xs.drop i).length) = [] from List.drop_eq_nil_of_le (by rw [List.length_append, e1, List.length_drop, e2, hdl, List.length_singleton]; omega)]
    rw [List.take_append_of_le_length (by omega), List.take_of_length_le (by omega), List.append_nil, List.append_assoc]
    rfl
  rw [hl] at hB1
  have HFIN := Lib.hid (And.intro hB1 (show w.grownBy ((W1.setCells w.heap.size i [x]).setCells w.heap.size (i + 1) (xs.drop i)) (some g) from by
    have hs1 : w.heap.size ≤ W1.heap.size := hgr1.size
    exact ⟨(hB2.os.trans hA2.os).trans hgr1.os, (hB2.tape.trans hA2.tape).trans hgr1.tape, (hB2.output.trans hA2.output).trans hgr1.output, Nat.le_trans hs1 (Nat.le_trans hA2.size hB2.size), fun k hk hne =>
      ((hB2.block k (by have := hA2.size; omega) (by simp; omega)).trans (hA2.block k (by omega) (by simp; omega))).trans (hgr1.block k hk hne)⟩))
  have hOg : ∀ j v, w.cell? ⟨g, j, none⟩ = some v → W1.cell? ⟨g, j, none⟩ = some v := fun j v h => by rw [hW1, World.cell?_alloc_past (w := w.drew) _ g j hgw]; exact h
  have hcpA : ∀ ty dc, (Builtin.copy_ #[100, 100] ty #[.slice (some ⟨w.heap.size, i, none⟩) (n + 1 - i) dc, .slice (some ⟨vb, 0, none⟩) 1 1]).run Try.prog W1 = .ok (goInt [x].length) (W1.setCells w.heap.size i [x]) := fun ty dc =>
    run_copy_cells W1 _ _ ty 96 w.heap.size i (n + 1 - i) dc ⟨vb, 0, none⟩ 1 1 [x] Try.underlying100 hsz (by simp only [Nat.min_def, List.length_singleton]; split <;> omega)
      (fun j v hj => by
        match j, hj with
        | 0, hj =>
          simp at hj; subst hj
          rw [hW1]
          show (World.alloc _ _).cell? ⟨vb, 0, none⟩ = some x
          rw [World.cell?_alloc_past (w := w.drew) _ vb 0 hvw]; exact hvx)
      (fun j hj => by rw [hownN.cellAt _ (by simp at hj; omega), List.getElem?_eq_getElem (by have := hownN.1; simp at hj; omega)]; rfl) (fun j hj => hownN.frozenAt _) (fun u hu => by simp at hu; subst hu; exact hx.one)
  have hcpB : ∀ ty dc sc, (Builtin.copy_ #[100, 100] ty #[.slice (some ⟨w.heap.size, i + 1, none⟩) (n - i) dc, .slice (some ⟨g, i, none⟩) (n - i) sc]).run Try.prog (W1.setCells w.heap.size i [x]).drew = .ok (goInt (xs.drop i).length) ((W1.setCells w.heap.size i [x]).drew.setCells w.heap.size (i + 1) (xs.drop i)) := fun ty dc sc =>
    run_copy_cells _ _ _ ty 96 w.heap.size (i + 1) (n - i) dc ⟨g, i, none⟩ (n - i) sc (xs.drop i) Try.underlying100 hsz (by rw [hdl]; simp only [Nat.min_def]; split <;> omega)
      (fun j v hj => by
        rw [Addr.add_lit]
        show (W1.setCells w.heap.size i [x]).cell? ⟨g, i + j, none⟩ = some v
        rw [World.cell?_setCells_out _ _ _ _ _ (fun h _ => by have : g = w.heap.size := h; omega)]
        exact hOg _ v (hcs (i + j) v (by rwa [List.getElem?_drop] at hj)))
      (fun j hj => by
        show ((W1.setCells w.heap.size i [x]).cell? _).isSome = true
        rw [hA1.cellAt _ (by rw [hdl] at hj; omega), List.getElem?_eq_getElem (by have := hA1.1; rw [hdl] at hj; omega)]; rfl)
      (fun j hj => hA1.frozenAt _) h1d
  have hw1 : IntKind.i64.wrap ((i : Int) + 1) = (i : Int) + 1 := by rw [IntKind.wrap_i64]; omega
  have hb1 : (0 : Int) ≤ (i : Int) + 1 := by omega
  have hin : i ≤ n := by omega
  have htn : ((i : Int) + 1).toNat = i + 1 := by omega
  have hGi : ¬ (G = i) := by omega
  have hGim : ¬ (G = i + 1) := by omega
  have hci : ¬ (c = i) := by omega
  have hb3 : (i : Int) ≤ (n : Int) := by omega
  have hz2' : ¬ ((i : Int) = (n : Int)) := by omega
  have hz3 : (c : Int) < (n : Int) + 1 := by omega
  have HRES : Hid (∃ W2, ((W1.setCells w.heap.size i [x]).drew.setCells w.heap.size (i + 1) (xs.drop i)) = W2 ∧ W2.ownsRow B 96 1 (.slice (some ⟨w.heap.size, 0, none⟩) (n + 1) G) (n + 1) (xs.take i ++ x :: xs.drop i) ∧ w.grownBy W2 (some g)) := Lib.hid ⟨_, rfl, by rw [← Go.Proofs.drew_setCells]; exact HFIN.out.1, by rw [← Go.Proofs.drew_setCells]; exact ⟨HFIN.out.2.os, HFIN.out.2.tape, HFIN.out.2.output, HFIN.out.2.size, HFIN.out.2.block⟩⟩
  obtain ⟨W2, hW2, hE1, hE2⟩ := HRES.out
  rw [hW2] at hcpB
  have HEND := Lib.hid (And.intro hE1 hE2)
  obtain ⟨W1x, hW1x⟩ : ∃ W1x, W1.setCells w.heap.size i [x] = W1x := ⟨_, rfl⟩
  rw [hW1x] at hcpA hcpB
  clear hA1 hA2 hB1 hB2 hownN hown hcs h1x h1d hl hx hOg HFIN HRES hE1 hE2 hW1x hW1 hW2 hgr1 hROW hold hRt hRs hkk hik hG hGm
  go_enter Try.func159, Try.ntmps159
  go_wp2_with (first
    | (at_builtin; refine Lib.wpList_append_run _ rfl _ _ _ _ rfl _ _ rfl rfl _ _ (hrz _) ?_)
    | (at_builtin; refine wpList_copy_runI _ rfl _ _ 100 100 rfl _ _ rfl rfl (hcpA _ _) ?_))
  go_region_law (refine step_copy_runI rfl _ _ 100 100 rfl _ _ (by simp [Act.eval, Act.put]) (by simp [Act.eval, Act.put]) (hcpB _ _ _) ?_)
  go_wp2
  go_ret
  exact ⟨_, rfl, HEND.out.1, HEND.out.2, rfl⟩
end Go.Proofs.Ytljaabmemjehpaa
namespace Go.Proofs.Ytljaabmemjehpaa
open Go.RowKit Go.Joins
set_option linter.unusedVariables false

/-- A coder's five cells. -/
abbrev kcL (c : Nat) (d p l : Int) (v : Value) : List Value := [.pointer (some ⟨c, 0, none⟩), .int .i64 d, .int .i64 p, .int .i64 l, v]

theorem nth_xorW {p q : List Nat} {k : Nat} (hp : p.length = k) (hq : q.length = k) : nth (xorW p q k) = va (nth p) (nth q) := funext fun j => by
  show nth (xorW p q k) j = nth p j ^^^ nth q j
  rcases Nat.lt_or_ge j k with h | h
  · rw [xorW, lst_nth _ h]
  · rw [nth_ge (by rw [xorW, lst_length]; exact h), nth_ge (p := p) (by omega), nth_ge (p := q) (by omega)]; rfl
theorem nth_scl' {m P n : Nat} (hF : Fld m P n) {a : Nat} (ha : a < n) (p : List Nat) : nth (scl P a p) = vs P a (nth p) := funext fun j => by
  show nth (scl P a p) j = mul P a (nth p j)
  rcases Nat.lt_or_ge j p.length with h | h
  · rw [scl, lst_nth _ h]
  · rw [nth_ge (by rw [scl, lst_length]; exact h), nth_ge (p := p) h, mul_zero' hF ha]
theorem restV_snoc (P len : Nat) (L : List (Nat → Nat)) (s w : Nat → Nat) : restV P len (L ++ [s]) w = va (restV P len L w) (Go.Proofs.Ytljaabmemjehpaa.vs P (restV P len L w (ldv s len)) s) := by
  rw [restV, List.foldl_append]; rfl
theorem fs_succ (hs : Nat → List Nat) (n : Nat) : fs hs (n + 1) = fs hs n ++ [nth (hs n)] := by simp [fs, List.range_succ]
theorem fs_mem {hs : Nat → List Nat} {n j : Nat} (hj : j < n) : nth (hs j) ∈ fs hs n := List.mem_map.2 ⟨j, List.mem_range.2 hj, rfl⟩

structure KW (W : World) (B len n : Nat) (v : Value) (hs : Nat → List Nat) (vs : Nat → Value) (b : Nat → Nat) : Prop where
  head : W.ownsRow B 96 1 v n ((List.range n).map vs)
  form : ∀ j, j < n → ∃ cj, vs j = .slice (some ⟨b j, 0, none⟩) len cj
  row : ∀ j, j < n → Rl W .u8 (some ⟨b j, 0, none⟩) len (hs j)
  own : ∀ j, j < n → B ≤ b j ∧ b j < W.heap.size ∧ v.ownBlock ≠ some (b j)
theorem KW.below {W W' : World} {B len n : Nat} {v : Value} {hs : Nat → List Nat} {vs : Nat → Value} {b : Nat → Nat} (h : KW W B len n v hs vs b) (hb : Below W.heap.size W W') : KW W' B len n v hs vs b :=
  ⟨ownsRow_below h.head hb, h.form, fun j hj => (h.row j hj).below hb, fun j hj => by
    obtain ⟨h1, h2, h3⟩ := h.own j hj
    exact ⟨h1, Nat.lt_of_lt_of_le h2 hb.size, h3⟩⟩
theorem KW.at {W : World} {B len n : Nat} {v : Value} {hs : Nat → List Nat} {vs : Nat → Value} {b : Nat → Nat} (h : KW W B len n v hs vs b) {j : Nat} (hj : j < n) : ∃ g cap cj, v = .slice (some ⟨g, 0, none⟩) n cap ∧ B ≤ g ∧ g < W.heap.size ∧ W.cell? ⟨g, j, none⟩ = some (.slice (some ⟨b j, 0, none⟩) len cj) ∧ vs j = .slice (some ⟨b j, 0, none⟩) len cj ∧ ∀ i, W.frozen? ⟨g, i, none⟩ = false := by
  rcases ownsRow_forms h.head with ⟨_, e⟩ | ⟨g, cap, rfl⟩
  · omega
  · obtain ⟨cj, hv⟩ := h.form j hj
    have hlt := h.head.lt g rfl
    exact ⟨g, cap, cj, rfl, hlt.1, hlt.2, by rw [h.head.cellAt j (by omega), ← hv]; simp [hj], hv, fun i => h.head.frozenAt i⟩
theorem KW.rk {W : World} {B len n : Nat} {v : Value} {hs : Nat → List Nat} {vs : Nat → Value} {b : Nat → Nat} (h : KW W B len n v hs vs b) : RK W v len n hs := by
  rcases ownsRow_forms h.head with ⟨rfl, rfl⟩ | ⟨g, cap, rfl⟩
  · exact ⟨none, 0, rfl, fun h => by omega⟩
  · refine ⟨some ⟨g, 0, none⟩, cap, rfl, fun _ => ⟨g, rfl, (h.head.lt g rfl).2, fun j hj => ?_⟩⟩
    obtain ⟨g', cap', cj, e, _, _, h1, _, _⟩ := h.at hj
    injection e with e1 e2 e3
    injection e1 with e1; injection e1 with e1
    exact ⟨b j, cj, by rw [e1]; exact h1, h.row j hj⟩
theorem map_up {α : Type} (f : Nat → α) (n i : Nat) (x : α) : (List.range n).map (up f i x) = ((List.range n).map f).set i x := by
  refine List.ext_getElem (by simp) (fun j h1 h2 => ?_)
  rw [List.getElem_map, List.getElem_range, List.getElem_set]
  by_cases e : i = j
  · subst e; rw [if_pos rfl, up_same]
  · rw [if_neg e, up_ne _ _ (fun h => e h.symm), List.getElem_map, List.getElem_range]
theorem KW.set {W : World} {B len n g cap : Nat} {hs : Nat → List Nat} {vs : Nat → Value} {b : Nat → Nat} (h : KW W B len n (.slice (some ⟨g, 0, none⟩) n cap) hs vs b) (i : Nat) {b' cj : Nat} {p : List Nat} (hR : Rl W .u8 (some ⟨b', 0, none⟩) len p) (h1 : B ≤ b') (h2 : b' ≠ g) (h3 : b' < W.heap.size) :
    KW (W.setCell ⟨g, i, none⟩ (.slice (some ⟨b', 0, none⟩) len cj)) B len n (.slice (some ⟨g, 0, none⟩) n cap) (up hs i p) (up vs i (.slice (some ⟨b', 0, none⟩) len cj)) (up b i b') := by
  refine ⟨by rw [map_up]; exact (h.head.stored i _).1, fun j hj => ?_, fun j hj => ?_, fun j hj => ?_⟩
  · by_cases e : j = i
    · subst e; rw [up_same, up_same]; exact ⟨_, rfl⟩
    · rw [up_ne _ _ e, up_ne _ _ e]; exact h.form j hj
  · by_cases e : j = i
    · subst e; rw [up_same, up_same]; exact hR.other h2 _ _
    · rw [up_ne _ _ e, up_ne _ _ e]
      exact (h.row j hj).other (fun e => (h.own j hj).2.2 (by rw [e]; rfl)) _ _
  · by_cases e : j = i
    · subst e; rw [up_same]
      exact ⟨h1, by rw [size_setCell_]; exact h3, fun e => h2 (by simp only [Value.ownBlock, Option.some.injEq] at e; exact e.symm)⟩
    · rw [up_ne _ _ e]
      obtain ⟨q1, q2, q3⟩ := h.own j hj
      exact ⟨q1, by rw [size_setCell_]; exact q2, q3⟩
theorem Calc.other {c m P n : Nat} {W : World} (h : Calc c m P n W) {g : Nat} (hne : c ≠ g) (i : Nat) (v : Value) : Calc c m P n (W.setCell ⟨g, i, none⟩ v) :=
  ⟨by rw [World.cell?_setCell_other _ ⟨g, i, none⟩ ⟨c, 0, none⟩ _ (fun e => hne (by injection e with e _ _; omega))]; exact h.deg,
    fun a b ha hb => by rw [World.cell?_setCell_other _ ⟨g, i, none⟩ ⟨c, 1 + a * 32 + b, none⟩ _ (fun e => hne (by injection e with e _ _; omega))]; exact h.tab a b ha hb⟩
theorem Calc.next {c m P n : Nat} {W W' : World} (h : Calc c m P n W) (hb : Below W.heap.size W W') : Calc c m P n W' := h.below h.lt hb

/-- A list's function with one element more. -/
def ins3 {α : Type} (f : Nat → α) (p : Nat) (x : α) : Nat → α := fun j => if j < p then f j else if j = p then x else f (j - 1)
theorem map_ins3 {α : Type} (f : Nat → α) {n p : Nat} (x : α) (hp : p ≤ n) : (List.range (n + 1)).map (ins3 f p x) = ((List.range n).map f).take p ++ x :: ((List.range n).map f).drop p := by
  have hl : (((List.range n).map f).take p).length = p := by simp; omega
  refine List.ext_getElem (by simp; omega) (fun j h1 h2 => ?_)
  rw [List.getElem_map, List.getElem_range]
  by_cases e1 : j < p
  · rw [List.getElem_append_left (by omega), List.getElem_take, List.getElem_map, List.getElem_range, ins3, if_pos e1]
  · rw [List.getElem_append_right (by omega)]
    by_cases e2 : j = p
    · subst e2
      simp [ins3, hl]
    · obtain ⟨k, rfl⟩ : ∃ k, j = p + 1 + k := ⟨j - p - 1, by omega⟩
      simp only [hl, show p + 1 + k - p = k + 1 by omega, List.getElem_cons_succ, List.getElem_drop, List.getElem_map, List.getElem_range, ins3]
      rw [if_neg (by omega), if_neg (by omega)]
      congr 1; omega

theorem insert_any (B n i : Nat) (v : Value) (xs : List Value) (w : World) (hown : w.ownsRow B 96 1 v n xs) (h1x : ∀ u ∈ xs, u.oneCell' = true) (hi0 : i ≤ n) (hn : n ≤ 1000) (hB : B ≤ w.heap.size) (vb : Nat) (x : Value) (hx : One w vb x) (hvb : v.ownBlock ≠ some vb) :
    Calls Try.prog 159 #[v, .int .i64 (i : Int), .slice (some ⟨vb, 0, none⟩) 1 1] w fun e w' => ∃ v', e = .returned v' ∧ w'.ownsRow B 96 1 v' (n + 1) (xs.take i ++ x :: xs.drop i) ∧ w.grownBy w' v.ownBlock ∧ (v'.ownBlock = v.ownBlock ∨ v'.ownBlock = some w.heap.size) := by
  have hxl : xs.length = n := by have := hown.1; omega
  by_cases e : i = n
  · subst e
    rw [List.take_of_length_le (by omega), List.drop_eq_nil_of_le (by omega)]
    exact insert_end B i v xs w hown hn hB vb x hx
  · rcases ownsRow_forms hown with ⟨rfl, rfl⟩ | ⟨g, c, rfl⟩
    · omega
    · by_cases hr : n + 1 ≤ c
      · refine (insert_shift B n g c i xs w hown h1x (by omega) hn hr vb x hx (fun e => hvb (by rw [e]; rfl))).mono ?_
        rintro e w' ⟨v', h1, h2, h3, h4⟩
        exact ⟨v', h1, h2, h3, .inl h4⟩
      · refine (insert_grow B n g c i xs w hown h1x (by omega) hn (by omega) vb x hx).mono ?_
        rintro e w' ⟨v', h1, h2, h3, h4⟩
        exact ⟨v', h1, h2, h3, .inr h4⟩
theorem KW.insert {w w' : World} {B len n p : Nat} {v v' : Value} {hs : Nat → List Nat} {vs : Nat → Value} {b : Nat → Nat} {gq cq : Nat} {q : List Nat} (h : KW w B len n v hs vs b) (hp : p ≤ n)
    (hown : w'.ownsRow B 96 1 v' (n + 1) (((List.range n).map vs).take p ++ .slice (some ⟨gq, 0, none⟩) len cq :: ((List.range n).map vs).drop p)) (hg : w.grownBy w' v.ownBlock) (hv : v'.ownBlock = v.ownBlock ∨ v'.ownBlock = some w.heap.size)
    (hR : Rl w .u8 (some ⟨gq, 0, none⟩) len q) (h1 : B ≤ gq) (h2 : v.ownBlock ≠ some gq) (h3 : gq < w.heap.size) : KW w' B len (n + 1) v' (ins3 hs p q) (ins3 vs p (.slice (some ⟨gq, 0, none⟩) len cq)) (ins3 b p gq) := by
  have keep : ∀ x, x < w.heap.size → v.ownBlock ≠ some x → w'.heap[x]? = w.heap[x]? := fun x hx hne => hg.block x hx (fun e => hne e.symm)
  have hv' : ∀ x, x < w.heap.size → v.ownBlock ≠ some x → v'.ownBlock ≠ some x := fun x hx hne => by
    rcases hv with e | e
    · rw [e]; exact hne
    · rw [e]; intro h; injection h with h; omega
  have rowOf : ∀ x l, Rl w .u8 (some ⟨x, 0, none⟩) len l → x < w.heap.size → v.ownBlock ≠ some x → Rl w' .u8 (some ⟨x, 0, none⟩) len l := fun x l hr hx hne =>
    ⟨hr.len, fun h0 => by
      obtain ⟨y, e, hy, hc⟩ := hr.row h0
      injection e with e; injection e with e
      subst e
      exact ⟨x, rfl, Nat.lt_of_lt_of_le hx hg.size, fun j hj => (World.cell?_of_block (w := w) (a := ⟨x, j, none⟩) (keep x hx hne)).trans (hc j hj)⟩⟩
  refine ⟨by rw [map_ins3 vs _ hp]; exact hown, fun j hj => ?_, fun j hj => ?_, fun j hj => ?_⟩
  · unfold ins3
    by_cases e1 : j < p
    · simp only [if_pos e1]; exact h.form j (by omega)
    · by_cases e2 : j = p
      · simp only [if_neg e1, if_pos e2]; exact ⟨_, rfl⟩
      · simp only [if_neg e1, if_neg e2]; exact h.form (j - 1) (by omega)
  · unfold ins3
    by_cases e1 : j < p
    · simp only [if_pos e1]; exact rowOf _ _ (h.row j (by omega)) (h.own j (by omega)).2.1 (h.own j (by omega)).2.2
    · by_cases e2 : j = p
      · simp only [if_neg e1, if_pos e2]; exact rowOf _ _ hR h3 h2
      · simp only [if_neg e1, if_neg e2]; exact rowOf _ _ (h.row (j - 1) (by omega)) (h.own (j - 1) (by omega)).2.1 (h.own (j - 1) (by omega)).2.2
  · have hsz := hg.size
    unfold ins3
    by_cases e1 : j < p
    · simp only [if_pos e1]
      obtain ⟨o1, o2, o3⟩ := h.own j (by omega)
      exact ⟨o1, by omega, hv' _ o2 o3⟩
    · by_cases e2 : j = p
      · simp only [if_neg e1, if_pos e2]; exact ⟨h1, by omega, hv' _ h3 h2⟩
      · simp only [if_neg e1, if_neg e2]
        obtain ⟨o1, o2, o3⟩ := h.own (j - 1) (by omega)
        exact ⟨o1, by omega, hv' _ o2 o3⟩
end Go.Proofs.Ytljaabmemjehpaa
