/- Rows that a call owns: kept behind another call. · The model's lists: as they are read, as the call's own, as results; copied; without zeros at the end. -/
import Derived.Test.YtlchelaohiojiabMakeArgs
import Derived.Test.YtlchelaohiojiabRow
import Derived.Test.YtlchelaohiojiabWr
import Derived.Test.YtlchelaohiojiabDivPure
import Derived.Test.YtlchelaohiojiabMtRes
namespace Go.Proofs.Ytlchelaohiojiab
open Go.RowKit Go.Joins
set_option linter.unusedVariables false

theorem Try.infoI' : (Try.prog.info? 2).map (fun i => (i.zero, i.size, i.bytes)) = some (some (.int .i64 0), 1, 8) := by kernel_rfl

theorem Calc.at3 {c m P n B : Nat} {W W' : World} (h : Calc c m P n W) (hc : c < B) (hb : Below B W W') : Calc c m P n W' :=
  ⟨(hb.cell (p := ⟨c, 0, none⟩) hc).trans h.deg, fun a b ha hb' => (hb.cell (p := ⟨c, 1 + a * 32 + b, none⟩) hc).trans (h.tab a b ha hb')⟩
theorem ownsRow_below {W W' : World} {B s n : Nat} {e : TypeId} {v : Value} {xs : List Value} (h : W.ownsRow B e s v n xs) (hb : Below W.heap.size W W') : W'.ownsRow B e s v n xs := by
  obtain ⟨h1, h2⟩ := h
  refine ⟨h1, ?_⟩
  rcases h2 with h2 | ⟨g, cap, cur, hv, hg, hh, r⟩
  · exact .inl h2
  · refine .inr ⟨g, cap, cur, hv, hg, ?_, r⟩
    have hlt : g < W.heap.size := by
      rcases Nat.lt_or_ge g W.heap.size with q | q
      · exact q
      · rw [Array.getElem?_eq_none q] at hh; cases hh
    rw [hb.block g hlt]; exact hh

end Go.Proofs.Ytlchelaohiojiab
namespace Go.Proofs.Ytlchelaohiojiab
open Go.RowKit Go.Joins
set_option linter.unusedVariables false

/-- A list of numbers that is read. -/
structure Sv (W : World) (A : Option Addr) (n cap : Nat) (p : List Nat) : Prop where
  len : p.length = n
  room : n ≤ cap
  nil : A = none → cap = 0
  row : 0 < n → ∃ g, A = some ⟨g, 0, none⟩ ∧ g < W.heap.size ∧ ∀ j, j < n → W.cell? ⟨g, j, none⟩ = some (.int .i64 (nth p j : Nat))
theorem Sv.below {W W' : World} {A : Option Addr} {n cap : Nat} {p : List Nat} (h : Sv W A n cap p) (hb : Below W.heap.size W W') : Sv W' A n cap p :=
  ⟨h.len, h.room, h.nil, fun h0 => by
    obtain ⟨g, e, hg, hc⟩ := h.row h0
    exact ⟨g, e, Nat.lt_of_lt_of_le hg hb.size, fun j hj => (hb.cell (p := ⟨g, j, none⟩) hg).trans (hc j hj)⟩⟩
theorem Sv.rl {W : World} {A : Option Addr} {n cap : Nat} {p : List Nat} (h : Sv W A n cap p) : Rl W .i64 A n p := ⟨h.len, h.row⟩
theorem Mt.sv {W : World} {b n cap : Nat} {zs : List Int} (h : Mt W b n zs) {k : Nat} (hin : allIn k zs = true) (hc : n ≤ cap) : Sv W (some ⟨b, 0, none⟩) n cap (nats zs) :=
  ⟨by rw [nats_length]; exact h.len, hc, (fun e => by cases e), fun _ => ⟨b, rfl, h.lt, fun j hj => by rw [h.cell j hj, nats_nth hin]⟩⟩
theorem Sv.take {W : World} {A : Option Addr} {n cap k : Nat} {p : List Nat} (h : Sv W A n cap p) (hk : k ≤ n) : Sv W A k cap (lst (nth p) k) :=
  ⟨lst_length _ _, by have := h.room; omega, h.nil, fun h0 => by
    obtain ⟨g, e, hg, hc⟩ := h.row (by omega)
    exact ⟨g, e, hg, fun j hj => by rw [lst_nth _ hj]; exact hc j (by omega)⟩⟩
theorem Wr.sv {W : World} {g n : Nat} {f : Nat → Nat} (h : Wr W .i64 g n f) : Sv W (some ⟨g, 0, none⟩) n n (lst f n) :=
  ⟨lst_length _ _, Nat.le_refl _, (fun e => by cases e), fun _ => ⟨g, rfl, h.lt, fun j hj => by rw [lst_nth _ hj]; exact h.cell j hj⟩⟩

/-- A list of the call's own. -/
structure OL (W : World) (B : Nat) (A : Option Addr) (n cap : Nat) (p : List Nat) : Prop where
  len : p.length = n
  own : W.ownsRow B 2 1 (.slice A n cap) n ((ints p).map (Value.int .i64))
theorem OL.below {W W' : World} {B : Nat} {A : Option Addr} {n cap : Nat} {p : List Nat} (h : OL W B A n cap p) (hb : Below W.heap.size W W') : OL W' B A n cap p := ⟨h.len, ownsRow_below h.own hb⟩
theorem OL.row {W : World} {B : Nat} {A : Option Addr} {n cap : Nat} {p : List Nat} (h : OL W B A n cap p) (h0 : 0 < n) : ∃ g, A = some ⟨g, 0, none⟩ ∧ B ≤ g ∧ g < W.heap.size ∧ (∀ j, j < n → W.cell? ⟨g, j, none⟩ = some (.int .i64 (nth p j : Nat))) ∧ ∀ j, W.frozen? ⟨g, j, none⟩ = false := by
  rcases ownsRow_forms h.own with ⟨_, e⟩ | ⟨g, c, e⟩
  · omega
  · injection e with e1 e2 e3
    subst e1
    refine ⟨g, rfl, (h.own.lt g rfl).1, (h.own.lt g rfl).2, fun j hj => ?_, fun j => h.own.frozenAt j⟩
    have hl := h.len
    rw [h.own.cellAt j (by omega)]
    simp only [ints, List.getElem?_map, List.getElem?_eq_getElem (show j < p.length by omega), Option.map_some]
    simp [nth, show j < p.length by omega]
theorem OL.cap {W : World} {B : Nat} {A : Option Addr} {n cap : Nat} {p : List Nat} (h : OL W B A n cap p) : n ≤ cap := by
  rcases h.own.2 with ⟨e, e0⟩ | ⟨g, c, cur, e, hb, hg, h1, _⟩
  · omega
  · injection e with e1 e2 e3
    omega
theorem OL.nil {W : World} {B : Nat} {A : Option Addr} {n cap : Nat} {p : List Nat} (h : OL W B A n cap p) : A = none → cap = 0 := by
  intro hA
  rcases h.own.2 with ⟨e, e0⟩ | ⟨g, c, cur, e, hb, hg, h1, _⟩
  · injection e with e1 e2 e3
  · injection e with e1 e2 e3
    rw [hA] at e1; cases e1
theorem OL.sv {W : World} {B : Nat} {A : Option Addr} {n cap : Nat} {p : List Nat} (h : OL W B A n cap p) : Sv W A n cap p :=
  ⟨h.len, h.cap, h.nil, fun h0 => by
    obtain ⟨g, e, _, hg, hc, _⟩ := h.row h0
    exact ⟨g, e, hg, hc⟩⟩
theorem OL.res {W : World} {B : Nat} {A : Option Addr} {n cap : Nat} {p : List Nat} (h : OL W B A n cap p) (hn : n ≤ 1048576) {B' : Nat} (hB : B' ≤ B) : Res W B' W.heap.size (.slice A n cap) (ints p) := own_res h.own hn hB
theorem OL.set {W : World} {B g : Nat} {n cap : Nat} {p : List Nat} (h : OL W B (some ⟨g, 0, none⟩) n cap p) (j : Nat) (hj : j < n) (x : Nat) : OL (W.setCell ⟨g, j, none⟩ (.int .i64 x)) B (some ⟨g, 0, none⟩) n cap (p.set j x) := by
  refine ⟨by rw [List.length_set]; exact h.len, ?_⟩
  have := ownsRow_set h.own j hj (.int .i64 x)
  rw [ints_set, List.map_set]
  exact this
theorem OL.of {W : World} {B n : Nat} {v : Value} {p : List Nat} (h : W.ownsRow B 2 1 v n ((ints p).map (Value.int .i64))) : ∃ A cap, v = .slice A n cap ∧ OL W B A n cap p := by
  have hl : p.length = n := by have := h.1; simpa [ints] using this
  rcases ownsRow_forms h with ⟨rfl, rfl⟩ | ⟨g, c, rfl⟩
  · exact ⟨_, _, rfl, hl, h⟩
  · exact ⟨_, _, rfl, hl, h⟩
/-- What a call returns: a list to read, in memory of its own. -/
structure Ro (W : World) (B : Nat) (A : Option Addr) (n cap : Nat) (p : List Nat) : Prop where
  sv : Sv W A n cap p
  res : Res W B W.heap.size (.slice A n cap) (ints p)
theorem OL.ro {W : World} {B : Nat} {A : Option Addr} {n cap : Nat} {p : List Nat} (h : OL W B A n cap p) (hn : n ≤ 1048576) {B' : Nat} (hB : B' ≤ B) : Ro W B' A n cap p := ⟨h.sv, h.res hn hB⟩
theorem Ro.less {W : World} {B B' : Nat} {A : Option Addr} {n cap : Nat} {p : List Nat} (h : Ro W B A n cap p) (hB : B' ≤ B) : Ro W B' A n cap p := ⟨h.sv, h.res.wide2 hB⟩
theorem sv_news {W : World} {A : Addr} {g n cap : Nat} {p : List Nat} (h : Sv W (some A) n cap p) : ∀ (j : Nat) (u : Value), ((ints p).map (Value.int .i64))[j]? = some u → W.cell? (A.add j) = some u := by
  intro j u hu
  have hl := h.len
  have hj : j < p.length := by
    have := (List.getElem?_eq_some_iff.1 hu).1
    simpa [ints] using this
  obtain ⟨g, e, hg, hc⟩ := h.row (by omega)
  injection e with e
  subst e
  have hu' : u = .int .i64 (nth p j : Nat) := by
    simp only [ints, List.getElem?_map, List.getElem?_eq_getElem hj, Option.map_some, Option.some.injEq] at hu
    rw [← hu]; simp [nth, hj]
  rw [hu', ← hc j (by omega)]
  simp only [Addr.add]
  first | rfl | (split <;> first | rfl | (congr 2; omega)) | simp


theorem ownsRow_less {W : World} {B B' s n : Nat} {e : TypeId} {v : Value} {xs : List Value} (h : W.ownsRow B e s v n xs) (hB : B' ≤ B) : W.ownsRow B' e s v n xs :=
  ⟨h.1, h.2.imp id fun ⟨g, c, cur, h1, h2, r⟩ => ⟨g, c, cur, h1, Nat.le_trans hB h2, r⟩⟩
theorem OL.drewN {W : World} {B : Nat} {A : Option Addr} {n cap : Nat} {p : List Nat} (h : OL W B A n cap p) (k : Nat) : OL (W.drewN k) B A n cap p := ⟨h.len, h.own⟩
theorem OL.less {W : World} {B B' : Nat} {A : Option Addr} {n cap : Nat} {p : List Nat} (h : OL W B A n cap p) (hB : B' ≤ B) : OL W B' A n cap p := ⟨h.len, ownsRow_less h.own hB⟩
end Go.Proofs.Ytlchelaohiojiab
