/- Rows of numbers that a call owns: one element written. · Rows of numbers of the call's own, maybe empty. · Rows of numbers or of elements: as they are read, and as they are written one by one. -/
import Derived.Test.YtlchelaohiojiabRow
import Derived.Test.YtlchelaohiojiabMt
import Derived.Deep.MidRow
import Derived.Laws.Rows
import Derived.Laws.OwnMore
import Derived.Test.YtlchelaohiojiabColPure
import Derived.Test.YtlchelaohiojiabDivPure
import Derived.Test.YtlchelaohiojiabMakeArgs
import Derived.Laws.AppendOwnNone
namespace Go.Proofs.Ytlchelaohiojiab
open Go.RowKit
set_option linter.unusedVariables false

theorem ownsRow_set {w : World} {B : Nat} {e : TypeId} {g n cap : Nat} {xs : List Value} (h : w.ownsRow B e 1 (.slice (some ⟨g, 0, none⟩) n cap) n xs) (j : Nat) (hj : j < n) (v : Value) :
    (w.setCell ⟨g, j, none⟩ v).ownsRow B e 1 (.slice (some ⟨g, 0, none⟩) n cap) n (xs.set j v) := by
  obtain ⟨hl, h⟩ := h
  rcases h with ⟨h, _⟩ | ⟨g', cap', cur, hv, hb, hg, h1, h2, h3, h4⟩
  · injection h with h; cases h
  · injection hv with e1 _ e2
    injection e1 with e1
    injection e1 with e1
    subst e1 e2
    refine ⟨by simpa using hl, .inr ⟨g, cap, cur.setIfInBounds j v, rfl, hb, heap_setCell_same w g j cur e v hg, h1, h2, by simpa using h3, ?_⟩⟩
    rw [Array.toList_setIfInBounds, ← h4, List.take_set]
/-- A row of numbers of the call's own, in a block from B on, with its place. -/
structure OR (W : World) (B : Nat) (T : TypeId) (g cap : Nat) (A : List Nat) : Prop where
  own : W.ownsRow B T 1 (.slice (some ⟨g, 0, none⟩) A.length cap) A.length ((ints A).map (Value.int .i64))
theorem OR.lt {W : World} {B g cap : Nat} {T : TypeId} {A : List Nat} (h : OR W B T g cap A) : B ≤ g ∧ g < W.heap.size := h.own.lt g rfl
theorem OR.at {W W' : World} {B g cap : Nat} {T : TypeId} {A : List Nat} (h : OR W B T g cap A) (hg : W'.heap[g]? = W.heap[g]?) : OR W' B T g cap A := by
  refine ⟨h.own.1, ?_⟩
  rcases h.own.2 with ⟨hn, _⟩ | ⟨g', cap', cur, hv, hb, hgg, rest⟩
  · injection hn with hn; cases hn
  · injection hv with e1 _ e2
    injection e1 with e1
    injection e1 with e1
    subst e1 e2
    exact .inr ⟨g, cap, cur, rfl, hb, hg.trans hgg, rest⟩
theorem OR.below {W W' : World} {B D g cap : Nat} {T : TypeId} {A : List Nat} (h : OR W B T g cap A) (hb : Below D W W') (hD : g < D) : OR W' B T g cap A := h.at (hb.block g hD)
theorem OR.drewN {W : World} {B g cap : Nat} {T : TypeId} {A : List Nat} (h : OR W B T g cap A) (k : Nat) : OR (W.drewN k) B T g cap A := ⟨h.own⟩
theorem OR.only {W W' : World} {B b g cap : Nat} {T : TypeId} {A : List Nat} (h : OR W B T g cap A) (hb : Only b W W') (hD : g ≠ b) : OR W' B T g cap A := h.at (hb.block g hD)
theorem OR.set {W : World} {B g cap : Nat} {T : TypeId} {A : List Nat} (h : OR W B T g cap A) (j : Nat) (hj : j < A.length) (x : Nat) : OR (W.setCell ⟨g, j, none⟩ (.int .i64 x)) B T g cap (A.set j x) := by
  refine ⟨?_⟩
  have := ownsRow_set h.own j hj (.int .i64 x)
  rw [ints_set, List.map_set, List.length_set]
  exact this
theorem OR.cell {W : World} {B g cap : Nat} {T : TypeId} {A : List Nat} (h : OR W B T g cap A) (j : Nat) (hj : j < A.length) : W.cell? ⟨g, j, none⟩ = some (.int .i64 (nth A j : Nat)) := by
  rw [h.own.cellAt j (by omega)]
  simp only [ints, List.getElem?_map, List.getElem?_eq_getElem hj, Option.map_some]
  simp [nth, hj]
theorem OR.free {W : World} {B g cap : Nat} {T : TypeId} {A : List Nat} (h : OR W B T g cap A) (j : Nat) : W.frozen? ⟨g, j, none⟩ = false := by
  rcases h.own.2 with ⟨hn, _⟩ | ⟨g', cap', cur, hv, hb, hgg, rest⟩
  · injection hn with hn; cases hn
  · injection hv with e1 _ e2
    injection e1 with e1
    injection e1 with e1
    subst e1 e2
    exact frozen_of_row W g j cur T hgg
theorem OR.mk' {W : World} {B : Nat} {T : TypeId} {v : Value} {n : Nat} {A : List Nat} (h : W.ownsRow B T 1 v n ((ints A).map (Value.int .i64))) (hn : 0 < n) : ∃ g cap, v = .slice (some ⟨g, 0, none⟩) A.length cap ∧ OR W B T g cap A := by
  have hl : A.length = n := by have := h.1; simpa [ints] using this
  rcases h.2 with ⟨_, h0⟩ | ⟨g, cap, cur, rfl, rest⟩
  · omega
  · subst hl
    exact ⟨g, cap, rfl, ⟨h.1, .inr ⟨g, cap, cur, rfl, rest⟩⟩⟩
theorem OR.snoc {W : World} {B : Nat} {T : TypeId} {v : Value} {A : List Nat} {x : Nat} (h : W.ownsRow B T 1 v (A.length + 1) ((ints A).map (Value.int .i64) ++ [.int .i64 x])) : ∃ g cap, v = .slice (some ⟨g, 0, none⟩) (A.length + 1) cap ∧ OR W B T g cap (A ++ [x]) := by
  have e : (ints A).map (Value.int .i64) ++ [.int .i64 x] = (ints (A ++ [x])).map (Value.int .i64) := by rw [ints_append, List.map_append]; rfl
  rw [e] at h
  obtain ⟨g, cap, rfl, h1⟩ := OR.mk' h (by omega)
  exact ⟨g, cap, by simp, h1⟩
end Go.Proofs.Ytlchelaohiojiab
namespace Go.Proofs.Ytlchelaohiojiab
open Go.RowKit Go.Joins
set_option linter.unusedVariables false

/-- A row of numbers of the call's own: where it has any, in a block from B to below T. -/
structure LR (W : World) (B T : Nat) (ao : Option Addr) (cap : Nat) (A : List Nat) : Prop where
  row : 0 < A.length → ∃ g, ao = some ⟨g, 0, none⟩ ∧ g < T ∧ OR W B 2 g cap A
theorem LR.below {W W' : World} {B T cap : Nat} {ao : Option Addr} {A : List Nat} (h : LR W B T ao cap A) (hb : Below T W W') : LR W' B T ao cap A :=
  ⟨fun h0 => by obtain ⟨g, e, h1, h2⟩ := h.row h0; exact ⟨g, e, h1, h2.below hb h1⟩⟩
theorem LR.drewN {W : World} {B T cap : Nat} {ao : Option Addr} {A : List Nat} (h : LR W B T ao cap A) (k : Nat) : LR (W.drewN k) B T ao cap A :=
  ⟨fun h0 => by obtain ⟨g, e, h1, h2⟩ := h.row h0; exact ⟨g, e, h1, h2.drewN k⟩⟩
theorem ints_news (W : World) (b n : Nat) (L : List Nat) (hM : Mt W b n (ints L)) : ∀ (j : Nat) (u : Value), ((ints L).map (Value.int .i64))[j]? = some u → W.cell? ((⟨b, 0, none⟩ : Addr).add j) = some u := by
  intro j u hu
  have hj : j < L.length := by
    have := (List.getElem?_eq_some_iff.1 hu).1
    simpa [ints] using this
  have hl := hM.len
  rw [ints_length] at hl
  have hc := hM.cell j (by omega)
  rw [ints_get] at hc
  have hu' : u = .int .i64 (nth L j : Nat) := by
    simp only [ints, List.getElem?_map, List.getElem?_eq_getElem hj, Option.map_some, Option.some.injEq] at hu
    rw [← hu]; simp [nth, hj]
  rw [hu', ← hc]
  simp only [Addr.add]
  first | rfl | (split <;> first | rfl | (congr 2; omega)) | simp
theorem ints_one (L : List Nat) : ∀ u ∈ (ints L).map (Value.int .i64), u.oneCell' = true := by
  intro u hu
  obtain ⟨x, _, rfl⟩ := List.mem_map.1 hu
  rfl

theorem LR.of_own {W : World} {B : Nat} {v : Value} {L : List Nat} (h : W.ownsRow B 2 1 v L.length ((ints L).map (Value.int .i64))) : ∃ ao cp, v = .slice ao L.length cp ∧ LR W B W.heap.size ao cp L := by
  by_cases h0 : L.length = 0
  · rcases ownsRow_forms h with ⟨rfl, _⟩ | ⟨g, cp, rfl⟩
    · exact ⟨none, 0, by rw [h0], ⟨fun h => by omega⟩⟩
    · exact ⟨_, _, rfl, ⟨fun h => by omega⟩⟩
  · obtain ⟨g, cp, rfl, ho⟩ := OR.mk' h (by omega)
    exact ⟨_, _, rfl, ⟨fun _ => ⟨g, rfl, ho.lt.2, ho⟩⟩⟩

end Go.Proofs.Ytlchelaohiojiab
namespace Go.Proofs.Ytlchelaohiojiab
open Go.RowKit Go.Joins
set_option linter.unusedVariables false

/-- A slice that is read: its n numbers are those of p. -/
structure Rl (W : World) (K : IntKind) (A : Option Addr) (n : Nat) (p : List Nat) : Prop where
  len : p.length = n
  row : 0 < n → ∃ g, A = some ⟨g, 0, none⟩ ∧ g < W.heap.size ∧ ∀ j, j < n → W.cell? ⟨g, j, none⟩ = some (.int K (nth p j : Nat))
theorem Rl.below {W W' : World} {K : IntKind} {A : Option Addr} {n : Nat} {p : List Nat} (h : Rl W K A n p) (hb : Below W.heap.size W W') : Rl W' K A n p :=
  ⟨h.len, fun h0 => by
    obtain ⟨g, e, hg, hc⟩ := h.row h0
    exact ⟨g, e, Nat.lt_of_lt_of_le hg hb.size, fun j hj => (hb.cell (p := ⟨g, j, none⟩) hg).trans (hc j hj)⟩⟩
theorem Rl.from {W W' : World} {K : IntKind} {A : Option Addr} {n : Nat} {p : List Nat} (h : Rl W K A n p) (hb : Below W.heap.size W W') : Rl W' K A n p := h.below hb
theorem Rl.nil (W : World) (K : IntKind) (A : Option Addr) : Rl W K A 0 [] := ⟨rfl, fun h => by omega⟩
theorem Rl.cast {W : World} {K : IntKind} {A : Option Addr} {n k : Nat} {p q : List Nat} (h : Rl W K A n p) (e : q = p) (hk : k = n) : Rl W K A k q := by rw [e, hk]; exact h
theorem Rl.same {W W' : World} {K : IntKind} {A : Option Addr} {n : Nat} {p : List Nat} (h : Rl W K A n p) (e : W'.heap = W.heap) : Rl W' K A n p :=
  ⟨h.len, fun h0 => by
    obtain ⟨g, e1, hg, hc⟩ := h.row h0
    exact ⟨g, e1, by rw [e]; exact hg, fun j hj => by
      have : W'.cell? ⟨g, j, none⟩ = W.cell? ⟨g, j, none⟩ := by unfold World.cell?; rw [e]
      rw [this]; exact hc j hj⟩⟩
theorem Mt.rl {W : World} {b n : Nat} {zs : List Int} (h : Mt W b n zs) {k : Nat} (hin : allIn k zs = true) : Rl W .i64 (some ⟨b, 0, none⟩) n (nats zs) :=
  ⟨by rw [nats_length]; exact h.len, fun _ => ⟨b, rfl, h.lt, fun j hj => by rw [h.cell j hj, nats_nth hin]⟩⟩
theorem Mt.arg {W : World} {b n : Nat} {zs : List Int} (h : Mt W b n zs) : Arg W (some ⟨b, 0, none⟩) n zs :=
  ⟨h.len, by have := h.small; omega, fun _ => ⟨_, rfl, h.lt, fun j hj => by
    show W.cell? ((⟨b, 0, none⟩ : Addr).add j) = _
    have h1 := h.cell j hj
    have e : (⟨b, 0, none⟩ : Addr).add j = ⟨b, j, none⟩ := by
      unfold Addr.add
      split
      · subst_vars; rfl
      · simp
    rw [e]; exact h1⟩⟩

/-- A row of the call's own at the block g, of n elements: f tells them. -/
structure Wr (W : World) (K : IntKind) (g n : Nat) (f : Nat → Nat) : Prop where
  cell : ∀ j, j < n → W.cell? ⟨g, j, none⟩ = some (.int K (f j : Nat))
  free : ∀ j, W.frozen? ⟨g, j, none⟩ = false
  lt : g < W.heap.size
theorem Wr.below {W W' : World} {K : IntKind} {g n : Nat} {f : Nat → Nat} (h : Wr W K g n f) (hb : Below W.heap.size W W') : Wr W' K g n f :=
  ⟨fun j hj => (hb.cell (p := ⟨g, j, none⟩) h.lt).trans (h.cell j hj), fun j => (hb.frozen (p := ⟨g, j, none⟩) h.lt).trans (h.free j), Nat.lt_of_lt_of_le h.lt hb.size⟩
theorem Wr.congr {W : World} {K : IntKind} {g n : Nat} {f f' : Nat → Nat} (h : Wr W K g n f) (e : ∀ j, j < n → f' j = f j) : Wr W K g n f' :=
  ⟨fun j hj => by rw [e j hj]; exact h.cell j hj, h.free, h.lt⟩
theorem Wr.same {W W' : World} {K : IntKind} {g n : Nat} {f : Nat → Nat} (h : Wr W K g n f) (e : W'.heap = W.heap) : Wr W' K g n f :=
  ⟨fun j hj => by
    have : W'.cell? ⟨g, j, none⟩ = W.cell? ⟨g, j, none⟩ := by unfold World.cell?; rw [e]
    rw [this]; exact h.cell j hj, fun j => by
    have : W'.frozen? ⟨g, j, none⟩ = W.frozen? ⟨g, j, none⟩ := by unfold World.frozen?; rw [e]
    rw [this]; exact h.free j, by rw [e]; exact h.lt⟩
theorem Wr.set {W : World} {K : IntKind} {g n : Nat} {f : Nat → Nat} (h : Wr W K g n f) (i : Nat) (hi : i < n) (x : Nat) : Wr (W.setCell ⟨g, i, none⟩ (.int K x)) K g n (put f i x) := by
  refine ⟨fun j hj => ?_, fun j => by rw [World.frozen?_setCell]; exact h.free j, ?_⟩
  · by_cases e : j = i
    · subst e
      rw [World.cell?_setCell_same' _ _ _ (by rw [h.cell j hj]; rfl)]
      simp [put]
    · rw [World.cell?_setCell_other _ ⟨g, i, none⟩ ⟨g, j, none⟩ _ (fun h => e (by injection h with _ h _; omega)), h.cell j hj]
      simp [put, e]
  · show g < (Array.modify _ _ _).size
    rw [Array.size_modify]; exact h.lt
theorem Wr.rl {W : World} {K : IntKind} {g n : Nat} {f : Nat → Nat} (h : Wr W K g n f) : Rl W K (some ⟨g, 0, none⟩) n (lst f n) :=
  ⟨lst_length f n, fun _ => ⟨g, rfl, h.lt, fun j hj => by rw [lst_nth f hj]; exact h.cell j hj⟩⟩
theorem Wr.rl' {W : World} {K : IntKind} {g n k : Nat} {f : Nat → Nat} (h : Wr W K g n f) (hk : k ≤ n) : Rl W K (some ⟨g, 0, none⟩) k (lst f k) :=
  ⟨lst_length f k, fun _ => ⟨g, rfl, h.lt, fun j hj => by rw [lst_nth f hj]; exact h.cell j (by omega)⟩⟩
theorem Wr.mt {W : World} {g n : Nat} {f : Nat → Nat} (h : Wr W .i64 g n f) (hn : n ≤ 1048576) : Mt W g n (ints (lst f n)) :=
  ⟨by rw [ints_length, lst_length], hn, h.lt, fun j hj => by rw [h.cell j hj, ints_get, lst_nth f hj], h.free⟩
theorem made_get (K : IntKind) (n j : Nat) (hj : j < n) : (madeCells (Value.int K 0).cells (n * 1)).toList[j]? = some (Value.int K 0) := by
  have : (Value.int K 0).cells = #[Value.int K 0] := rfl
  rw [this]
  simp [madeCells, hj, Nat.mod_one]
theorem Wr.made {W : World} {B g n cap : Nat} {T : TypeId} {K : IntKind} (h : W.ownsRow B T 1 (.slice (some ⟨g, 0, none⟩) n cap) n (madeCells (Value.int K 0).cells (n * 1)).toList) : Wr W K g n (fun _ => 0) := by
  refine ⟨fun j hj => ?_, fun j => h.frozenAt j, (h.lt g rfl).2⟩
  rw [h.cellAt j (by omega), made_get _ _ _ hj]
  rfl
/-- A write behind what lay below. -/
theorem below_set {B : Nat} {w W : World} (hb : Below B w W) (g i : Nat) (hg : B ≤ g) (v : Value) : Below B w (W.setCell ⟨g, i, none⟩ v) := hb.setCell (p := ⟨g, i, none⟩) hg _
theorem ints_newsR (W : World) (b B n : Nat) (L : List Nat) (hM : Rd W B (some ⟨b, 0, none⟩) n (ints L)) : ∀ (j : Nat) (u : Value), ((ints L).map (Value.int .i64))[j]? = some u → W.cell? ((⟨b, 0, none⟩ : Addr).add j) = some u := by
  intro j u hu
  have hll := hM.len
  rw [ints_length] at hll
  have hj : j < L.length := by
    have := (List.getElem?_eq_some_iff.1 hu).1
    simpa [ints] using this
  obtain ⟨b', e, -, hc⟩ := hM.cell j (by omega)
  injection e with e
  injection e with e
  subst e
  rw [ints_get] at hc
  rw [show (⟨b, 0, none⟩ : Addr).add j = ⟨b, j, none⟩ by unfold Addr.add; split <;> simp_all, hc, ← hu]
  simp [ints, nth, hj]
theorem wpList_append_zero {P : Program} {ops : Array Oper} {rest : List Oper} {o : Oper} {a : Act} {Q : Exit → Act → World → Prop} {w : World} (hgd : o.guard = none) (s x : Operand) (t : TypeId)
    (ho : o.op = .call { callee := .builtin .append, args := #[s, x], argTypes := #[t, t] })
    (e : TypeId) (i : TypeInfo) (ht : P.underlying t = some (.slice e)) (hi : P.info? e = some i)
    (a0 : Option Addr) (n c : Nat) (hle : n ≤ c) (hs : a.eval s = .slice a0 n c) (A : Option Addr) (cx : Nat) (hx : a.eval x = .slice A 0 cx)
    (h : wpList P ops Q rest (a.put o.dst (.slice a0 n c)) w) : wpList P ops Q (o :: rest) a w :=
  wpList_plain hgd fun _ hK => by
    have hr : (Builtin.append_ #[t, t] o.type #[.slice a0 n c, .slice A 0 cx]).run P w = .ok (.slice a0 n c) w := by
      cases A <;> cases a0 <;> simp [Builtin.append_, run_underlying ht, sizeOf, typeInfo, hi, Builtin.lenOf, Builtin.firstCells, loadCells, loadCellsFrom, storeCells, hle]
    unfold Oper.wp execOp
    simp only [ho, resolve, invoke, builtin, Sem.run_bind, Sem.run_pure, Result.andThen_ok, List.map_toArray, List.map_cons, List.map_nil, hs, hx, hr]
    exact hK _ _ h
end Go.Proofs.Ytlchelaohiojiab
