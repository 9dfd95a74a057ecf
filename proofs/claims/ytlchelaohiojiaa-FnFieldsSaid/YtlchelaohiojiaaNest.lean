/- Ranges over iterators that range themselves and write blocks of their own: what such an iterator promises, and the statement that ranges over one. -/
import Derived.RangeFuncNested
import Derived.RangeFuncBound
import Derived.Deep.Draws
namespace Go.Proofs.Ytlchelaohiojiaa
open Go Go.RowKit
set_option linter.unusedVariables false

/-- What a round leaves as it lay: the blocks that the iterator reads (Q), its own (K of them, from B on), and whatever is no cells from B on. -/
structure Rnd (Q : Nat → Prop) (B K : Nat) (W W' : World) : Prop where
  size : W.heap.size ≤ W'.heap.size
  same : ∀ (k : Nat) (o : Obj), W.heap[k]? = some o → (Q k ∨ B ≤ k ∧ (k < B + K ∨ o.isCells = false)) → W'.heap[k]? = some o
theorem Rnd.refl (Q : Nat → Prop) (B K : Nat) (W : World) : Rnd Q B K W W := ⟨Nat.le_refl _, fun _ _ h _ => h⟩
theorem Rnd.trans {Q : Nat → Prop} {B K : Nat} {X Y Z : World} (h : Rnd Q B K X Y) (k : Rnd Q B K Y Z) : Rnd Q B K X Z :=
  ⟨Nat.le_trans h.size k.size, fun i o hi hq => k.same i o (h.same i o hi hq) hq⟩
theorem Rnd.grown {Q : Nat → Prop} {B K : Nat} {W W' : World} {row : Option Nat} (h : W.grownBy W' row) (hr : ∀ r, row = some r → ¬ Q r ∧ r < B) : Rnd Q B K W W' :=
  ⟨h.size, fun k o hk hq => (h.block k (Array.getElem?_eq_some_iff.1 hk).1 (fun e => by
    obtain ⟨h1, h2⟩ := hr k e.symm
    rcases hq with hq | ⟨hB, _⟩
    · exact h1 hq
    · omega)).trans hk⟩
theorem Rnd.from {Q : Nat → Prop} {B K : Nat} {W W' : World} (h : Rnd Q B K W W') {B' : Nat} (hB : B ≤ B') : KeepsFrom B' W W' :=
  ⟨h.size, fun k o hk ho hc => h.same k o ho (.inr ⟨by omega, .inr hc⟩)⟩
theorem Rnd.cell {Q : Nat → Prop} {B K : Nat} {W W' : World} (h : Rnd Q B K W W') {p : Addr} (hq : Q p.block ∨ B ≤ p.block ∧ p.block < B + K) {v : Value} (hv : W.cell? p = some v) : W'.cell? p = some v := by
  obtain ⟨o, ho, _⟩ := not_walk_of_cell hv
  have h2 := h.same p.block o ho (hq.imp id fun h => ⟨h.1, .inl h.2⟩)
  rw [← hv]; unfold World.cell?; rw [h2, ho]
theorem Rnd.heap {Q : Nat → Prop} {B K : Nat} {W W' : World} (h : Rnd Q B K W W') {k : Nat} (hk : k < W.heap.size) (hq : Q k ∨ B ≤ k ∧ k < B + K) : W'.heap[k]? = W.heap[k]? := by
  have h0 : W.heap[k]? = some W.heap[k] := Array.getElem?_eq_some_iff.2 ⟨hk, rfl⟩
  rw [h.same k _ h0 (hq.imp id fun h => ⟨h.1, .inl h.2⟩), h0]

/-- What bears new blocks and the turn of the iterator's own K, from B on, and of what is no cells from B on. -/
def Bears {β : Type} (B K : Nat) (J : β → World → Prop) : Prop :=
  ∀ (s : β) (W W' : World) (row : Option Nat), J s W → W.grownBy W' row → (∀ r, row = some r → B ≤ r ∧ (r < B + K ∨ ∃ o : Obj, W.heap[r]? = some o ∧ o.isCells = false)) → J s W'
theorem Bears.own {β : Type} {B K : Nat} {J : β → World → Prop} (h : Bears B K J) {B' : Nat} (hB : B ≤ B') : OwnFrom B' J :=
  fun s W W' row hs hg hr => h s W W' row hs hg fun r e => ⟨Nat.le_trans hB (hr r e).1, .inr (hr r e).2⟩
theorem Bears.of {β : Type} {B K : Nat} {J : β → World → Prop} (h : Bears B K J) {B' K' : Nat} (hB : B ≤ B') (hK : B' + K' ≤ B + K ∨ K' = 0) : Bears B' K' J :=
  fun s W W' row hs hg hr => h s W W' row hs hg fun r e => by
    obtain ⟨h1, h2⟩ := hr r e
    refine ⟨by omega, ?_⟩
    rcases h2 with h2 | h2
    · exact .inl (by omega)
    · exact .inr h2
theorem Bears.and {β : Type} {B K : Nat} {I J : β → World → Prop} (h : Bears B K I) (k : Bears B K J) : Bears B K (fun s W => I s W ∧ J s W) :=
  fun s W W' row hs hg hr => ⟨h s W W' row hs.1 hg hr, k s W W' row hs.2 hg hr⟩
theorem Bears.pure {β : Type} (B K : Nat) (p : β → Prop) : Bears B K (fun s (_ : World) => p s) := fun _ _ _ _ hs _ _ => hs
theorem Bears.put {β : Type} {B K : Nat} {J : β → World → Prop} (h : Bears B K J) {s : β} {W : World} {l : Nat} (o' : Obj) (hs : J s W) (hl : B ≤ l ∧ l < B + K) : J s (W.putObj l o') :=
  h s W _ (some l) hs (grownBy_putObj' W l o') fun r e => by cases e; exact ⟨hl.1, .inl hl.2⟩
theorem Bears.alloc {β : Type} {B K : Nat} {J : β → World → Prop} (h : Bears B K J) {s : β} {W : World} (o : Obj) (hs : J s W) : J s (W.alloc o) :=
  h s W _ none hs (World.grownBy_alloc W o none) fun r e => by cases e
theorem Bears.drewN {β : Type} {B K : Nat} {J : β → World → Prop} (h : Bears B K J) {s : β} {W : World} (k : Nat) (hs : J s W) : J s (W.drewN k) :=
  h s W _ none hs ⟨rfl, rfl, rfl, Nat.le_refl _, fun _ _ _ => rfl⟩ fun r e => by cases e
theorem Bears.below {β : Type} {n₀ B K : Nat} {w₀ : World} (hn : n₀ ≤ w₀.heap.size) (hB : n₀ ≤ B) : Bears B K (fun (_ : β) W => Below n₀ w₀ W) :=
  fun _ _ _ _ hs hg hr => hs.grown hg (Nat.le_trans hn hs.size) fun k e => Nat.le_trans hB (hr k e).1

/-- What an iterator promises that ranges over others and writes K blocks of its own, which it lays ahead of the first round: in B, the heap's size when it is called, an element's values may be told (encs), and what is known of the memory at it (Hd). -/
def SeqR {α : Type} (F : Fence) (n : Nat) (P : Program) (g : Nat) (lb : Array Value) (encs : Nat → α → Array Value) (Hd : Nat → α → World → Prop) (K : Nat) (Q : Nat → Prop) (S Sp : List α → Prop) (N : Nat) (w : World) : Prop :=
  ∀ (l : Nat) (J Jx : List α → World → Prop) (W : World), Below w.heap.size w W → Bears W.heap.size K J → Bears W.heap.size K Jx →
    (∀ (pre : List α) (x : α) (V : World), J pre V → W.heap.size + K ≤ V.heap.size → Hd W.heap.size x V → pre.length < N →
      YieldAt F (n - 1) P l (encs W.heap.size x) V fun e V' => Rnd Q W.heap.size K V V' ∧ (e = .returned (.bool true) ∧ J (pre ++ [x]) V' ∨ e = .returned (.bool false) ∧ Jx (pre ++ [x]) V')) →
    J [] W → CallsIn F n P g (#[.func (.yield l) #[] #[]] ++ lb) W fun e V => (∃ v, e = .returned v) ∧ ∃ xs, S xs ∧ J xs V ∨ Sp xs ∧ Jx xs V

/-- The ways in which a round's body may be left. -/
def rndPost {α : Type} (Q : Nat → Prop) (B K : Nat) (I : List α → World → Prop) (Ix : Code → List α → World → Prop) (xs : List α) (W : World) : Exit → Act → World → Prop
  | .normal, _, V => Rnd Q B K W V ∧ I xs V
  | .ret, _, V => Rnd Q B K W V ∧ Ix .ret xs V
  | .exit id, _, V => Rnd Q B K W V ∧ Ix (.exit id) xs V
  | .goto t, _, V => Rnd Q B K W V ∧ Ix (.goto t) xs V
  | .panic _, _, _ => False
  | .outgrown, _, _ => False

variable {F : Fence} {n : Nat} {P : Program}

/-- The record of a range lies at l, the block for what its rounds defer at d. -/
def Held (d l : Nat) (r : Loop) (W : World) : Prop := W.heap[l]? = some (.loop r) ∧ W.heap[d]? = some (.deferred (some []))
theorem Held.bears {β : Type} {d l B K : Nat} {r : Loop} (hd : d < B) (hl : l < B) : Bears B K (fun (_ : β) W => Held d l r W) :=
  fun _ W W' row hs hg hr => by
    have far : ∀ k, k < B → some k ≠ row := fun k hk e => by have := (hr k e.symm).1; omega
    exact ⟨(hg.block l (Array.getElem?_eq_some_iff.1 hs.1).1 (far l hl)).trans hs.1, (hg.block d (Array.getElem?_eq_some_iff.1 hs.2).1 (far d hd)).trans hs.2⟩
theorem Held.turn {d l : Nat} {r r' : Loop} {W : World} (h : Held d l r W) (hne : d ≠ l) : Held d l r' (W.putObj l (.loop r')) :=
  ⟨World.putObj_heap_same (Array.getElem?_eq_some_iff.1 h.1).1, (World.putObj_heap_other hne).trans h.2⟩
theorem Held.kept {Q : Nat → Prop} {B K d l : Nat} {r : Loop} {W V : World} (h : Held d l r W) (hk : Rnd Q B K W V) (hd : B ≤ d) (hl : B ≤ l) : Held d l r V :=
  ⟨hk.same _ _ h.1 (.inr ⟨hl, .inr rfl⟩), hk.same _ _ h.2 (.inr ⟨hd, .inr rfl⟩)⟩
/-- The end of a round's body: the record is turned, and what the iterator reads lies as it lay. -/
theorem round_end {Q : Nat → Prop} {B K : Nat} {r : Loop} {W V : World} (hQ : ∀ k, Q k → k < B) (hW : Held B (B + 1) r W) (hV : Held B (B + 1) { r with state := .busy } V)
    (hk : Rnd Q B (K + 2) (W.putObj (B + 1) (.loop { r with state := .busy })) V) (jump : Option Code) :
    (Instr.endRound (B + 1) jump).run P V = .ok (.bool jump.isNone) (V.putObj (B + 1) (.loop { r with state := if jump.isNone then .ready else .done, pending := jump })) ∧
    Rnd Q (B + 2) K W (V.putObj (B + 1) (.loop { r with state := if jump.isNone then .ready else .done, pending := jump })) := by
  have apart : ∀ r, some (B + 1) = some r → ¬ Q r ∧ r < B + 2 := fun r e => by cases e; exact ⟨fun h => by have := hQ _ h; omega, by omega⟩
  have wide : ∀ {X Y : World}, Rnd Q B (K + 2) X Y → Rnd Q (B + 2) K X Y := fun h => ⟨h.size, fun k o ho hq => h.same k o ho (hq.imp id fun h => ⟨by omega, h.2.imp (fun h => by omega) id⟩)⟩
  exact ⟨run_endRound (P := P) (r := { r with state := .busy }) jump hV.1, ((Rnd.grown (grownBy_putObj' W _ _) apart).trans (wide hk)).trans (Rnd.grown (grownBy_putObj' V _ _) apart)⟩

theorem range_R {α : Type} {g : Operand} {ps : Array Tmp} {assign body : Code} {G : Exit → Act → World → Prop} {a : Act} {w : World}
    (hro : F.round = none) (h1 : 1 ≤ n) {gf : Nat} {lb : Array Value} (hg : a.eval g = .func (.func gf) #[] lb) (hFg : F.fn gf) (eg : ∀ args w, (callFunc gf args).run P w = .ok (.enter gf args) w)
    {encs : Nat → α → Array Value} {Hd : Nat → α → World → Prop} {K : Nat} {Q : Nat → Prop} {S Sp : List α → Prop} {N : Nat} {w0 : World}
    (hseq : SeqR F (n - 1) P gf lb encs Hd K Q S Sp N w0) (hb0 : Below w0.heap.size w0 w) (hQ : ∀ k, Q k → k < w.heap.size)
    (hHd : ∀ (x : α) (W : World) (o : Obj), Hd (w.heap.size + 2) x W → Hd (w.heap.size + 2) x (W.putObj (w.heap.size + 1) o)) (hps : ∀ x, (encs (w.heap.size + 2) x).size = ps.size)
    (I : List α → World → Prop) (Ix : Code → List α → World → Prop) (hI : Bears w.heap.size (K + 2) I) (hIx : ∀ c, Bears w.heap.size (K + 2) (Ix c)) (h0 : I [] w) (Ax : α → Act → World → Prop) (hAx : ∀ x a' W o, Ax x a' W → Ax x a' (W.putObj (w.heap.size + 1) o))
    (hassign : ∀ (l : Nat) (pre : List α) (x : α) (W : World) (G : Act → World → Prop), I pre W → w.heap.size + 2 + K ≤ W.heap.size → Hd (w.heap.size + 2) x W → (∀ a' W', Rnd Q w.heap.size (K + 2) W W' → I pre W' → Hd (w.heap.size + 2) x W' → Ax x a' W' → G a' W') →
      assign.wpIn (F.inRound l) (n - 1 - 1) P (Exit.then G (fun _ _ _ => False)) { tmps := (ps.zip (encs (w.heap.size + 2) x)).foldl (fun t (p, v) => t.setIfInBounds p v) a.tmps, defers := [] } W)
    (hbody : ∀ (l : Nat) (pre : List α) (x : α) (a' : Act) (W : World), I pre W → w.heap.size + 2 + K ≤ W.heap.size → Hd (w.heap.size + 2) x W → Ax x a' W → pre.length < N → body.wpIn (F.inRound l) (n - 1 - 1) P (rndPost Q w.heap.size (K + 2) I Ix (pre ++ [x]) W) a' W)
    (hdone : ∀ (xs : List α) (W : World), S xs → I xs W → W.heap[w.heap.size]? = some (.deferred (some [])) → G .normal { a with defers := { target := .collected w.heap.size, args := #[] } :: a.defers } W)
    (hstop : ∀ (c : Code) (xs : List α) (W : World), Sp xs → Ix c xs W → W.heap[w.heap.size]? = some (.deferred (some [])) → c.wpIn F n P G { a with defers := { target := .collected w.heap.size, args := #[] } :: a.defers } W) :
    (Code.rangeFunc g ps assign body).wpIn F n P G a w := by
  refine wpIn_rangeFunc fun fn hfn => ?_
  rw [hro]
  obtain ⟨r, hr⟩ : ∃ r : Loop, r = { state := .ready, pending := none, fn, tmps := a.tmps, params := ps, assign, body, defers := w.heap.size } := ⟨_, rfl⟩
  obtain ⟨W1, hW1⟩ : ∃ W1, (w.alloc (.deferred (some []))).alloc (.loop r) = W1 := ⟨_, rfl⟩
  have two : W1.heap.size = w.heap.size + 2 := by rw [← hW1]; simp
  have start : Held w.heap.size (w.heap.size + 1) r W1 := by
    rw [← hW1]
    have h := World.alloc_heap_new (w.alloc (.deferred (some []))) (.loop r)
    rw [World.size_alloc] at h
    exact ⟨h, (Below.heap_alloc _ _ _ (by simp)).trans (World.alloc_heap_new w _)⟩
  have hup : Below w0.heap.size w0 W1 := by
    rw [← hW1]; exact hb0.trans ((((Below.refl _ w).alloc (Nat.le_refl _) _).alloc (by simp) _).mono hb0.size)
  have hI1 : I [] W1 := by rw [← hW1]; exact hI.alloc _ (hI.alloc _ h0)
  have enter : (Instr.enterLoop fn a.tmps ps assign body none).run P w = .ok (w.heap.size + 1, [{ target := .collected w.heap.size, args := #[] }]) W1 := by
    rw [← hW1, hr]; exact run_enterLoop_outer _ _ _ _ _
  refine ⟨w.heap.size + 1, [{ target := .collected w.heap.size, args := #[] }], W1, { target := .fn (.func gf) lb, args := #[.func (.yield (w.heap.size + 1)) #[] #[]] }, W1, gf,
    #[.func (.yield (w.heap.size + 1)) #[] #[]] ++ lb, W1, enter, by simp only [resolve, hg]; simp [go_sem], ?_, by simp [invoke, go_sem, eg], fun _ => h1, ?_⟩
  · intro f' hf'; simp [Target.leads] at hf'; subst hf'; exact hFg
  have hI2 := hI.of (B' := w.heap.size + 2) (K' := K) (by omega) (.inl (by omega))
  have hX2 := fun c => (hIx c).of (B' := w.heap.size + 2) (K' := K) (by omega) (.inl (by omega))
  have hH2 := fun (r : Loop) => Held.bears (β := List α) (K := K) (r := r) (show w.heap.size < w.heap.size + 2 by omega) (show w.heap.size + 1 < w.heap.size + 2 by omega)
  refine (hseq (w.heap.size + 1) (fun pre W => I pre W ∧ Held w.heap.size (w.heap.size + 1) r W)
    (fun pre W => ∃ c, Ix c pre W ∧ Held w.heap.size (w.heap.size + 1) { r with state := .done, pending := some c } W) _ hup (by rw [two]; exact hI2.and (hH2 r))
    (by rw [two]; exact fun s W W' row hs hg hr => let ⟨c, h⟩ := hs; ⟨c, ((hX2 c).and (hH2 _)) s W W' row h hg hr⟩) ?_ ⟨hI1, start⟩).mono ?_
  · rw [two]
    rintro pre x W ⟨hi, hw⟩ hsz hhd hlen
    have hy := run_yield (P := P) (args := encs (w.heap.size + 2) x) hw.1 (by rw [hr]; exact hps x)
    rw [show r.fn = fn by rw [hr], show r.tmps = a.tmps by rw [hr], show r.params = ps by rw [hr], show r.assign = assign by rw [hr], show r.body = body by rw [hr]] at hy
    refine ⟨fn, _, assign, body, hy, roundIn_of_wpIn hfn (hassign _ pre x W _ hi (by omega) hhd ?_)⟩
    intro a' W' hk0 hi' hhd' hax
    have hsz' : w.heap.size + 2 + K ≤ W'.heap.size := Nat.le_trans (by omega) hk0.size
    have hw' := hw.kept hk0 (Nat.le_refl _) (by omega)
    have wide0 : Rnd Q (w.heap.size + 2) K W W' := ⟨hk0.size, fun k o ho hq => hk0.same k o ho (hq.imp id fun h => ⟨by omega, h.2.imp (fun h => by omega) id⟩)⟩
    clear hy hi hhd hsz hw hk0
    revert wide0
    generalize W = W0
    intro wide0
    obtain ⟨W, rfl⟩ : ∃ W, W = W' := ⟨_, rfl⟩
    have hw := hw'
    have hi := hi'
    clear hw' hi'
    refine ⟨_, run_beginRound hw.1 (by rw [hr]), ?_⟩
    have hb := hw.turn (r' := { r with state := .busy }) (by omega)
    refine wpIn_mono (hbody _ pre x a' _ (hI.put _ hi ⟨by omega, by omega⟩) (by simp; omega) (hHd x W _ hhd') (hAx x a' W _ hax) hlen) ?_
    have fin := fun (jump : Option Code) (V : World) (hk : Rnd Q w.heap.size (K + 2) (W.putObj (w.heap.size + 1) (.loop { r with state := .busy })) V) =>
      let hV := hb.kept hk (Nat.le_refl _) (by omega)
      And.intro (round_end (P := P) hQ hw hV hk jump) (hV.turn (r' := { r with state := if jump.isNone then .ready else .done, pending := jump }) (by omega))
    have leave : ∀ (c : Code) (V : World), Rnd Q w.heap.size (K + 2) (W.putObj (w.heap.size + 1) (.loop { r with state := .busy })) V → Ix c (pre ++ [x]) V →
        ∃ v V', (Instr.endRound (w.heap.size + 1) (some c)).run P V = .ok v V' ∧ (Rnd Q (w.heap.size + 2) K W0 V' ∧ (Ending.returned v = .returned (.bool true) ∧ (I (pre ++ [x]) V' ∧ Held w.heap.size (w.heap.size + 1) r V') ∨
          Ending.returned v = .returned (.bool false) ∧ ∃ c, Ix c (pre ++ [x]) V' ∧ Held w.heap.size (w.heap.size + 1) { r with state := .done, pending := some c } V')) := fun c V hk hx =>
      let ⟨⟨h1, h2⟩, h3⟩ := fin (some c) V hk
      ⟨_, _, h1, wide0.trans h2, .inr ⟨rfl, c, (hIx c).put _ hx ⟨by omega, by omega⟩, h3⟩⟩
    rintro e a3 V hp
    cases e with
    | normal =>
      obtain ⟨⟨h1, h2⟩, h3⟩ := fin none V hp.1
      have e : ({ r with state := .ready, pending := none } : Loop) = r := by rw [hr]
      have h3' : Held w.heap.size (w.heap.size + 1) ({ r with state := .ready, pending := none } : Loop) (V.putObj (w.heap.size + 1) (.loop { r with state := .ready, pending := none })) := h3
      rw [e] at h3'
      have h1' : (Instr.endRound (w.heap.size + 1) none).run P V = .ok (.bool true) (V.putObj (w.heap.size + 1) (.loop ({ r with state := .ready, pending := none } : Loop))) := h1
      have h2' : Rnd Q (w.heap.size + 2) K W (V.putObj (w.heap.size + 1) (.loop ({ r with state := .ready, pending := none } : Loop))) := h2
      rw [e] at h1' h2'
      exact ⟨_, _, h1', wide0.trans h2', .inl ⟨rfl, hI.put _ hp.2 ⟨by omega, by omega⟩, h3'⟩⟩
    | ret => exact leave .ret V hp.1 hp.2
    | exit id => exact leave (.exit id) V hp.1 hp.2
    | goto t => exact leave (.goto t) V hp.1 hp.2
    | panic ch => exact hp.elim
    | outgrown => exact hp.elim
  · rintro e V ⟨⟨v, rfl⟩, xs, (⟨hS, hi, hl⟩ | ⟨hSp, c, hi, hl⟩)⟩
    · have he := run_endLoop (P := P) hl.1 (by rw [hr]; simp)
      rw [show r.pending = none by rw [hr]] at he
      exact ⟨none, _, he, hdone xs _ hS (hI.put _ hi (l := w.heap.size + 1) ⟨by omega, by omega⟩) ((World.putObj_heap_other (by omega)).trans hl.2)⟩
    · exact ⟨some c, _, run_endLoop (P := P) hl.1 (by simp), hstop c xs _ hSp ((hIx c).put _ hi (l := w.heap.size + 1) ⟨by omega, by omega⟩) ((World.putObj_heap_other (by omega)).trans hl.2)⟩
end Go.Proofs.Ytlchelaohiojiaa
namespace Go.Proofs.Ytlchelaohiojiaa
open Go Go.RowKit
set_option linter.unusedVariables false
theorem Bears.belowW {β : Type} {B K : Nat} {J : β → World → Prop} (h : Bears B K J) {s : β} {W V : World} (hs : J s W) (hb : Below W.heap.size W V) : J s V :=
  h s W V none hs ⟨hb.os, hb.tape, hb.output, hb.size, fun k hk _ => hb.block k hk⟩ fun r e => by cases e
theorem KeepsFrom.below {B : Nat} {W V : World} (hb : Below W.heap.size W V) : KeepsFrom B W V :=
  KeepsFrom.of_grownBy (row := none) ⟨hb.os, hb.tape, hb.output, hb.size, fun k hk _ => hb.block k hk⟩ fun r e => by cases e
theorem Rnd.belowW {Q : Nat → Prop} {B K : Nat} {W V : World} (hb : Below W.heap.size W V) : Rnd Q B K W V :=
  Rnd.grown (row := none) ⟨hb.os, hb.tape, hb.output, hb.size, fun k hk _ => hb.block k hk⟩ fun r e => by cases e
/-- Where no depth is asked, a round goes as deep as it likes. -/
theorem round_deep {m m' : Nat} {P : Program} {l l' : Nat} {f : FuncId} {tmps : Array Value} {assign body : Code} {w : World} {R : Ending → World → Prop}
    (h : RoundIn Fence.wide m P l f tmps assign body w R) : RoundIn (Fence.wide.inRound l') m' P l f tmps assign body w R := ⟨h.1, fun c cs _ => h.2 c cs fun d hd => by cases hd⟩
end Go.Proofs.Ytlchelaohiojiaa
