/- Rows of numbers or of elements: as they are read, and as they are written one by one. -/
import Derived.Test.YtllojcndhkpfmaaDoorDivPure
import Derived.Test.YtllojcndhkpfmaaDoorMakeArgs
import Derived.Test.YtllojcndhkpfmaaDoorLr
import Derived.Laws.AppendOwnNone
namespace Go.Proofs.YtllojcndhkpfmaaDoor
open Go.RowKit Go.Joins
set_option linter.unusedVariables false

/-- A slice that is read: its n numbers are those of p. -/
structure Rl (W : World) (K : IntKind) (A : Option Addr) (n : Nat) (p : List Nat) : Prop where
  len : p.length = n
  row : 0 < n → ∃ g, A = some ⟨g, 0, none⟩ ∧ g < W.heap.size ∧ ∀ j, j < n → W.cell? ⟨g, j, none⟩ = some (.int K (nth p j : Nat))
theorem Rl.below {W W' : World} {K : IntKind} {A : Option Addr} {n : Nat} {p : List Nat} (h : Rl W K A n p) (hb : Below W.heap.size W W') : Rl W' K A n p :=
  ⟨h.len, fun h0 => by
    obtain ⟨g, e, hg, hc⟩ := h.row h0
    exact ⟨g, e, Nat.lt_of_lt_of_le hg hb.size, fun j hj => (hb.cell (p := ⟨g, j, none⟩) hg).trans (hc j hj)⟩⟩
theorem Rl.from {W W' : World} {K : IntKind} {A : Option Addr} {n : Nat} {p : List Nat} (h : Rl W K A n p) (hb : Below W.heap.size W W') : Rl W' K A n p := h.below hb
theorem Rl.nil (W : World) (K : IntKind) (A : Option Addr) : Rl W K A 0 [] := ⟨rfl, fun h => by omega⟩
theorem Rl.cast {W : World} {K : IntKind} {A : Option Addr} {n k : Nat} {p q : List Nat} (h : Rl W K A n p) (e : q = p) (hk : k = n) : Rl W K A k q := by rw [e, hk]; exact h
theorem Rl.same {W W' : World} {K : IntKind} {A : Option Addr} {n : Nat} {p : List Nat} (h : Rl W K A n p) (e : W'.heap = W.heap) : Rl W' K A n p :=
  ⟨h.len, fun h0 => by
    obtain ⟨g, e1, hg, hc⟩ := h.row h0
    exact ⟨g, e1, by rw [e]; exact hg, fun j hj => by
      have : W'.cell? ⟨g, j, none⟩ = W.cell? ⟨g, j, none⟩ := by unfold World.cell?; rw [e]
      rw [this]; exact hc j hj⟩⟩
theorem Mt.rl {W : World} {b n : Nat} {zs : List Int} (h : Mt W b n zs) {k : Nat} (hin : allIn k zs = true) : Rl W .i64 (some ⟨b, 0, none⟩) n (nats zs) :=
  ⟨by rw [nats_length]; exact h.len, fun _ => ⟨b, rfl, h.lt, fun j hj => by rw [h.cell j hj, nats_nth hin]⟩⟩
theorem Mt.arg {W : World} {b n : Nat} {zs : List Int} (h : Mt W b n zs) : Arg W (some ⟨b, 0, none⟩) n zs :=
  ⟨h.len, by have := h.small; omega, fun _ => ⟨_, rfl, h.lt, fun j hj => by
    show W.cell? ((⟨b, 0, none⟩ : Addr).add j) = _
    have h1 := h.cell j hj
    have e : (⟨b, 0, none⟩ : Addr).add j = ⟨b, j, none⟩ := by
      unfold Addr.add
      split
      · subst_vars; rfl
      · simp
    rw [e]; exact h1⟩⟩

/-- A row of the call's own at the block g, of n elements: f tells them. -/
structure Wr (W : World) (K : IntKind) (g n : Nat) (f : Nat → Nat) : Prop where
  cell : ∀ j, j < n → W.cell? ⟨g, j, none⟩ = some (.int K (f j : Nat))
  free : ∀ j, W.frozen? ⟨g, j, none⟩ = false
  lt : g < W.heap.size
theorem Wr.below {W W' : World} {K : IntKind} {g n : Nat} {f : Nat → Nat} (h : Wr W K g n f) (hb : Below W.heap.size W W') : Wr W' K g n f :=
  ⟨fun j hj => (hb.cell (p := ⟨g, j, none⟩) h.lt).trans (h.cell j hj), fun j => (hb.frozen (p := ⟨g, j, none⟩) h.lt).trans (h.free j), Nat.lt_of_lt_of_le h.lt hb.size⟩
theorem Wr.congr {W : World} {K : IntKind} {g n : Nat} {f f' : Nat → Nat} (h : Wr W K g n f) (e : ∀ j, j < n → f' j = f j) : Wr W K g n f' :=
  ⟨fun j hj => by rw [e j hj]; exact h.cell j hj, h.free, h.lt⟩
theorem Wr.same {W W' : World} {K : IntKind} {g n : Nat} {f : Nat → Nat} (h : Wr W K g n f) (e : W'.heap = W.heap) : Wr W' K g n f :=
  ⟨fun j hj => by
    have : W'.cell? ⟨g, j, none⟩ = W.cell? ⟨g, j, none⟩ := by unfold World.cell?; rw [e]
    rw [this]; exact h.cell j hj, fun j => by
    have : W'.frozen? ⟨g, j, none⟩ = W.frozen? ⟨g, j, none⟩ := by unfold World.frozen?; rw [e]
    rw [this]; exact h.free j, by rw [e]; exact h.lt⟩
theorem Wr.set {W : World} {K : IntKind} {g n : Nat} {f : Nat → Nat} (h : Wr W K g n f) (i : Nat) (hi : i < n) (x : Nat) : Wr (W.setCell ⟨g, i, none⟩ (.int K x)) K g n (put f i x) := by
  refine ⟨fun j hj => ?_, fun j => by rw [World.frozen?_setCell]; exact h.free j, ?_⟩
  · by_cases e : j = i
    · subst e
      rw [World.cell?_setCell_same' _ _ _ (by rw [h.cell j hj]; rfl)]
      simp [put]
    · rw [World.cell?_setCell_other _ ⟨g, i, none⟩ ⟨g, j, none⟩ _ (fun h => e (by injection h with _ h _; omega)), h.cell j hj]
      simp [put, e]
  · show g < (Array.modify _ _ _).size
    rw [Array.size_modify]; exact h.lt
theorem Wr.rl {W : World} {K : IntKind} {g n : Nat} {f : Nat → Nat} (h : Wr W K g n f) : Rl W K (some ⟨g, 0, none⟩) n (lst f n) :=
  ⟨lst_length f n, fun _ => ⟨g, rfl, h.lt, fun j hj => by rw [lst_nth f hj]; exact h.cell j hj⟩⟩
theorem Wr.rl' {W : World} {K : IntKind} {g n k : Nat} {f : Nat → Nat} (h : Wr W K g n f) (hk : k ≤ n) : Rl W K (some ⟨g, 0, none⟩) k (lst f k) :=
  ⟨lst_length f k, fun _ => ⟨g, rfl, h.lt, fun j hj => by rw [lst_nth f hj]; exact h.cell j (by omega)⟩⟩
theorem Wr.mt {W : World} {g n : Nat} {f : Nat → Nat} (h : Wr W .i64 g n f) (hn : n ≤ 1048576) : Mt W g n (ints (lst f n)) :=
  ⟨by rw [ints_length, lst_length], hn, h.lt, fun j hj => by rw [h.cell j hj, ints_get, lst_nth f hj], h.free⟩
theorem made_get (K : IntKind) (n j : Nat) (hj : j < n) : (madeCells (Value.int K 0).cells (n * 1)).toList[j]? = some (Value.int K 0) := by
  have : (Value.int K 0).cells = #[Value.int K 0] := rfl
  rw [this]
  simp [madeCells, hj, Nat.mod_one]
theorem Wr.made {W : World} {B g n cap : Nat} {T : TypeId} {K : IntKind} (h : W.ownsRow B T 1 (.slice (some ⟨g, 0, none⟩) n cap) n (madeCells (Value.int K 0).cells (n * 1)).toList) : Wr W K g n (fun _ => 0) := by
  refine ⟨fun j hj => ?_, fun j => h.frozenAt j, (h.lt g rfl).2⟩
  rw [h.cellAt j (by omega), made_get _ _ _ hj]
  rfl
/-- A write behind what lay below. -/
theorem below_set {B : Nat} {w W : World} (hb : Below B w W) (g i : Nat) (hg : B ≤ g) (v : Value) : Below B w (W.setCell ⟨g, i, none⟩ v) := hb.setCell (p := ⟨g, i, none⟩) hg _
end Go.Proofs.YtllojcndhkpfmaaDoor
