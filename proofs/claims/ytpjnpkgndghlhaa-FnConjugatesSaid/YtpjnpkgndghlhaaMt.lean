/- The laws' own functions over slices of integers: equal, marked, held. · The laws' own rows of numbers: an argument as it lies, a copy that a call has made. -/
import Derived.Test.YtpjnpkgndghlhaaIn
import Derived.Deep.QuietTactic
import Derived.BigQuiet
import Derived.Lib.SmallJoins
namespace Go.Proofs.Ytpjnpkgndghlhaa
open Go.RowKit
set_option linter.unusedVariables false

/-- The slice at A, of n elements, reads as xs. -/
structure Sl (W : World) (b off n : Nat) (xs : List Int) : Prop where
  len : xs.length = n
  small : n ≤ 1048576
  cell : ∀ j, j < n → W.cell? ⟨b, off + j, none⟩ = some (.int .i64 (xs[j]?.getD 0))
theorem Sl.drewN {W : World} {b off n : Nat} {xs : List Int} (h : Sl W b off n xs) (q : Nat) : Sl (W.drewN q) b off n xs := ⟨h.len, h.small, h.cell⟩





/-- The slice's block alone has changed. -/
structure Only (b : Nat) (w w' : World) : Prop where
  os : w'.os = w.os
  tape : w'.tape = w.tape
  output : w'.output = w.output
  size : w'.heap.size = w.heap.size
  block : ∀ k, k ≠ b → w'.heap[k]? = w.heap[k]?
theorem Only.refl (b : Nat) (w : World) : Only b w w := ⟨rfl, rfl, rfl, rfl, fun _ _ => rfl⟩
theorem Only.setCell {b : Nat} {w w' : World} (h : Only b w w') (o : Nat) (v : Value) : Only b w (w'.setCell ⟨b, o, none⟩ v) :=
  ⟨h.os, h.tape, h.output, by rw [← h.size]; show (Array.modify _ _ _).size = _; rw [Array.size_modify], fun k hk => (Below.heap_setCell w' ⟨b, o, none⟩ v k hk).trans (h.block k hk)⟩
theorem Only.below {b B : Nat} {w0 w w' : World} (h : Only b w w') (hb : Below B w0 w) (hB : B ≤ b) : Below B w0 w' :=
  hb.trans ⟨h.os, h.tape, h.output, Nat.le_of_eq h.size.symm, fun k hk => h.block k (by omega)⟩
theorem Only.cell {b : Nat} {w w' : World} (h : Only b w w') {p : Addr} (hp : p.block ≠ b) : w'.cell? p = w.cell? p := by
  unfold World.cell?; rw [h.block _ hp]

end Go.Proofs.Ytpjnpkgndghlhaa
namespace Go.Proofs.Ytpjnpkgndghlhaa
open Go.RowKit Go.Joins
set_option linter.unusedVariables false

/-- An argument's numbers, as they lie when the law begins. -/
structure Arg (W : World) (A : Option Addr) (n : Nat) (xs : List Int) : Prop where
  len : xs.length = n
  big : n ≤ 9223372036854775807
  cell : 0 < n → ∃ a : Addr, A = some a ∧ a.block < W.heap.size ∧ ∀ j : Nat, j < n → W.cell? (a.add j) = some (.int .i64 (xs[j]?.getD 0))
theorem addr_add_block (a : Addr) (j : Nat) : (a.add j).block = a.block := by unfold Addr.add; split <;> rfl
theorem Arg.below {W W' : World} {A : Option Addr} {n : Nat} {xs : List Int} (h : Arg W A n xs) (hb : Below W.heap.size W W') : Arg W' A n xs :=
  ⟨h.len, h.big, fun hn => by
    obtain ⟨a, hA, hlt, hc⟩ := h.cell hn
    exact ⟨a, hA, Nat.lt_of_lt_of_le hlt hb.size, fun j hj => (hb.cell (p := a.add j) (by rw [addr_add_block]; exact hlt)).trans (hc j hj)⟩⟩
theorem Arg.from {w0 W : World} {A : Option Addr} {n : Nat} {xs : List Int} (h : Arg w0 A n xs) (hb : Below w0.heap.size w0 W) : Arg W A n xs := h.below hb

theorem Try.infoI : (Try.prog.info? 2).map (fun i => (i.zero, i.size, i.bytes)) = some (some (.int .i64 0), 1, 8) := by kernel_rfl

/-- A row of numbers that has been made: at the head of the block b. -/
structure Mt (W : World) (b n : Nat) (xs : List Int) : Prop where
  len : xs.length = n
  small : n ≤ 1048576
  lt : b < W.heap.size
  cell : ∀ j, j < n → W.cell? ⟨b, j, none⟩ = some (.int .i64 (xs[j]?.getD 0))
  free : ∀ j, W.frozen? ⟨b, j, none⟩ = false
theorem Mt.below {W W' : World} {b n : Nat} {xs : List Int} (h : Mt W b n xs) (hb : Below W.heap.size W W') : Mt W' b n xs :=
  ⟨h.len, h.small, Nat.lt_of_lt_of_le h.lt hb.size, fun j hj => (hb.cell (p := ⟨b, j, none⟩) h.lt).trans (h.cell j hj), fun j => (hb.frozen (p := ⟨b, j, none⟩) h.lt).trans (h.free j)⟩
theorem Mt.drewN {W : World} {b n : Nat} {xs : List Int} (h : Mt W b n xs) (q : Nat) : Mt (W.drewN q) b n xs := ⟨h.len, h.small, h.lt, h.cell, h.free⟩
theorem Mt.only {W W' : World} {b q n : Nat} {xs : List Int} (h : Mt W b n xs) (ho : Only q W W') (hb : b ≠ q) : Mt W' b n xs := by
  have hg : W'.heap[b]? = W.heap[b]? := ho.block b hb
  exact ⟨h.len, h.small, by rw [ho.size]; exact h.lt, fun j hj => (World.cell?_of_block (w := W) (a := ⟨b, j, none⟩) hg).trans (h.cell j hj), fun j => (World.frozen?_of_block (w := W) (a := ⟨b, j, none⟩) hg).trans (h.free j)⟩
theorem Mt.setCell {W : World} {b n : Nat} {xs : List Int} (h : Mt W b n xs) {p : Addr} (hp : b ≠ p.block) (v : Value) : Mt (W.setCell p v) b n xs :=
  ⟨h.len, h.small, by show b < (Array.modify _ _ _).size; rw [Array.size_modify]; exact h.lt, fun j hj => by
    rw [World.cell?_of_block (w := W) (a := ⟨b, j, none⟩) (Below.heap_setCell W p v b hp)]; exact h.cell j hj, fun j => by
    rw [World.frozen?_setCell]; exact h.free j⟩

end Go.Proofs.Ytpjnpkgndghlhaa
