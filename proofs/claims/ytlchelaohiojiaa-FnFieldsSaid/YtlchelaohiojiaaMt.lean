/- The laws' own functions over slices of integers: equal, marked, held. · The laws' own rows of numbers: an argument as it lies, a copy that a call has made. -/
import Derived.Test.YtlchelaohiojiaaIn
import Derived.Deep.QuietTactic
import Derived.BigQuiet
import Derived.Lib.SmallJoins
namespace Go.Proofs.Ytlchelaohiojiaa
open Go.RowKit
set_option linter.unusedVariables false

/-- The slice at A, of n elements, reads as xs. -/
structure Sl (W : World) (b off n : Nat) (xs : List Int) : Prop where
  len : xs.length = n
  small : n ≤ 1048576
  cell : ∀ j, j < n → W.cell? ⟨b, off + j, none⟩ = some (.int .i64 (xs[j]?.getD 0))
theorem Sl.drewN {W : World} {b off n : Nat} {xs : List Int} (h : Sl W b off n xs) (q : Nat) : Sl (W.drewN q) b off n xs := ⟨h.len, h.small, h.cell⟩

set_option maxHeartbeats 800000 in
theorem eq_nil (A B : Option Addr) (ca cb : Nat) (w : World) :
    Calls Try.prog 105 #[.slice A 0 ca, .slice B 0 cb] w fun e w' => e = .returned (.bool true) ∧ ∃ q, w' = w.drewN q := by
  go_enter Try.func105, Try.ntmps105
  go_wp2
  go_loop [5] (fun i => i = .int .i64 0) (fun i => 0)
  case atStart => exact rfl
  case round =>
    subst hrel
    go_wp2
    go_ret
    exact ⟨rfl, 0, rfl⟩

set_option maxHeartbeats 800000 in
theorem eq_same (b off b' off' n ca cb : Nat) (xs : List Int) (w : World) (hA : Sl w b off n xs) (hB : Sl w b' off' n xs) :
    Calls Try.prog 105 #[.slice (some ⟨b, off, none⟩) n ca, .slice (some ⟨b', off', none⟩) n cb] w fun e w' => e = .returned (.bool true) ∧ ∃ q, w' = w.drewN q := by
  have hs := hA.small
  go_enter Try.func105, Try.ntmps105
  go_wp2
  go_loopw [5] (fun i wr => ∃ k q : Nat, k ≤ n ∧ i = .int .i64 k ∧ wr = w.drewN q) (fun i _ => n - (intOf i).toNat)
  case atStart => exact ⟨0, 0, Nat.zero_le _, rfl, rfl⟩
  case round =>
    obtain ⟨k, q, hk, rfl, rfl⟩ := hrel
    by_cases hlt : k < n
    · have hc1 := (hA.drewN q).cell k hlt
      have hc2 := (hB.drewN q).cell k hlt
      have hlt' : (k : Int) < (n : Int) := by omega
      have hnn : (0 : Int) ≤ (k : Int) := by omega
      generalize hwq : w.drewN q = W at hc1 hc2 ⊢
      go_wp2
      go_quiet (fail)
      go_wp2
      go_roundw
      case rel => exact ⟨k + 1, q + _, by omega, by go_num, by rw [← hwq, World.drewN_drewN]⟩
      case measure => simp [intOf]; omega
    · obtain rfl : k = n := by omega
      go_wp2
      go_ret
      exact ⟨rfl, q, rfl⟩

set_option maxHeartbeats 800000 in
theorem held_nil (A : Option Addr) (ca : Nat) (k0 : Int) (w : World) :
    Calls Try.prog 107 #[.slice A 0 ca, .int .i64 k0] w fun e w' => e = .returned (.int .i64 k0) ∧ w = w' := by
  go_enter Try.func107, Try.ntmps107
  go_wp2
  go_loop [1, 5] (fun s i => i = .int .i64 0 ∧ s = .int .i64 k0) (fun _ i => 0)
  case atStart => exact ⟨rfl, rfl⟩
  case round =>
    obtain ⟨rfl, rfl⟩ := hrel
    go_wp2
    go_ret
    exact ⟨rfl, rfl⟩

set_option maxHeartbeats 800000 in
theorem held_same (b off n ca k0 : Nat) (hk0 : k0 ≤ 1048577) (hn : n ≤ 1048576) (w : World) (hc : ∀ j, j < n → w.cell? ⟨b, off + j, none⟩ = some (.int .i64 ((k0 + j : Nat) : Int))) :
    Calls Try.prog 107 #[.slice (some ⟨b, off, none⟩) n ca, .int .i64 k0] w fun e w' => e = .returned (.int .i64 ((k0 + n : Nat) : Int)) ∧ w = w' := by
  go_enter Try.func107, Try.ntmps107
  go_wp2
  go_loop [1, 5] (fun s i => ∃ k : Nat, k ≤ n ∧ i = .int .i64 k ∧ s = .int .i64 ((k0 + k : Nat) : Int)) (fun _ i => n - (intOf i).toNat)
  case atStart => exact ⟨0, Nat.zero_le _, rfl, rfl⟩
  case round =>
    obtain ⟨k, hk, rfl, rfl⟩ := hrel
    by_cases hlt : k < n
    · have hck := hc k hlt
      generalize hs : k0 + k = s at hck ⊢
      have hsb : s ≤ 2097153 := by omega
      have HS := Lib.hid hs
      clear hs hc
      go_wp2
      go_round
      case rel => exact ⟨k + 1, by omega, by go_num, by have := HS.out; rw [show k0 + (k + 1) = s + 1 by omega]; go_num⟩
      case measure => simp [intOf]; omega
    · obtain rfl : k = n := by omega
      clear hc
      go_wp2
      go_ret
      exact ⟨rfl, rfl⟩

/-- The slice's block alone has changed. -/
structure Only (b : Nat) (w w' : World) : Prop where
  os : w'.os = w.os
  tape : w'.tape = w.tape
  output : w'.output = w.output
  size : w'.heap.size = w.heap.size
  block : ∀ k, k ≠ b → w'.heap[k]? = w.heap[k]?
theorem Only.refl (b : Nat) (w : World) : Only b w w := ⟨rfl, rfl, rfl, rfl, fun _ _ => rfl⟩
theorem Only.setCell {b : Nat} {w w' : World} (h : Only b w w') (o : Nat) (v : Value) : Only b w (w'.setCell ⟨b, o, none⟩ v) :=
  ⟨h.os, h.tape, h.output, by rw [← h.size]; show (Array.modify _ _ _).size = _; rw [Array.size_modify], fun k hk => (Below.heap_setCell w' ⟨b, o, none⟩ v k hk).trans (h.block k hk)⟩
theorem Only.below {b B : Nat} {w0 w w' : World} (h : Only b w w') (hb : Below B w0 w) (hB : B ≤ b) : Below B w0 w' :=
  hb.trans ⟨h.os, h.tape, h.output, Nat.le_of_eq h.size.symm, fun k hk => h.block k (by omega)⟩
theorem Only.cell {b : Nat} {w w' : World} (h : Only b w w') {p : Addr} (hp : p.block ≠ b) : w'.cell? p = w.cell? p := by
  unfold World.cell?; rw [h.block _ hp]

set_option maxHeartbeats 1600000 in
theorem mark_any (b off n ca k0 : Nat) (hk0 : k0 ≤ 1048577) (hn : n ≤ 1048576) (w : World) (hc : ∀ j, j < n → ∃ v, w.cell? ⟨b, off + j, none⟩ = some v) (hf : ∀ j, j < n → w.frozen? ⟨b, off + j, none⟩ = false) :
    Calls Try.prog 106 #[.slice (some ⟨b, off, none⟩) n ca, .int .i64 k0] w fun e w' => e = .returned (.int .i64 ((k0 + n : Nat) : Int)) ∧ Only b w w' ∧ (∀ x, w'.frozen? x = w.frozen? x) ∧ ∀ j, j < n → w'.cell? ⟨b, off + j, none⟩ = some (.int .i64 ((k0 + j : Nat) : Int)) := by
  have HC := Lib.hid hc
  have HF := Lib.hid hf
  clear hc hf
  go_enter Try.func106, Try.ntmps106
  go_wp2
  go_loopw [1, 5] (fun s i wr => ∃ k : Nat, k ≤ n ∧ i = .int .i64 k ∧ s = .int .i64 ((k0 + k : Nat) : Int) ∧ Only b w wr ∧ (∀ j, j < n → ∃ v, wr.cell? ⟨b, off + j, none⟩ = some v) ∧ (∀ x, wr.frozen? x = w.frozen? x) ∧ ∀ j, j < k → wr.cell? ⟨b, off + j, none⟩ = some (.int .i64 ((k0 + j : Nat) : Int))) (fun _ i _ => n - (intOf i).toNat)
  case atStart => exact ⟨0, Nat.zero_le _, rfl, rfl, Only.refl _ _, HC.out, fun _ => rfl, fun j hj => by omega⟩
  case round =>
    obtain ⟨k, hk, rfl, rfl, hO, hex, hfr, hdone⟩ := hrel
    have HEX := Lib.hid hex
    have HFR := Lib.hid hfr
    have HD := Lib.hid hdone
    clear hex hfr hdone
    by_cases hlt : k < n
    · obtain ⟨v, hv⟩ := HEX.out k hlt
      have hfk : wr.frozen? ⟨b, off + k, none⟩ = false := (HFR.out _).trans (HF.out k hlt)
      generalize hs : k0 + k = s
      have hsb : s ≤ 2097153 := by omega
      have HS := Lib.hid hs
      clear hs
      go_wp2
      go_roundw
      case rel =>
        refine ⟨k + 1, by omega, by go_num, by have := HS.out; rw [show k0 + (k + 1) = s + 1 by omega]; go_num, hO.setCell _ _, fun j hj => ?_, fun x => by rw [World.frozen?_setCell]; exact HFR.out x, fun j hj => ?_⟩
        · by_cases e : j = k
          · subst e; exact ⟨_, World.cell?_setCell_same' _ _ _ (by rw [hv]; rfl)⟩
          · rw [World.cell?_setCell_other _ ⟨b, off + k, none⟩ ⟨b, off + j, none⟩ _ (fun h => e (by injection h with _ h _; omega))]
            exact HEX.out j hj
        · by_cases e : j = k
          · subst e
            rw [HS.out]
            exact World.cell?_setCell_same' _ _ _ (by rw [hv]; rfl)
          · rw [World.cell?_setCell_other _ ⟨b, off + k, none⟩ ⟨b, off + j, none⟩ _ (fun h => e (by injection h with _ h _; omega))]
            exact HD.out j (by omega)
      case measure => simp [intOf]; omega
    · obtain rfl : k = n := by omega
      go_wp2
      go_ret
      exact ⟨rfl, hO, HFR.out, HD.out⟩
end Go.Proofs.Ytlchelaohiojiaa
namespace Go.Proofs.Ytlchelaohiojiaa
open Go.RowKit Go.Joins
set_option linter.unusedVariables false

/-- An argument's numbers, as they lie when the law begins. -/
structure Arg (W : World) (A : Option Addr) (n : Nat) (xs : List Int) : Prop where
  len : xs.length = n
  big : n ≤ 9223372036854775807
  cell : 0 < n → ∃ a : Addr, A = some a ∧ a.block < W.heap.size ∧ ∀ j : Nat, j < n → W.cell? (a.add j) = some (.int .i64 (xs[j]?.getD 0))
theorem addr_add_block (a : Addr) (j : Nat) : (a.add j).block = a.block := by unfold Addr.add; split <;> rfl
theorem Arg.below {W W' : World} {A : Option Addr} {n : Nat} {xs : List Int} (h : Arg W A n xs) (hb : Below W.heap.size W W') : Arg W' A n xs :=
  ⟨h.len, h.big, fun hn => by
    obtain ⟨a, hA, hlt, hc⟩ := h.cell hn
    exact ⟨a, hA, Nat.lt_of_lt_of_le hlt hb.size, fun j hj => (hb.cell (p := a.add j) (by rw [addr_add_block]; exact hlt)).trans (hc j hj)⟩⟩
theorem Arg.from {w0 W : World} {A : Option Addr} {n : Nat} {xs : List Int} (h : Arg w0 A n xs) (hb : Below w0.heap.size w0 W) : Arg W A n xs := h.below hb

theorem Try.infoI : (Try.prog.info? 2).map (fun i => (i.zero, i.size, i.bytes)) = some (some (.int .i64 0), 1, 8) := by kernel_rfl

/-- A row of numbers that has been made: at the head of the block b. -/
structure Mt (W : World) (b n : Nat) (xs : List Int) : Prop where
  len : xs.length = n
  small : n ≤ 1048576
  lt : b < W.heap.size
  cell : ∀ j, j < n → W.cell? ⟨b, j, none⟩ = some (.int .i64 (xs[j]?.getD 0))
  free : ∀ j, W.frozen? ⟨b, j, none⟩ = false
theorem Mt.below {W W' : World} {b n : Nat} {xs : List Int} (h : Mt W b n xs) (hb : Below W.heap.size W W') : Mt W' b n xs :=
  ⟨h.len, h.small, Nat.lt_of_lt_of_le h.lt hb.size, fun j hj => (hb.cell (p := ⟨b, j, none⟩) h.lt).trans (h.cell j hj), fun j => (hb.frozen (p := ⟨b, j, none⟩) h.lt).trans (h.free j)⟩
theorem Mt.drewN {W : World} {b n : Nat} {xs : List Int} (h : Mt W b n xs) (q : Nat) : Mt (W.drewN q) b n xs := ⟨h.len, h.small, h.lt, h.cell, h.free⟩
theorem Mt.only {W W' : World} {b q n : Nat} {xs : List Int} (h : Mt W b n xs) (ho : Only q W W') (hb : b ≠ q) : Mt W' b n xs := by
  have hg : W'.heap[b]? = W.heap[b]? := ho.block b hb
  exact ⟨h.len, h.small, by rw [ho.size]; exact h.lt, fun j hj => (World.cell?_of_block (w := W) (a := ⟨b, j, none⟩) hg).trans (h.cell j hj), fun j => (World.frozen?_of_block (w := W) (a := ⟨b, j, none⟩) hg).trans (h.free j)⟩
theorem Mt.setCell {W : World} {b n : Nat} {xs : List Int} (h : Mt W b n xs) {p : Addr} (hp : b ≠ p.block) (v : Value) : Mt (W.setCell p v) b n xs :=
  ⟨h.len, h.small, by show b < (Array.modify _ _ _).size; rw [Array.size_modify]; exact h.lt, fun j hj => by
    rw [World.cell?_of_block (w := W) (a := ⟨b, j, none⟩) (Below.heap_setCell W p v b hp)]; exact h.cell j hj, fun j => by
    rw [World.frozen?_setCell]; exact h.free j⟩

/-- Numbers that are read, wherever they lie below B: nil if there are none. -/
structure Rd (W : World) (B : Nat) (A : Option Addr) (n : Nat) (xs : List Int) : Prop where
  len : xs.length = n
  small : n ≤ 1048576
  cell : ∀ j, j < n → ∃ b, A = some ⟨b, 0, none⟩ ∧ b < B ∧ W.cell? ⟨b, j, none⟩ = some (.int .i64 (xs[j]?.getD 0))
theorem Rd.keep {W W' : World} {B D : Nat} {A : Option Addr} {n : Nat} {xs : List Int} (h : Rd W B A n xs) (hB : B ≤ D) (hb : Below D W W') : Rd W' B A n xs :=
  ⟨h.len, h.small, fun j hj => by obtain ⟨b, h1, h2, h3⟩ := h.cell j hj; exact ⟨b, h1, h2, (hb.cell (p := ⟨b, j, none⟩) (Nat.lt_of_lt_of_le h2 hB)).trans h3⟩⟩
theorem Rd.wide {W : World} {B B' : Nat} {A : Option Addr} {n : Nat} {xs : List Int} (h : Rd W B A n xs) (hB : B ≤ B') : Rd W B' A n xs :=
  ⟨h.len, h.small, fun j hj => by obtain ⟨b, h1, h2, h3⟩ := h.cell j hj; exact ⟨b, h1, Nat.lt_of_lt_of_le h2 hB, h3⟩⟩
theorem Rd.below {W W' : World} {A : Option Addr} {n : Nat} {xs : List Int} (h : Rd W W.heap.size A n xs) (hb : Below W.heap.size W W') : Rd W' W'.heap.size A n xs :=
  (h.keep (Nat.le_refl _) hb).wide hb.size
theorem Rd.only {W W' : World} {B q : Nat} {A : Option Addr} {n : Nat} {xs : List Int} (h : Rd W B A n xs) (ho : Only q W W') (hq : B ≤ q) : Rd W' B A n xs :=
  ⟨h.len, h.small, fun j hj => by obtain ⟨b, h1, h2, h3⟩ := h.cell j hj; exact ⟨b, h1, h2, (ho.cell (p := ⟨b, j, none⟩) (by show b ≠ q; omega)).trans h3⟩⟩
theorem Rd.drewN {W : World} {B : Nat} {A : Option Addr} {n : Nat} {xs : List Int} (h : Rd W B A n xs) (q : Nat) : Rd (W.drewN q) B A n xs := ⟨h.len, h.small, h.cell⟩
theorem Mt.rd {W : World} {b n : Nat} {xs : List Int} (h : Mt W b n xs) : Rd W W.heap.size (some ⟨b, 0, none⟩) n xs :=
  ⟨h.len, h.small, fun j hj => ⟨b, rfl, h.lt, h.cell j hj⟩⟩
/-- In the world W a matrix of c columns, whose rows are read, lies at the block q. -/
structure MR (W : World) (q : Nat) (c : Int) (A : Option Addr) (n cap : Nat) : Prop where
  c0 : W.cell? ⟨q, 0, none⟩ = some (.int .i64 c)
  c1 : W.cell? ⟨q, 1, none⟩ = some (.slice A n cap)
  lt : q < W.heap.size
theorem MR.next {W W' : World} {q : Nat} {c : Int} {A : Option Addr} {n cap : Nat} (h : MR W q c A n cap) (hb : Below W.heap.size W W') : MR W' q c A n cap :=
  ⟨(hb.cell (p := ⟨q, 0, none⟩) h.lt).trans h.c0, (hb.cell (p := ⟨q, 1, none⟩) h.lt).trans h.c1, Nat.lt_of_lt_of_le h.lt hb.size⟩
structure SpR (W : World) (q : Nat) (c : Int) (A : Option Addr) (n cap : Nat) (xs : List Int) : Prop where
  m : MR W q c A n cap
  r : Rd W W.heap.size A n xs
theorem SpR.below {W W' : World} {q : Nat} {c : Int} {A : Option Addr} {n cap : Nat} {xs : List Int} (h : SpR W q c A n cap xs) (hb : Below W.heap.size W W') : SpR W' q c A n cap xs := ⟨h.m.next hb, h.r.below hb⟩
end Go.Proofs.Ytlchelaohiojiaa
