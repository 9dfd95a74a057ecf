/- The library's place of the lowest bit of 64, laid at this translation. -/
import Derived.Shelf.Spec.TrailingZeros
import Derived.Test.YtlchelaohiojiaaDoorProg
import Derived.Test.YtlchelaohiojiaaDoorIn
import Derived.Test.YtlchelaohiojiaaDoorColPure
namespace Go.Proofs
open Go.Shelf Go.RowKit
def Tryd.lays29_ren : Go.Shelf.Ren := ⟨fun | 29 => 46 | n => n, fun | 0 => 0 | 3 => 3 | 4 => 4 | 5 => 5 | 22 => 75 | 25 => 27 | 54 => 121 | n => n, fun | 1 => 0 | n => n⟩
theorem Tryd.lays29 : Go.Proofs.Lays7.n29 Tryd.prog Tryd.lays29_ren := {
  mixed := by kernel_rfl
  f29 := Tryd.func46.trans (congrArg some (by kernel_rfl))
  t0 := Tryd.underlying0
  a0 := fun _ => by kernel_rfl
  z0 := fun _ => by kernel_rfl
  v0 := fun _ => by kernel_rfl
  i0 := by kernel_rfl
  t3 := Tryd.underlying3
  a3 := fun _ => by kernel_rfl
  z3 := fun _ => by kernel_rfl
  v3 := fun _ => by kernel_rfl
  i3 := by kernel_rfl
  t4 := Tryd.underlying4
  a4 := fun _ => by kernel_rfl
  z4 := fun _ => by kernel_rfl
  v4 := fun _ => by kernel_rfl
  i4 := by kernel_rfl
  t5 := Tryd.underlying5
  a5 := fun _ => by kernel_rfl
  z5 := fun _ => by kernel_rfl
  v5 := fun _ => by kernel_rfl
  i5 := by kernel_rfl
  t22 := Tryd.underlying75
  a22 := fun _ => by kernel_rfl
  z22 := fun _ => by kernel_rfl
  v22 := fun _ => by kernel_rfl
  i22 := by kernel_rfl
  t25 := Tryd.underlying27
  a25 := fun _ => by kernel_rfl
  z25 := fun _ => by kernel_rfl
  v25 := fun _ => by kernel_rfl
  i25 := by kernel_rfl
  t54 := Tryd.underlying121
  a54 := fun _ => by kernel_rfl
  z54 := fun _ => by kernel_rfl
  g1 := by kernel_rfl }
theorem Tryd.bits_tz64 (x : Nat) (hx : x < 18446744073709551616) (w : World) (hT : x ≠ 0 → TabAt 0 Lib.deBruijn64tab w) :
    Calls Tryd.prog 46 #[.int .u64 x] w fun e w' => e = .returned (.int .i64 (Lib.ctz 64 x)) ∧ w' = w := Any7.bits_TrailingZeros64 Tryd.lays29 x hx w hT
end Go.Proofs
namespace Go.Proofs.YtlchelaohiojiaaDoor
open Go.RowKit
set_option linter.unusedVariables false
/-- The library's table of 64 lies where its initialiser laid it. -/
def Tab64 (w : World) : Prop := TabAt 0 Lib.deBruijn64tab w ∧ 0 < w.heap.size
theorem Tab64.below {w w' : World} (h : Tab64 w) (hb : Below w.heap.size w w') : Tab64 w' :=
  ⟨fun j hj => (hb.cell (p := ⟨0, j, none⟩) h.2).trans (h.1 j hj), Nat.lt_of_lt_of_le h.2 hb.size⟩
theorem Tab64.drewN {w : World} (h : Tab64 w) (k : Nat) : Tab64 (w.drewN k) := h
theorem ctz_one : ∀ j : Fin 5, Lib.ctz 64 (2 ^ j.val) = j.val := by decide
theorem tz64_any (j : Nat) (hj : j < 5) (w : World) (hT : Tab64 w) :
    Calls Tryd.prog 46 #[.int .u64 ((2 ^ j : Nat) : Int)] w fun e w' => e = .returned (.int .i64 (j : Nat)) ∧ w' = w := by
  have h : 2 ^ j ≤ 16 := Nat.pow_le_pow_right (n := 2) (by omega) (show j ≤ 4 by omega)
  have S := Tryd.bits_tz64 (2 ^ j) (by omega) w (fun _ => hT.1)
  have e : Lib.ctz 64 (2 ^ j) = j := ctz_one ⟨j, hj⟩
  rw [e] at S
  exact S
end Go.Proofs.YtlchelaohiojiaaDoor
