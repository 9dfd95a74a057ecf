/- The library's place of the lowest bit, laid at this translation. -/
import Derived.Shelf.Spec.TrailingZeros
import Derived.Test.YtilghmfffdmnjaaDoorProg
import Derived.Test.YtilghmfffdmnjaaDoorIn
import Derived.Test.YtilghmfffdmnjaaDoorColPure
namespace Go.Proofs
open Go.Shelf Go.RowKit
def Tryd.lays28_ren : Go.Shelf.Ren := ⟨fun | 28 => 130 | n => n, fun | 0 => 0 | 3 => 3 | 4 => 4 | 5 => 5 | 25 => 36 | 27 => 99 | 53 => 150 | n => n, fun | 0 => 1 | n => n⟩
theorem Tryd.lays28 : Go.Proofs.Lays7.n28 Tryd.prog Tryd.lays28_ren := {
  mixed := by kernel_rfl
  f28 := Tryd.func130.trans (congrArg some (by kernel_rfl))
  t0 := Tryd.underlying0
  a0 := fun _ => by kernel_rfl
  z0 := fun _ => by kernel_rfl
  v0 := fun _ => by kernel_rfl
  i0 := by kernel_rfl
  t3 := Tryd.underlying3
  a3 := fun _ => by kernel_rfl
  z3 := fun _ => by kernel_rfl
  v3 := fun _ => by kernel_rfl
  i3 := by kernel_rfl
  t4 := Tryd.underlying4
  a4 := fun _ => by kernel_rfl
  z4 := fun _ => by kernel_rfl
  v4 := fun _ => by kernel_rfl
  i4 := by kernel_rfl
  t5 := Tryd.underlying5
  a5 := fun _ => by kernel_rfl
  z5 := fun _ => by kernel_rfl
  v5 := fun _ => by kernel_rfl
  i5 := by kernel_rfl
  t25 := Tryd.underlying36
  a25 := fun _ => by kernel_rfl
  z25 := fun _ => by kernel_rfl
  v25 := fun _ => by kernel_rfl
  i25 := by kernel_rfl
  t27 := Tryd.underlying99
  a27 := fun _ => by kernel_rfl
  z27 := fun _ => by kernel_rfl
  v27 := fun _ => by kernel_rfl
  i27 := by kernel_rfl
  t53 := Tryd.underlying150
  a53 := fun _ => by kernel_rfl
  z53 := fun _ => by kernel_rfl
  v53 := fun _ => by kernel_rfl
  i53 := by kernel_rfl
  g0 := by kernel_rfl }
theorem Tryd.bits_tz32 (x : Nat) (hx : x < 4294967296) (w : World) (hT : x ≠ 0 → TabAt 1 Lib.deBruijn32tab w) :
    Calls Tryd.prog 130 #[.int .u32 x] w fun e w' => e = .returned (.int .i64 (Lib.ctz 32 x)) ∧ w' = w := Any7.bits_TrailingZeros32 Tryd.lays28 x hx w hT
end Go.Proofs
namespace Go.Proofs.YtilghmfffdmnjaaDoor
open Go.RowKit
set_option linter.unusedVariables false
/-- The library's table lies where its initialiser laid it. -/
def Tab (w : World) : Prop := TabAt 1 Lib.deBruijn32tab w ∧ 1 < w.heap.size
theorem Tab.below {w w' : World} (h : Tab w) (hb : Below w.heap.size w w') : Tab w' :=
  ⟨fun j hj => (hb.cell (p := ⟨1, j, none⟩) h.2).trans (h.1 j hj), Nat.lt_of_lt_of_le h.2 hb.size⟩
theorem Tab.drewN {w : World} (h : Tab w) (k : Nat) : Tab (w.drewN k) := h
theorem ctzFrom_ld : ∀ (f x : Nat), x ≠ 0 → x < 2 ^ f → Lib.ctzFrom f x = ld x
  | 0, x, hx, h => by simp at h; exact absurd h hx
  | f + 1, x, hx, h => by
    rw [Lib.ctzFrom, ld, dif_neg hx]
    by_cases h1 : x % 2 = 1
    · rw [if_pos h1, if_pos h1]
    · rw [if_neg h1, if_neg h1, ctzFrom_ld f (x / 2) (by omega) (by rw [Nat.pow_succ] at h; omega), Nat.add_comm]
theorem ctz_ld {x : Nat} (hx : x ≠ 0) (h : x < 4294967296) : Lib.ctz 32 x = ld x := by
  rw [Lib.ctz, if_neg hx]; exact ctzFrom_ld 32 x hx h

set_option maxHeartbeats 400000 in
theorem lead_any (x : Nat) (hx : x ≠ 0) (h : x < 4294967296) (w : World) (hT : Tab w) :
    Calls Tryd.prog 119 #[.int .u32 x] w fun e w' => e = .returned (.int .i64 (ld x : Nat)) ∧ w = w' := by
  have S := Tryd.bits_tz32 x h w (fun _ => hT.1)
  rw [ctz_ld hx h] at S
  have hl : ld x < 32 := ld_lt (c := 32) h hx
  generalize ld x = l at S hl
  have HS := Lib.hid S
  clear S hT
  go_enter Tryd.func119, Tryd.ntmps119
  go_wp2_with (go_at_call 130; refine HS.out.mono ?_; rintro e w1 ⟨rfl, rfl⟩)
  go_ret
  exact ⟨rfl, rfl⟩
end Go.Proofs.YtilghmfffdmnjaaDoor
