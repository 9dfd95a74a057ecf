/- The program's iterator over the polynomials of a degree. -/
import Derived.RangeFuncNested
import Derived.RangeFuncBound
import Derived.RangeFuncCalls
import Derived.RangeFuncLeaves
import Derived.RangeFuncBox
import Derived.Shelf.Abstract
import Derived.Shelf.RegionOpen
import Derived.WalkKit
import Derived.OwnWalkIn
import Derived.TacticsInMore
import Derived.LoopNIn
import Derived.LoopIn
import Derived.Test.YtejpjcdnhboooaaDoorPoly
namespace Go.Proofs.YtejpjcdnhboooaaDoor
open Go.RowKit Go.Shelf
attribute [local go_sem] Oper.semAt_some
set_option linter.unusedVariables false

/-- The polynomials of the degree h, as many as k of them. -/
abbrev PolyOf (h : Nat) := { x : Nat // 2 ^ h ≤ x ∧ x < 2 * 2 ^ h }
def polyAt (h k : Nat) (hk : k < 2 ^ h) : PolyOf h := ⟨2 ^ h + k, by omega⟩
def polys (h : Nat) : Nat → List (PolyOf h)
  | 0 => []
  | k + 1 => if hk : k < 2 ^ h then polys h k ++ [polyAt h k hk] else polys h k
theorem polys_succ {h k : Nat} (hk : k < 2 ^ h) : polys h (k + 1) = polys h k ++ [polyAt h k hk] := by simp [polys, hk]
theorem polys_length {h : Nat} : ∀ k, k ≤ 2 ^ h → (polys h k).length = k := by
  intro k
  induction k with
  | zero => intro _; rfl
  | succ k ih => intro hk; rw [polys_succ (by omega)]; simp [ih (by omega)]
theorem polys_mem {h : Nat} : ∀ k, k ≤ 2 ^ h → ∀ d : PolyOf h, d.1 < 2 ^ h + k → d ∈ polys h k := by
  intro k
  induction k with
  | zero => intro _ d hd; have := d.2; omega
  | succ k ih =>
    intro hk d hd
    rw [polys_succ (by omega)]
    by_cases e : d.1 = 2 ^ h + k
    · exact List.mem_append.2 (.inr (by have : d = polyAt h k (by omega) := Subtype.ext e; simp [this]))
    · exact List.mem_append.2 (.inl (ih (by omega) d (by omega)))

set_option maxRecDepth 100000 in
set_option maxHeartbeats 2000000 in
theorem polysOf_yields (F : Fence) (n : Nat) (hF : F.fn 76) (hro : F.round = none) (hn : 1 ≤ n) (l B h m : Nat) (hh : h ≤ 5) (hm : 2 ^ h = m) (J Jx : List (PolyOf h) → World → Prop)
    (hY : ∀ pre x W, J pre W → pre.length < m → YieldAt F (n - 1) Tryd.prog l #[.int .i64 (x.1 : Int)] W fun e W' =>
      (e = .returned (.bool true) ∧ J (pre ++ [x]) W' ∧ True) ∨ (e = .returned (.bool false) ∧ Jx (pre ++ [x]) W'))
    (W : World) (hB : W.cell? ⟨B, 0, none⟩ = some (.int .i64 h)) (h0 : J [] W) :
    CallsIn F n Tryd.prog 76 #[.func (.yield l) #[] #[], .pointer (some ⟨B, 0, none⟩)] W fun e W' => (∃ v, e = .returned v) ∧
      ((∃ ys, ys = polys h m ∧ J ys W') ∨ (∃ pre, (∃ k, k ≤ m ∧ pre = polys h k) ∧ Jx pre W')) := by
  have hp : m ≤ 32 := by
    calc m = 2 ^ h := hm.symm
      _ ≤ 2 ^ 5 := Nat.pow_le_pow_right (by omega) hh
      _ = 32 := rfl
  have e0 : wrap64 ((2 : Int) ^ h) = (m : Int) := by
    have := shl_nat 1 h (by omega)
    rw [← hm]
    simpa using this
  have HM := Lib.hid hm
  have E0 := Lib.hid e0
  clear e0 hm
  refine callsIn_of_wp Tryd.func76 rfl hF ?_ hro
  simp only [Tryd.ntmps76, List.size_toArray, List.length_cons, List.length_nil, Nat.reduceAdd, Nat.reduceSub, Array.replicate_succ, Array.replicate_zero, List.push_toArray, List.append_toArray, List.nil_append, List.cons_append]
  gi_wp2
  rw [E0.out]
  gi_loopw [4] (fun i wr => ∃ k : Nat, k ≤ m ∧ i = .int .i64 ((m + k : Nat) : Int) ∧ J (polys h k) wr)
    (fun i _ => 2 * m - (intOf i).toNat)
  case atStart => exact ⟨0, Nat.zero_le _, rfl, h0⟩
  case round =>
    obtain ⟨k, hk, rfl, hJs⟩ := hrel
    by_cases hlt : k < m
    · obtain ⟨fn, tmps, assign, body, hy, hR⟩ := hY _ (polyAt h k (by rw [HM.out]; exact hlt)) wr hJs (by rw [polys_length k (by rw [HM.out]; exact hk)]; exact hlt)
      have ex : (((polyAt h k (by rw [HM.out]; exact hlt)).1 : Nat) : Int) = (m : Int) + (k : Int) := by simp [polyAt, HM.out]
      rw [ex] at hy
      have HJ := Lib.hid (polys_succ (h := h) (k := k) (by rw [HM.out]; exact hlt))
      clear ex
      gi_wp2
      refine hR.mono ?_
      rintro e W3 (⟨rfl, hJ3, hk3⟩ | ⟨rfl, hJx3⟩)
      · gi_wp2
        go_roundw
        case rel => exact ⟨k + 1, by omega, by go_num, by rw [HJ.out]; exact hJ3⟩
        case measure => simp [intOf]; omega
      · gi_wp2
        refine bodyPost_ret (results_none rfl _ _ _) rfl ?_
        exact ⟨⟨_, rfl⟩, .inr ⟨_, ⟨k + 1, by omega, HJ.out.symm⟩, hJx3⟩⟩
    · obtain rfl : k = m := by omega
      gi_wp2
      go_end0
      exact ⟨⟨_, rfl⟩, .inl ⟨_, rfl, hJs⟩⟩

/-- THE ITERATOR's CONTRACT. -/
theorem polysOf_stops (F : Fence) (n : Nat) (hF : F.fn 76) (hro : F.round = none) (hn : 1 ≤ n) (B h m : Nat) (hh : h ≤ 5) (hm : 2 ^ h = m) (w : World) (hB : w.cell? ⟨B, 0, none⟩ = some (.int .i64 h)) (hlt : B < w.heap.size) :
    SeqStopsK F n Tryd.prog 76 #[.pointer (some ⟨B, 0, none⟩)] (fun x : PolyOf h => #[.int .i64 (x.1 : Int)]) (fun _ _ => True) (fun ys => ys = polys h m) (fun pre => ∃ k, k ≤ m ∧ pre = polys h k) m w :=
  fun l J Jx W hW _ _ hY h0 => polysOf_yields F n hF hro hn l B h m hh hm J Jx hY W ((hW.cell (p := ⟨B, 0, none⟩) hlt).trans hB) h0

set_option maxHeartbeats 400000 in
theorem polysOf_any (h : Int) (w : World) :
    Calls Tryd.prog 74 #[.int .i64 h] w fun e w' => e = .returned (.func (.func 76) #[] #[.pointer (some ⟨w.heap.size, 0, none⟩)]) ∧ w.alloc (.cells #[.int .i64 h] 2) = w' := by
  have hmf : ∀ (fn : Fn) (first cap : Array Value) (w : World), (Instr.makeFunc fn first cap).run Tryd.prog w = .ok (.func fn first cap) w := fun _ _ _ _ => rfl
  go_enter Tryd.func74, Tryd.ntmps74
  go_wp2
  go_ret
  exact ⟨rfl, rfl⟩

end Go.Proofs.YtejpjcdnhboooaaDoor
