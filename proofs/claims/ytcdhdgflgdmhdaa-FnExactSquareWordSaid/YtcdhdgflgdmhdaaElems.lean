/- The program's iterator over the elements of a field, and the least element that passes a test. -/
import Derived.Test.YtcdhdgflgdmhdaaMakeArgs
import Derived.RangeFuncFrom
namespace Go.Proofs.Ytcdhdgflgdmhdaa
open Go.RowKit Go.Shelf
attribute [local go_sem] Oper.semAt_some
set_option linter.unusedVariables false

/-- The elements, as many as k of them. -/
abbrev El (n : Nat) := { x : Nat // x < n }
def elems (n : Nat) : Nat → List (El n)
  | 0 => []
  | k + 1 => if hk : k < n then elems n k ++ [⟨k, hk⟩] else elems n k
theorem elems_succ {n k : Nat} (hk : k < n) : elems n (k + 1) = elems n k ++ [⟨k, hk⟩] := by simp [elems, hk]
theorem elems_length {n : Nat} : ∀ k, k ≤ n → (elems n k).length = k := by
  intro k
  induction k with
  | zero => intro _; rfl
  | succ k ih => intro hk; rw [elems_succ (by omega)]; simp [ih (by omega)]
theorem elems_mem {n : Nat} : ∀ k, k ≤ n → ∀ d : El n, d.1 < k → d ∈ elems n k := by
  intro k
  induction k with
  | zero => intro _ d hd; omega
  | succ k ih =>
    intro hk d hd
    rw [elems_succ (by omega)]
    by_cases e : d.1 = k
    · exact List.mem_append.2 (.inr (by have : d = ⟨k, by omega⟩ := Subtype.ext e; simp [this]))
    · exact List.mem_append.2 (.inl (ih (by omega) d (by omega)))
theorem elems_last {n k : Nat} (hk : k ≤ n) {pre : List (El n)} {d : El n} (h : pre ++ [d] = elems n k) : pre = elems n d.1 ∧ d.1 + 1 = k := by
  cases k with
  | zero => simp [elems] at h
  | succ j =>
    rw [elems_succ (by omega)] at h
    obtain ⟨h1, h2⟩ := List.append_inj' h rfl
    have : d = ⟨j, by omega⟩ := by simpa using h2
    have e1 : d.1 = j := by rw [this]
    exact ⟨by rw [e1]; exact h1, by omega⟩

set_option maxRecDepth 100000 in
set_option maxHeartbeats 2000000 in
theorem elements_yields (m P n : Nat) (hF : Fld m P n) (l B c : Nat) (J Jx : List (El n) → World → Prop)
    (hY : ∀ pre x W, J pre W → pre.length < n → YieldAt Fence.wide 7 Try.prog l #[.int .u8 (x.1 : Int)] W fun e W' =>
      (e = .returned (.bool true) ∧ J (pre ++ [x]) W' ∧ True) ∨ (e = .returned (.bool false) ∧ Jx (pre ++ [x]) W'))
    (W : World) (hB : W.cell? ⟨B, 0, none⟩ = some (.pointer (some ⟨c, 0, none⟩))) (hD : W.cell? ⟨c, 0, none⟩ = some (.int .i64 m)) (h0 : J [] W) :
    CallsIn Fence.wide 8 Try.prog 142 #[.func (.yield l) #[] #[], .pointer (some ⟨B, 0, none⟩)] W fun e W' => (∃ v, e = .returned v) ∧
      ((∃ ys, ys = elems n n ∧ J ys W') ∨ (∃ pre, (∃ k, k ≤ n ∧ pre = elems n k) ∧ Jx pre W')) := by
  have h32 := hF.n32
  refine callsIn_of_wp Try.func142 rfl trivial ?_ rfl
  simp only [Try.ntmps142, List.size_toArray, List.length_cons, List.length_nil, Nat.reduceAdd, Nat.reduceSub, Array.replicate_succ, Array.replicate_zero, List.push_toArray, List.append_toArray, List.nil_append, List.cons_append]
  gi_wp2_with (refine ⟨trivial, ?_⟩; gi_at_call 97; refine (callsIn_wide.2 (size_any c m P n hF _ hD)).mono ?_; rintro e w' ⟨rfl, rfl⟩)
  gi_loopw [3, 6] (fun _ i wr => ∃ k : Nat, k ≤ n ∧ i = .int .i64 k ∧ J (elems n k) wr)
    (fun _ i _ => n - (intOf i).toNat)
  case atStart => exact ⟨0, Nat.zero_le _, rfl, h0⟩
  case round =>
    obtain ⟨k, hk, rfl, hJs⟩ := hrel
    by_cases hlt : k < n
    · obtain ⟨fn, tmps, assign, body, hy, hR⟩ := hY _ ⟨k, hlt⟩ wr hJs (by rw [elems_length k hk]; exact hlt)
      have HJ := Lib.hid (elems_succ (n := n) (k := k) hlt)
      have e1 : IntKind.u8.wrap (k : Int) = k := by rw [IntKind.wrap_u8']; omega
      dsimp only at hy
      gi_wp2
      refine hR.mono ?_
      rintro e W3 (⟨rfl, hJ3, hk3⟩ | ⟨rfl, hJx3⟩)
      · gi_wp2
        go_roundw
        case rel => exact ⟨k + 1, by omega, by go_num, by rw [HJ.out]; exact hJ3⟩
        case measure => simp [intOf]; omega
      · gi_wp2
        refine bodyPost_ret (results_none rfl _ _ _) rfl ?_
        exact ⟨⟨_, rfl⟩, .inr ⟨_, ⟨k + 1, by omega, HJ.out.symm⟩, hJx3⟩⟩
    · obtain rfl : k = n := by omega
      gi_wp2
      go_end0
      exact ⟨⟨_, rfl⟩, .inl ⟨_, rfl, hJs⟩⟩

theorem elements_stops (m P n : Nat) (hF : Fld m P n) (B c : Nat) (w : World) (hB : w.cell? ⟨B, 0, none⟩ = some (.pointer (some ⟨c, 0, none⟩))) (hlt : B < w.heap.size) (hD : w.cell? ⟨c, 0, none⟩ = some (.int .i64 m)) (hc : c < w.heap.size) :
    SeqStopsK Fence.wide 8 Try.prog 142 #[.pointer (some ⟨B, 0, none⟩)] (fun x : El n => #[.int .u8 (x.1 : Int)]) (fun _ _ => True) (fun ys => ys = elems n n) (fun pre => ∃ k, k ≤ n ∧ pre = elems n k) n w :=
  fun l J Jx W hW _ _ hY h0 => elements_yields m P n hF l B c J Jx hY W ((hW.cell (p := ⟨B, 0, none⟩) hlt).trans hB) ((hW.cell (p := ⟨c, 0, none⟩) hc).trans hD) h0

set_option maxHeartbeats 400000 in
theorem elements_any (v : Value) (w : World) (c : Nat) (hv : v = .pointer (some ⟨c, 0, none⟩)) :
    Calls Try.prog 123 #[.pointer (some ⟨c, 0, none⟩)] w fun e w' => e = .returned (.func (.func 142) #[] #[.pointer (some ⟨w.heap.size, 0, none⟩)]) ∧ w.alloc (.cells #[.pointer (some ⟨c, 0, none⟩)] 71) = w' := by
  have hmf : ∀ (fn : Fn) (first cap : Array Value) (w : World), (Instr.makeFunc fn first cap).run Try.prog w = .ok (.func fn first cap) w := fun _ _ _ _ => rfl
  go_enter Try.func123, Try.ntmps123
  go_wp2
  go_ret
  exact ⟨rfl, rfl⟩
end Go.Proofs.Ytcdhdgflgdmhdaa
