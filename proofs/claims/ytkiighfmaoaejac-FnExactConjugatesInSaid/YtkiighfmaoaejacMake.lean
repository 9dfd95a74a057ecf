/- The program's calculator: it is made. -/
import Derived.Test.YtkiighfmaoaejacFill
import Derived.Test.YtkiighfmaoaejacToField
import Derived.Test.YtkiighfmaoaejacZero
namespace Go.Proofs.Ytkiighfmaoaejac
open Go.RowKit
set_option linter.unusedVariables false

theorem validField_eq (d p : Int) (b : Bool) (h : fldI d p = b) (hl : -9223372036854775808 ≤ p) (hh : p ≤ 9223372036854775807) (w : World) :
    Calls Try.prog 61 #[.agg #[.int .i64 d, .int .i64 p]] w fun e w' => e = .returned (.bool b) ∧ Below w.heap.size w w' := by
  rw [← h]; exact validField_any d p hl hh w

set_option maxHeartbeats 400000 in
theorem calculatorFor_invalid (d p : Int) (hf : fldI d p = false) (hl : -9223372036854775808 ≤ p) (hh : p ≤ 9223372036854775807) (sv : Value) (w : World) :
    Calls Try.prog 41 #[.agg #[.int .i64 d, .int .i64 p], sv] w fun e w' => e = .returned (.tuple #[.pointer none, .int .i64 1]) ∧ Below w.heap.size w w' := by
  have HF := Lib.hid hf
  clear hf
  go_enter Try.func41, Try.ntmps41
  go_wp2_with (go_at_call 61; refine (validField_eq _ _ _ HF.out hl hh _).mono ?_; rintro e w1 ⟨rfl, hb⟩)
  go_ret2
  exact ⟨rfl, ((Below.refl _ w).alloc (Nat.le_refl _) _).trans (hb.mono (by simp))⟩

/-- A new calculator's block. -/
structure Fresh (c m : Nat) (W : World) : Prop where
  deg : W.cell? ⟨c, 0, none⟩ = some (.int .i64 m)
  frz : ∀ x, x < 1025 → W.frozen? ⟨c, x, none⟩ = false
  old : ∀ x, x < 1025 → ∃ v, W.cell? ⟨c, x, none⟩ = some v
theorem Fresh.filled {c m P n : Nat} {W W' : World} (h : Fresh c m W) (e : W'.heap = W.heap) : Filled c m P n W' W' 0 0 := by
  have hc : ∀ a, W'.cell? a = W.cell? a := fun a => by unfold World.cell?; rw [e]
  have hf : ∀ a, W'.frozen? a = W.frozen? a := fun a => by unfold World.frozen?; rw [e]
  exact ⟨Below.refl _ _, by rw [hc]; exact h.deg, fun x hx => by rw [hf]; exact h.frz x hx, fun x hx => by rw [hc]; exact h.old x hx, fun a b _ _ hab => by omega, rfl⟩

theorem cell_of_cells {W : World} {B x : Nat} {cs : Array Value} {t : TypeId} (h : W.heap[B]? = some (.cells cs t (0, 0))) : W.cell? ⟨B, x, none⟩ = cs[x]? ∧ W.frozen? ⟨B, x, none⟩ = false := by
  constructor <;> simp [World.cell?, World.frozen?, h]
theorem fresh_new (m : Nat) (w : World) : Fresh w.heap.size m (w.alloc (.cells (Try.zeroCells71.setIfInBounds 0 (.int .i64 m)) 71)) := by
  have h := World.alloc_heap_new w (.cells (Try.zeroCells71.setIfInBounds 0 (.int .i64 m)) 71)
  refine ⟨?_, fun x _ => (cell_of_cells h).2, fun x hx => ?_⟩
  · rw [(cell_of_cells h).1]
    simp
  · rw [(cell_of_cells h).1]
    have : x < (Try.zeroCells71.setIfInBounds 0 (.int .i64 m)).size := by simp; omega
    exact ⟨_, Array.getElem?_eq_getElem this⟩

set_option maxHeartbeats 1000000 in
theorem calculatorFor_none (m P n : Nat) (hF : Fld m P n) (w : World) :
    Calls Try.prog 41 #[.agg #[.int .i64 m, .int .i64 P], .slice none 0 0] w fun e w' => ∃ c, e = .returned (.tuple #[.pointer (some ⟨c, 0, none⟩), .int .i64 0]) ∧ Below w.heap.size w w' ∧ Calc c m P n w' ∧ w.heap.size ≤ c := by
  have HF := Lib.hid (fldI_of hF.f)
  have hP := hF.P64
  have hmf : ∀ (fn : Fn) (first cap : Array Value) (w : World), (Instr.makeFunc fn first cap).run Try.prog w = .ok (.func fn first cap) w := fun _ _ _ _ => rfl
  have hzv := Try.zeroValue71
  go_enter Try.func41, Try.ntmps41
  go_wp2_with fail
  have h0 := FAt.start w m P 23
  refine (validField_eq _ _ _ HF.out (by omega) (by omega) _).mono ?_
  rintro e w1 ⟨rfl, hb⟩
  have h1 := h0.next hb
  have z1 := h1.z; have c1 := h1.c0; have d1 := h1.c1
  clear hb h0
  go_wp2_with fail
  have g1 := h1.alloc (.cells (Try.zeroCells71.setIfInBounds 0 (.int .i64 m)) 71)
  have fr := fresh_new m w1
  have hcB : w.heap.size < w1.heap.size := by omega
  have zz : (w1.alloc (.cells (Try.zeroCells71.setIfInBounds 0 (.int .i64 m)) 71)).heap.size = w1.heap.size + 1 := by simp
  generalize w1.alloc (.cells (Try.zeroCells71.setIfInBounds 0 (.int .i64 m)) 71) = W at g1 fr zz ⊢
  generalize w1.heap.size = c at fr hcB zz z1 ⊢
  clear h1 c1 d1
  go_loop [18] (fun i => i = .int .i64 0) (fun i => 0)
  case atStart => exact rfl
  case round =>
    subst hrel
    go_wp2
    have hP1 := g1.c1
    have hD := fr.deg
    go_region_with (first | (go_at_call 63; refine (size_any c m P n hF _ (by exact hD)).mono ?_; rintro e w' ⟨rfl, rfl⟩) | (go_at_call 62; refine (fill_any c w.heap.size m P n hcB hF _ (by exact hP1) (fr.filled (by rfl))).mono ?_; rintro e w2 ⟨rfl, hfi⟩))
    all_goals
      clear hP1 hD
      go_wp2
      go_ret2
      exact ⟨c, rfl, g1.b.drew.trans (hfi.b.mono (by omega)), ⟨hfi.deg, fun a b ha hb => hfi.tab a b ha hb (.inl ha)⟩, by omega⟩
set_option maxHeartbeats 1000000 in
theorem calculatorFor_some (m P n : Nat) (hF : Fld m P n) (w : World) (sb off len cap : Nat) (zs : List Int) (hsb : sb < w.heap.size) (hlen : len ≤ 140737488351232) (hz : ∀ j, j < len → w.cell? ⟨sb, off + j, none⟩ = some (.int .i64 (zs[j]?.getD 0))) (hin : ∀ j, j < len → 0 ≤ zs[j]?.getD 0 ∧ zs[j]?.getD 0 < n) :
    Calls Try.prog 41 #[.agg #[.int .i64 m, .int .i64 P], .slice (some ⟨sb, off, none⟩) len cap] w fun e w' => ∃ c, e = .returned (.tuple #[.pointer (some ⟨c, 0, none⟩), .int .i64 0]) ∧ Below w.heap.size w w' ∧ Calc c m P n w' ∧ w.heap.size ≤ c := by
  have HF := Lib.hid (fldI_of hF.f)
  have hP := hF.P64
  have hmf : ∀ (fn : Fn) (first cap : Array Value) (w : World), (Instr.makeFunc fn first cap).run Try.prog w = .ok (.func fn first cap) w := fun _ _ _ _ => rfl
  have hzv := Try.zeroValue71
  go_enter Try.func41, Try.ntmps41
  go_wp2_with fail
  have h0 := FAt.start w m P 23
  refine (validField_eq _ _ _ HF.out (by omega) (by omega) _).mono ?_
  rintro e w1 ⟨rfl, hb⟩
  have h1 := h0.next hb
  have z1 := h1.z; have c1 := h1.c0; have d1 := h1.c1
  clear hb h0
  go_wp2_with fail
  have g1 := h1.alloc (.cells (Try.zeroCells71.setIfInBounds 0 (.int .i64 m)) 71)
  have fr := fresh_new m w1
  have hcB : w.heap.size < w1.heap.size := by omega
  have zz : (w1.alloc (.cells (Try.zeroCells71.setIfInBounds 0 (.int .i64 m)) 71)).heap.size = w1.heap.size + 1 := by simp
  generalize w1.alloc (.cells (Try.zeroCells71.setIfInBounds 0 (.int .i64 m)) 71) = W at g1 fr zz ⊢
  generalize w1.heap.size = c at fr hcB zz z1 ⊢
  clear h1 c1 d1
  have hzW : ∀ j, j < len → W.cell? ⟨sb, off + j, none⟩ = some (.int .i64 (zs[j]?.getD 0)) := fun j hj => (g1.b.cell (p := ⟨sb, off + j, none⟩) hsb).trans (hz j hj)
  clear hz
  have HZ := Lib.hid hzW
  have HI := Lib.hid hin
  clear hzW hin
  go_loop [18] (fun i => ∃ k : Nat, k ≤ len ∧ i = .int .i64 k) (fun i => len - (intOf i).toNat)
  case atStart => exact ⟨0, Nat.zero_le _, rfl⟩
  case round =>
    obtain ⟨k, hk, rfl⟩ := hrel
    by_cases hlt : k < len
    · have hzk := HZ.out k hlt
      have hi0 := (HI.out k hlt).1
      have hi1 := (HI.out k hlt).2
      have hD := fr.deg
      go_wp2_with (go_at_call 54; refine (has_yes c m P n hF _ hi0 hi1 _ hD).mono ?_; rintro e w' ⟨rfl, rfl⟩)
      go_round
      case rel => exact ⟨k + 1, by omega, by go_num⟩
      case measure => simp [intOf]; omega
    obtain rfl : k = len := by omega
    go_wp2
    have hP1 := g1.c1
    have hD := fr.deg
    go_region_with (first | (go_at_call 63; refine (size_any c m P n hF _ (by exact hD)).mono ?_; rintro e w' ⟨rfl, rfl⟩) | (go_at_call 62; refine (fill_any c w.heap.size m P n hcB hF _ (by exact hP1) (fr.filled (by rfl))).mono ?_; rintro e w2 ⟨rfl, hfi⟩))
    all_goals
      clear hP1 hD
      go_wp2
      go_ret2
      exact ⟨c, rfl, g1.b.drew.trans (hfi.b.mono (by omega)), ⟨hfi.deg, fun a b ha hb => hfi.tab a b ha hb (.inl ha)⟩, by omega⟩
end Go.Proofs.Ytkiighfmaoaejac
