/- The program's calculator: it is not made where a number is no element. -/
import Derived.Test.YtkiighfmaoaejacMake
namespace Go.Proofs.Ytkiighfmaoaejac
open Go.RowKit
set_option linter.unusedVariables false

set_option maxHeartbeats 1000000 in
theorem calculatorFor_no (m P n : Nat) (hF : Fld m P n) (w : World) (sb off len cap : Nat) (zs : List Int) (hsb : sb < w.heap.size) (hlen : len ≤ 140737488351232) (hz : ∀ j, j < len → w.cell? ⟨sb, off + j, none⟩ = some (.int .i64 (zs[j]?.getD 0))) (k0 : Nat) (hk0 : k0 < len) (hno : zs[k0]?.getD 0 < 0 ∨ (n : Int) ≤ zs[k0]?.getD 0) (hin : ∀ j, j < k0 → 0 ≤ zs[j]?.getD 0 ∧ zs[j]?.getD 0 < n) :
    Calls Try.prog 41 #[.agg #[.int .i64 m, .int .i64 P], .slice (some ⟨sb, off, none⟩) len cap] w fun e w' => e = .returned (.tuple #[.pointer none, .int .i64 2]) ∧ Below w.heap.size w w' := by
  have HF := Lib.hid (fldI_of hF.f)
  have hP := hF.P64
  have hzv := Try.zeroValue71
  go_enter Try.func41, Try.ntmps41
  go_wp2_with fail
  have h0 := FAt.start w m P 23
  refine (validField_eq _ _ _ HF.out (by omega) (by omega) _).mono ?_
  rintro e w1 ⟨rfl, hb⟩
  have h1 := h0.next hb
  have z1 := h1.z; have c1 := h1.c0; have d1 := h1.c1
  clear hb h0
  go_wp2_with fail
  have g1 := h1.alloc (.cells (Try.zeroCells71.setIfInBounds 0 (.int .i64 m)) 71)
  have fr := fresh_new m w1
  generalize w1.alloc (.cells (Try.zeroCells71.setIfInBounds 0 (.int .i64 m)) 71) = W at g1 fr ⊢
  generalize w1.heap.size = c at fr z1 ⊢
  clear h1 c1 d1
  have hzW : ∀ j, j < len → W.cell? ⟨sb, off + j, none⟩ = some (.int .i64 (zs[j]?.getD 0)) := fun j hj => (g1.b.cell (p := ⟨sb, off + j, none⟩) hsb).trans (hz j hj)
  clear hz
  have HZ := Lib.hid hzW
  have HI := Lib.hid hin
  have HN := Lib.hid hno
  clear hzW hin hno
  go_loop [18] (fun i => ∃ k : Nat, k ≤ k0 ∧ i = .int .i64 k) (fun i => len - (intOf i).toNat)
  case atStart => exact ⟨0, Nat.zero_le _, rfl⟩
  case round =>
    obtain ⟨k, hk, rfl⟩ := hrel
    by_cases hlt : k < k0
    · have hzk := HZ.out k (by omega)
      have hi0 := (HI.out k hlt).1
      have hi1 := (HI.out k hlt).2
      have hD := fr.deg
      have hkl : k < len := by omega
      go_wp2_with (go_at_call 54; refine (has_yes c m P n hF _ hi0 hi1 _ hD).mono ?_; rintro e w' ⟨rfl, rfl⟩)
      go_round
      case rel => exact ⟨k + 1, by omega, by go_num⟩
      case measure => simp [intOf]; omega
    obtain rfl : k = k0 := by omega
    have hzk := HZ.out k (by omega)
    have hD := fr.deg
    go_wp2_with (go_at_call 54; refine (has_no c m P n hF _ HN.out _ hD).mono ?_; rintro e w' ⟨rfl, rfl⟩)
    go_ret2
    exact ⟨rfl, g1.b⟩
end Go.Proofs.Ytkiighfmaoaejac
