/- The model's checks of elements and of linear polynomials. -/
import Derived.Test.YtdpaoabgigdlgaaWr
import Derived.Test.YtdpaoabgigdlgaaSpecMul
import Derived.Test.YtdpaoabgigdlgaaIn
import Derived.Test.YtdpaoabgigdlgaaPolyPure
namespace Go.Proofs.Ytdpaoabgigdlgaa
open Go.RowKit Go.Joins
set_option linter.unusedVariables false

set_option maxHeartbeats 1600000 in
theorem l03Elements_any (m P n : Nat) (hF : Fld m P n) (b len cap : Nat) (zs : List Int) (w : World) (hM : Mt w b len zs) :
    Calls Try.prog 123 #[.agg #[.int .i64 m, .int .i64 P], .slice (some ⟨b, 0, none⟩) len cap] w fun e w' => e = .returned (.bool (allIn n zs)) ∧ Below w.heap.size w w' := by
  obtain ⟨r, hr⟩ : ∃ r, allIn n zs = r := ⟨_, rfl⟩
  rw [hr]
  have HR := Lib.hid hr
  clear hr
  have hl := hM.len
  have hs := hM.small
  have h32 := hF.n32
  have hbl := hM.lt
  have HM := Lib.hid hM
  clear hM
  have ew : IntKind.i64.wrap ((n : Int) - 1) = (n : Int) - 1 := by rw [IntKind.wrap_i64]; omega
  go_enter Try.func123, Try.ntmps123
  go_wp2
  go_loopw [5] (fun i wr => ∃ k : Nat, k ≤ len ∧ i = .int .i64 k ∧ FAt w m P wr ∧ Hid (∀ j, j < k → 0 ≤ zs[j]?.getD 0 ∧ zs[j]?.getD 0 < n)) (fun i _ => len - (intOf i).toNat)
  case atStart => exact ⟨0, Nat.zero_le _, rfl, FAt.start w m P 27, Lib.hid (fun j hj => by omega)⟩
  case round =>
    obtain ⟨k, hk, rfl, hA0, HI⟩ := hrel
    have hA := hA0.drew
    by_cases hlt : k < len
    · have hck := (HM.out.below hA0.b).cell k hlt
      obtain ⟨z, hz⟩ : ∃ z, zs[k]?.getD 0 = z := ⟨_, rfl⟩
      rw [hz] at hck
      have HZ := Lib.hid hz
      clear hz
      have hck' : wr.drew.cell? ⟨b, k, none⟩ = some (.int .i64 z) := hck
      by_cases hin : 0 ≤ z ∧ z < n
      · obtain ⟨hi0, hi1⟩ := hin
        go_wp2
        go_region_held3 (fun w' => w'.cell? ⟨w.heap.size, 0, none⟩ = some (.int .i64 m) ∧ w'.cell? ⟨w.heap.size, 1, none⟩ = some (.int .i64 P) ∧ w'.cell? ⟨b, k, none⟩ = some (.int .i64 z) ∧ FAt w m P w') (first | exact ⟨hA.c0, hA.c1, hck', hA⟩ | exact ⟨by assumption, by assumption, by assumption, by assumption⟩) (first | (go_at_call 79; refine (l01Size_any _ _ _ hF _).mono ?_; rintro e w1 ⟨rfl, hb1⟩; have k1 : FAt w m P w1 := FAt.next (by assumption) hb1; have q0 := k1.c0; have q1 := k1.c1; have q2 := (HM.out.below k1.b).cell k hlt; rw [HZ.out] at q2; clear hb1) | (go_at_call 92; refine (l00In_yes _ _ _ (by omega) (by omega) _).mono ?_; rintro e w' ⟨rfl, rfl⟩))
        all_goals go_wp2
        all_goals go_roundw
        case rel => exact ⟨k + 1, by omega, by go_num, by assumption, Lib.hid (fun j hj => by
          by_cases e : j = k
          · subst e; rw [HZ.out]; exact ⟨hi0, hi1⟩
          · exact HI.out j (by omega))⟩
        case measure => simp [intOf]; omega
      · have hno : z < 0 ∨ (n : Int) ≤ z := by omega
        have HN := Lib.hid hno
        clear hno hin
        go_wp2
        go_region_held3 (fun w' => w'.cell? ⟨w.heap.size, 0, none⟩ = some (.int .i64 m) ∧ w'.cell? ⟨w.heap.size, 1, none⟩ = some (.int .i64 P) ∧ w'.cell? ⟨b, k, none⟩ = some (.int .i64 z) ∧ FAt w m P w') (first | exact ⟨hA.c0, hA.c1, hck', hA⟩ | exact ⟨by assumption, by assumption, by assumption, by assumption⟩) (first | (go_at_call 79; refine (l01Size_any _ _ _ hF _).mono ?_; rintro e w1 ⟨rfl, hb1⟩; have k1 : FAt w m P w1 := FAt.next (by assumption) hb1; have q0 := k1.c0; have q1 := k1.c1; have q2 := (HM.out.below k1.b).cell k hlt; rw [HZ.out] at q2; clear hb1) | (go_at_call 92; refine (l00In_no _ _ _ (by have := HN.out; omega) _).mono ?_; rintro e w' ⟨rfl, rfl⟩))
        all_goals go_wp2
        all_goals go_ret
        all_goals exact ⟨ret_bool (by rw [← HR.out]; exact (allIn_no k (by omega) (by rw [HZ.out]; exact HN.out)).symm), FAt.b (by assumption)⟩
    obtain rfl : k = len := by omega
    go_wp2
    go_ret
    exact ⟨ret_bool (by rw [← HR.out]; exact (allIn_yes (fun j hj => HI.out j (by omega))).symm), hA0.b⟩
end Go.Proofs.Ytdpaoabgigdlgaa
