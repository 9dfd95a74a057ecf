/- A field and a list of elements: the model's check. -/
import Derived.Test.YtlchelaohiojiaaDoorWr
import Derived.Test.YtlchelaohiojiaaDoorInv
import Derived.Test.YtlchelaohiojiaaDoorIn
import Derived.Test.YtlchelaohiojiaaDoorDivPure
namespace Go.Proofs.YtlchelaohiojiaaDoor
open Go.RowKit Go.Joins
set_option linter.unusedVariables false
set_option linter.unusedSimpArgs false

set_option maxHeartbeats 800000 in
theorem l01List_A (d p : Int) (hf : fldI d p = false) (v : Value) (w : World) :
    Calls Tryd.prog 54 #[.agg #[.int .i64 d, .int .i64 p], v] w fun e w' => e = .returned (.int .i64 1) ∧ Below w.heap.size w w' := by
  have HF := Lib.hid hf
  clear hf
  go_enter Tryd.func54, Tryd.ntmps54
  go_wp2_with fail
  refine (l01Ok_eq _ _ _ HF.out _).mono ?_
  rintro e w1 ⟨rfl, hb⟩
  go_wp2
  go_ret
  exact ⟨rfl, ((Below.refl _ w).alloc (Nat.le_refl _) _).trans (hb.mono (by simp))⟩
/-- The code for numbers that are elements, and for others. -/
def cIn (b : Bool) : Int := if b then 0 else 2
set_option maxHeartbeats 1600000 in
theorem l01List_any (m P n : Nat) (hF : Fld m P n) (b len cap : Nat) (zs : List Int) (w : World) (hM : Mt w b len zs) :
    Calls Tryd.prog 54 #[.agg #[.int .i64 m, .int .i64 P], .slice (some ⟨b, 0, none⟩) len cap] w fun e w' => e = .returned (.int .i64 (cIn (allIn n zs))) ∧ Below w.heap.size w w' := by
  obtain ⟨r, hr⟩ : ∃ r, allIn n zs = r := ⟨_, rfl⟩
  rw [hr]
  have HR := Lib.hid hr
  clear hr
  have HF := Lib.hid (fldI_of hF.f)
  have hl := hM.len
  have hs := hM.small
  have h32 := hF.n32
  have hbl := hM.lt
  have HM := Lib.hid hM
  clear hM
  have ew : IntKind.i64.wrap ((n : Int) - 1) = (n : Int) - 1 := by rw [IntKind.wrap_i64]; omega
  go_enter Tryd.func54, Tryd.ntmps54
  have hA00 := FAt.start w m P 25
  go_wp2_with fail
  refine (l01Ok_eq _ _ _ HF.out _).mono ?_
  rintro e w1 ⟨rfl, hb1⟩
  have hA01 := Lib.hid (hA00.next hb1)
  clear hb1 hA00
  go_wp2_with fail
  go_loopw [5] (fun i wr => ∃ k : Nat, k ≤ len ∧ i = .int .i64 k ∧ FAt w m P wr ∧ Hid (∀ j, j < k → 0 ≤ zs[j]?.getD 0 ∧ zs[j]?.getD 0 < n)) (fun i _ => len - (intOf i).toNat)
  case atStart => exact ⟨0, Nat.zero_le _, rfl, hA01.out, Lib.hid (fun j hj => by omega)⟩
  case round =>
    obtain ⟨k, hk, rfl, hA0, HI⟩ := hrel
    clear hA01
    have hA := hA0.drew
    by_cases hlt : k < len
    · have hck := (HM.out.below hA0.b).cell k hlt
      obtain ⟨z, hz⟩ : ∃ z, zs[k]?.getD 0 = z := ⟨_, rfl⟩
      rw [hz] at hck
      have HZ := Lib.hid hz
      clear hz
      have hck' : wr.drew.cell? ⟨b, k, none⟩ = some (.int .i64 z) := hck
      by_cases hin : 0 ≤ z ∧ z < n
      · obtain ⟨hi0, hi1⟩ := hin
        go_wp2
        go_region_held3 (fun w' => w'.cell? ⟨w.heap.size, 0, none⟩ = some (.int .i64 m) ∧ w'.cell? ⟨w.heap.size, 1, none⟩ = some (.int .i64 P) ∧ w'.cell? ⟨b, k, none⟩ = some (.int .i64 z) ∧ FAt w m P w') (first | exact ⟨hA.c0, hA.c1, hck', hA⟩ | exact ⟨by assumption, by assumption, by assumption, by assumption⟩) (first | (go_at_call 37; refine (l01Size_any _ _ _ hF _).mono ?_; rintro e w1 ⟨rfl, hb1⟩; have k1 : FAt w m P w1 := FAt.next (by assumption) hb1; have q0 := k1.c0; have q1 := k1.c1; have q2 := (HM.out.below k1.b).cell k hlt; rw [HZ.out] at q2; clear hb1) | (go_at_call 81; refine (l00In_yes _ _ _ (by omega) (by omega) _).mono ?_; rintro e w' ⟨rfl, rfl⟩))
        all_goals go_wp2
        all_goals go_roundw
        case rel => exact ⟨k + 1, by omega, by go_num, by assumption, Lib.hid (fun j hj => by
          by_cases e : j = k
          · subst e; rw [HZ.out]; exact ⟨hi0, hi1⟩
          · exact HI.out j (by omega))⟩
        case measure => simp [intOf]; omega
      · have hno : z < 0 ∨ (n : Int) ≤ z := by omega
        have HN := Lib.hid hno
        clear hno hin
        go_wp2
        go_region_held3 (fun w' => w'.cell? ⟨w.heap.size, 0, none⟩ = some (.int .i64 m) ∧ w'.cell? ⟨w.heap.size, 1, none⟩ = some (.int .i64 P) ∧ w'.cell? ⟨b, k, none⟩ = some (.int .i64 z) ∧ FAt w m P w') (first | exact ⟨hA.c0, hA.c1, hck', hA⟩ | exact ⟨by assumption, by assumption, by assumption, by assumption⟩) (first | (go_at_call 37; refine (l01Size_any _ _ _ hF _).mono ?_; rintro e w1 ⟨rfl, hb1⟩; have k1 : FAt w m P w1 := FAt.next (by assumption) hb1; have q0 := k1.c0; have q1 := k1.c1; have q2 := (HM.out.below k1.b).cell k hlt; rw [HZ.out] at q2; clear hb1) | (go_at_call 81; refine (l00In_no _ _ _ (by have := HN.out; omega) _).mono ?_; rintro e w' ⟨rfl, rfl⟩))
        all_goals go_wp2
        all_goals go_ret
        all_goals exact ⟨ret_int (by rw [← HR.out, allIn_no k (by omega) (by rw [HZ.out]; exact HN.out)]; rfl), FAt.b (by assumption)⟩
    obtain rfl : k = len := by omega
    go_wp2
    go_ret
    exact ⟨ret_int (by rw [← HR.out, allIn_yes (fun j hj => HI.out j (by omega))]; rfl), hA0.b⟩
end Go.Proofs.YtlchelaohiojiaaDoor
