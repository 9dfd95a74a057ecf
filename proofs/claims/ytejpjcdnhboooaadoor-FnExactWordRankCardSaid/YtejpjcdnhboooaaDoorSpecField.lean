/- The reference model's fields: what its functions return. -/
import Derived.Test.YtejpjcdnhboooaaDoorSpecIrr
import Derived.Test.YtejpjcdnhboooaaDoorIn
import Derived.Deep.QuietTactic
import Derived.BigQuiet
namespace Go.Proofs.YtejpjcdnhboooaaDoor
open Go.RowKit
set_option linter.unusedVariables false

theorem bcell {W w1 : World} (hb : Below W.heap.size W w1) : (∀ b o, b < W.heap.size → w1.cell? ⟨b, o, none⟩ = W.cell? ⟨b, o, none⟩) ∧ (∀ b o, b < W.heap.size → w1.frozen? ⟨b, o, none⟩ = W.frozen? ⟨b, o, none⟩) :=
  ⟨fun b o h => hb.cell (p := ⟨b, o, none⟩) h, fun b o h => hb.frozen (p := ⟨b, o, none⟩) h⟩

/-- Whether a degree and a polynomial are a field. -/
def fldI (d p : Int) : Bool := irrI p && decide ((nb p.toNat : Int) - 1 = d)
theorem irrI_nat {p : Int} (h : irrI p = true) : ∃ n : Nat, p = n ∧ irr n = true ∧ n < 64 := by
  unfold irrI at h
  simp at h
  exact ⟨p.toNat, by omega, h.2, by omega⟩
theorem fldI_nat {d p : Int} (h : fldI d p = true) : ∃ m P : Nat, d = m ∧ p = P ∧ fld m P = true := by
  unfold fldI at h
  simp only [Bool.and_eq_true, decide_eq_true_eq] at h
  obtain ⟨n, rfl, hi, hn⟩ := irrI_nat h.1
  have hb := irr_nb hi
  refine ⟨nb n - 1, n, ?_, rfl, ?_⟩
  · have := h.2; simp at this; omega
  · unfold fld; rw [hi]; simp; omega
theorem fldI_of {m P : Nat} (h : fld m P = true) : fldI m P = true := by
  have h1 := fld_irr h
  have h2 := fld_nb h
  have h3 := irr_lt h1
  unfold fldI irrI
  simp [h1]; omega

theorem specIsIrreducible_eq (p : Int) (b : Bool) (h : irrI p = b) (w : World) :
    Calls Tryd.prog 42 #[.int .i64 p] w fun e w' => e = .returned (.bool b) ∧ w = w' := by
  rw [← h]; exact specIsIrreducible_any p w

set_option maxHeartbeats 400000 in
theorem l01Ok_in (d p : Int) (w : World) :
    Calls Tryd.prog 26 #[.agg #[.int .i64 d, .int .i64 p]] w fun e w' => e = .returned (.bool (fldI d p)) ∧ Below w.heap.size w w' := by
  by_cases h1 : 1 ≤ d ∧ d ≤ 5
  · obtain ⟨h1, h2⟩ := h1
    cases hi : irrI p with
    | false =>
      have HF := Lib.hid (show fldI d p = false by unfold fldI; rw [hi]; rfl)
      have HI := Lib.hid hi
      clear hi
      go_enter Tryd.func26, Tryd.ntmps26
      go_wp2
      go_quiet ((first | (go_at_call 41; exact quiet_of_eq (l00In_yes _ _ _ h1 h2 _)) | (go_at_call 42; exact quiet_of_eq (specIsIrreducible_eq _ _ HI.out _)) | (go_at_call 43; exact quiet_of_eq (l01Degree_any _ (by omega) _))))
      go_wp2
      go_ret
      exact ⟨ret_bool HF.out.symm, below_drewN ((Below.refl _ w).alloc (Nat.le_refl _) _) _⟩
    | true =>
      obtain ⟨n, rfl, hn, hlt⟩ := irrI_nat hi
      have hb := irr_nb hn
      have HF := Lib.hid (show fldI d n = decide ((nb n : Int) - 1 = d) by unfold fldI; rw [hi]; simp)
      have HI := Lib.hid hi
      clear hi hn
      go_enter Tryd.func26, Tryd.ntmps26
      go_wp2
      go_quiet ((first | (go_at_call 41; exact quiet_of_eq (l00In_yes _ _ _ h1 h2 _)) | (go_at_call 42; exact quiet_of_eq (specIsIrreducible_eq _ _ HI.out _)) | (go_at_call 43; exact quiet_of_eq (l01Degree_any _ (by omega) _))))
      go_wp2
      go_ret
      exact ⟨ret_bool (by rw [HF.out]; exact Bool.eq_iff_iff.2 (by simp)), below_drewN ((Below.refl _ w).alloc (Nat.le_refl _) _) _⟩
  · have HF := Lib.hid (show fldI d p = false by
      cases hf : fldI d p with
      | false => rfl
      | true => obtain ⟨m, P, hm, _, hq⟩ := fldI_nat hf
                have := fld_deg hq
                omega)
    have HI := Lib.hid (show irrI p = irrI p from rfl)
    go_enter Tryd.func26, Tryd.ntmps26
    go_wp2
    go_quiet ((first | (go_at_call 41; exact quiet_of_eq (l00In_no _ _ _ (by omega) _)) | (go_at_call 42; exact quiet_of_eq (specIsIrreducible_eq _ _ HI.out _)) | (go_at_call 43; exact quiet_of_eq (l01Degree_any _ (by omega) _))))
    go_wp2
    go_ret
    exact ⟨ret_bool HF.out.symm, below_drewN ((Below.refl _ w).alloc (Nat.le_refl _) _) _⟩

end Go.Proofs.YtejpjcdnhboooaaDoor
