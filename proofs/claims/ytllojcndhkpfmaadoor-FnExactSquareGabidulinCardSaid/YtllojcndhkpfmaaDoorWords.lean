/- Words over a field: the program's and the model's checks, and the elements of a list. -/
import Derived.Test.YtllojcndhkpfmaaDoorWr
import Derived.Test.YtllojcndhkpfmaaDoorSpecMul
import Derived.Test.YtllojcndhkpfmaaDoorIn
import Derived.Test.YtllojcndhkpfmaaDoorDivPure
import Derived.Test.YtllojcndhkpfmaaDoorMake
import Derived.Test.YtllojcndhkpfmaaDoorLength
import Derived.Test.YtllojcndhkpfmaaDoorInfoE
import Derived.Test.YtllojcndhkpfmaaDoorElemsOf
namespace Go.Proofs.YtllojcndhkpfmaaDoor
open Go.RowKit Go.Joins
set_option linter.unusedVariables false

set_option maxHeartbeats 1600000 in
theorem l04Elements_any (m P n : Nat) (hF : Fld m P n) (b len cap : Nat) (zs : List Int) (w : World) (hM : Mt w b len zs) :
    Calls Tryd.prog 37 #[.agg #[.int .i64 m, .int .i64 P], .slice (some ⟨b, 0, none⟩) len cap] w fun e w' => e = .returned (.bool (allIn n zs)) ∧ Below w.heap.size w w' := by
  obtain ⟨r, hr⟩ : ∃ r, allIn n zs = r := ⟨_, rfl⟩
  rw [hr]
  have HR := Lib.hid hr
  clear hr
  have hl := hM.len
  have hs := hM.small
  have h32 := hF.n32
  have hbl := hM.lt
  have HM := Lib.hid hM
  clear hM
  have ew : IntKind.i64.wrap ((n : Int) - 1) = (n : Int) - 1 := by rw [IntKind.wrap_i64]; omega
  go_enter Tryd.func37, Tryd.ntmps37
  go_wp2
  go_loopw [5] (fun i wr => ∃ k : Nat, k ≤ len ∧ i = .int .i64 k ∧ FAt w m P wr ∧ Hid (∀ j, j < k → 0 ≤ zs[j]?.getD 0 ∧ zs[j]?.getD 0 < n)) (fun i _ => len - (intOf i).toNat)
  case atStart => exact ⟨0, Nat.zero_le _, rfl, FAt.start w m P 28, Lib.hid (fun j hj => by omega)⟩
  case round =>
    obtain ⟨k, hk, rfl, hA0, HI⟩ := hrel
    have hA := hA0.drew
    by_cases hlt : k < len
    · have hck := (HM.out.below hA0.b).cell k hlt
      obtain ⟨z, hz⟩ : ∃ z, zs[k]?.getD 0 = z := ⟨_, rfl⟩
      rw [hz] at hck
      have HZ := Lib.hid hz
      clear hz
      have hck' : wr.drew.cell? ⟨b, k, none⟩ = some (.int .i64 z) := hck
      by_cases hin : 0 ≤ z ∧ z < n
      · obtain ⟨hi0, hi1⟩ := hin
        go_wp2
        go_region_held3 (fun w' => w'.cell? ⟨w.heap.size, 0, none⟩ = some (.int .i64 m) ∧ w'.cell? ⟨w.heap.size, 1, none⟩ = some (.int .i64 P) ∧ w'.cell? ⟨b, k, none⟩ = some (.int .i64 z) ∧ FAt w m P w') (first | exact ⟨hA.c0, hA.c1, hck', hA⟩ | exact ⟨by assumption, by assumption, by assumption, by assumption⟩) (first | (go_at_call 51; refine (l01Size_any _ _ _ hF _).mono ?_; rintro e w1 ⟨rfl, hb1⟩; have k1 : FAt w m P w1 := FAt.next (by assumption) hb1; have q0 := k1.c0; have q1 := k1.c1; have q2 := (HM.out.below k1.b).cell k hlt; rw [HZ.out] at q2; clear hb1) | (go_at_call 13; refine (l00In_yes _ _ _ (by omega) (by omega) _).mono ?_; rintro e w' ⟨rfl, rfl⟩))
        all_goals go_wp2
        all_goals go_roundw
        case rel => exact ⟨k + 1, by omega, by go_num, by assumption, Lib.hid (fun j hj => by
          by_cases e : j = k
          · subst e; rw [HZ.out]; exact ⟨hi0, hi1⟩
          · exact HI.out j (by omega))⟩
        case measure => simp [intOf]; omega
      · have hno : z < 0 ∨ (n : Int) ≤ z := by omega
        have HN := Lib.hid hno
        clear hno hin
        go_wp2
        go_region_held3 (fun w' => w'.cell? ⟨w.heap.size, 0, none⟩ = some (.int .i64 m) ∧ w'.cell? ⟨w.heap.size, 1, none⟩ = some (.int .i64 P) ∧ w'.cell? ⟨b, k, none⟩ = some (.int .i64 z) ∧ FAt w m P w') (first | exact ⟨hA.c0, hA.c1, hck', hA⟩ | exact ⟨by assumption, by assumption, by assumption, by assumption⟩) (first | (go_at_call 51; refine (l01Size_any _ _ _ hF _).mono ?_; rintro e w1 ⟨rfl, hb1⟩; have k1 : FAt w m P w1 := FAt.next (by assumption) hb1; have q0 := k1.c0; have q1 := k1.c1; have q2 := (HM.out.below k1.b).cell k hlt; rw [HZ.out] at q2; clear hb1) | (go_at_call 13; refine (l00In_no _ _ _ (by have := HN.out; omega) _).mono ?_; rintro e w' ⟨rfl, rfl⟩))
        all_goals go_wp2
        all_goals go_ret
        all_goals exact ⟨ret_bool (by rw [← HR.out]; exact (allIn_no k (by omega) (by rw [HZ.out]; exact HN.out)).symm), FAt.b (by assumption)⟩
    obtain rfl : k = len := by omega
    go_wp2
    go_ret
    exact ⟨ret_bool (by rw [← HR.out]; exact (allIn_yes (fun j hj => HI.out j (by omega))).symm), hA0.b⟩


/-- Whether a list is a word. -/
def okW (n : Nat) (zs : List Int) : Bool := decide (1 ≤ zs.length ∧ zs.length ≤ 5) && allIn n zs
theorem okW_in {n : Nat} {zs : List Int} (h : okW n zs = true) : allIn n zs = true := by simp [okW] at h; exact h.2
theorem okW_len {n : Nat} {zs : List Int} (h : okW n zs = true) : 1 ≤ zs.length ∧ zs.length ≤ 5 := by simp [okW] at h; exact h.1
theorem okW_no {n : Nat} {zs : List Int} (h : okW n zs = false) : (zs.length < 1 ∨ 5 < zs.length) ∨ allIn n zs = false := by
  simp [okW] at h
  by_cases h1 : 1 ≤ zs.length ∧ zs.length ≤ 5
  · exact .inr (h h1.1 h1.2)
  · omega


set_option maxHeartbeats 1600000 in
theorem l04Word_any (m P n : Nat) (hF : Fld m P n) (b len cap : Nat) (zs : List Int) (w : World) (hM : Mt w b len zs) :
    Calls Tryd.prog 26 #[.agg #[.int .i64 m, .int .i64 P], .slice (some ⟨b, 0, none⟩) len cap] w fun e w' => e = .returned (.bool (okW n zs)) ∧ Below w.heap.size w w' := by
  have hln := hM.len
  have hsm := hM.small
  by_cases h : 1 ≤ len ∧ len ≤ 5
  · have e : okW n zs = allIn n zs := by simp [okW, hln, h]
    rw [e]
    obtain ⟨r, hr⟩ : ∃ r, allIn n zs = r := ⟨_, rfl⟩
    rw [hr]
    have HR := Lib.hid hr
    have HM := Lib.hid hM
    clear hr hM e hln
    obtain ⟨h1, h2⟩ := h
    go_enter Tryd.func26, Tryd.ntmps26
    have h0 := FAt.start w m P 28
    go_wp2_with fail
    refine (l00In_yes _ _ _ (by omega) (by omega) _).mono ?_
    rintro e w' ⟨rfl, rfl⟩
    go_wp2_with fail
    have S := l04Elements_any m P n hF b len cap zs _ (HM.out.below h0.b)
    rw [HR.out] at S
    refine S.mono ?_
    clear S
    rintro e w1 ⟨rfl, hb⟩
    have h1 := h0.next hb
    clear hb
    go_wp2_with fail
    go_ret
    exact ⟨rfl, h1.b⟩
  · have e : okW n zs = false := by simp [okW, hln]; omega
    rw [e]
    have h3 : (len : Int) < 1 ∨ 5 < (len : Int) := by omega
    clear hM e h
    go_enter Tryd.func26, Tryd.ntmps26
    have h0 := FAt.start w m P 28
    go_wp2_with fail
    refine (l00In_no _ _ _ h3 _).mono ?_
    rintro e w' ⟨rfl, rfl⟩
    go_wp2_with fail
    go_ret
    exact ⟨rfl, h0.b⟩
theorem l04Word_eq (m P n : Nat) (hF : Fld m P n) (b len cap : Nat) (zs : List Int) (r : Bool) (hr : okW n zs = r) (w : World) (hM : Mt w b len zs) :
    Calls Tryd.prog 26 #[.agg #[.int .i64 m, .int .i64 P], .slice (some ⟨b, 0, none⟩) len cap] w fun e w' => e = .returned (.bool r) ∧ Below w.heap.size w w' := by rw [← hr]; exact l04Word_any m P n hF b len cap zs w hM

/-- The code for a word. -/
def cW (b : Bool) : Int := if b then 0 else 2
end Go.Proofs.YtllojcndhkpfmaaDoor
