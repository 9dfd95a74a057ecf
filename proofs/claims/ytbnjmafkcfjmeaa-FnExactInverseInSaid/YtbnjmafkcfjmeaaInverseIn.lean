/- InverseIn: what the model's and the program's function return. -/
import Derived.Test.YtbnjmafkcfjmeaaInv
namespace Go.Proofs.Ytbnjmafkcfjmeaa
open Go.RowKit
set_option linter.unusedVariables false

set_option maxHeartbeats 400000 in
theorem specInverseIn_A (d p : Int) (hf : fldI d p = false) (a : Int) (w : World) :
    Calls Try.prog 48 #[.agg #[.int .i64 d, .int .i64 p], .int .i64 a] w fun e w' => e = .returned (.tuple #[.int .i64 0, .int .i64 1]) ∧ Below w.heap.size w w' := by
  have HF := Lib.hid hf
  clear hf
  go_enter Try.func48, Try.ntmps48
  go_wp2_with (go_at_call 75; refine (l01Given_A _ _ HF.out _ _ _).mono ?_; rintro e w1 ⟨rfl, hb⟩)
  go_ret2
  exact ⟨rfl, ((Below.refl _ w).alloc (Nat.le_refl _) _).trans (hb.mono (by simp))⟩
set_option maxHeartbeats 400000 in
theorem specInverseIn_B (m P n : Nat) (hF : Fld m P n) (a : Int) (h : a < 0 ∨ (n : Int) ≤ a) (w : World) :
    Calls Try.prog 48 #[.agg #[.int .i64 m, .int .i64 P], .int .i64 a] w fun e w' => e = .returned (.tuple #[.int .i64 0, .int .i64 2]) ∧ Below w.heap.size w w' := by
  have HH := Lib.hid (show (a < 0 ∨ (n : Int) ≤ a) ∨ ((0 : Int) < 0 ∨ (n : Int) ≤ 0) from .inl h)
  clear h
  go_enter Try.func48, Try.ntmps48
  go_wp2_with (go_at_call 75; refine (l01Given_B _ _ _ hF _ _ HH.out _).mono ?_; rintro e w1 ⟨rfl, hb⟩)
  go_ret2
  exact ⟨rfl, ((Below.refl _ w).alloc (Nat.le_refl _) _).trans (hb.mono (by simp))⟩
set_option maxHeartbeats 400000 in
theorem implInverseIn_A (d p : Int) (hf : fldI d p = false) (hl : -9223372036854775808 ≤ p) (hh : p ≤ 9223372036854775807) (a : Int) (w : World) :
    Calls Try.prog 18 #[.agg #[.int .i64 d, .int .i64 p], .int .i64 a] w fun e w' => e = .returned (.tuple #[.int .i64 0, .int .i64 1]) ∧ Below w.heap.size w w' := by
  have HF := Lib.hid hf
  clear hf
  go_enter Try.func18, Try.ntmps18
  go_wp2_with fail
  refine (calculatorFor_invalid _ _ HF.out hl hh _ _).mono ?_
  rintro e w1 ⟨rfl, hb⟩
  have hB := ((((Below.refl _ w).alloc (Nat.le_refl _) (.cells #[.int .i64 d, .int .i64 p] 25)).alloc (by simp) (.cells #[.int .i64 a] 2)).alloc (by simp; omega) (.cells #[.int .i64 a] 2)).trans (hb.mono (by simp; omega))
  have hz : w.heap.size ≤ w1.heap.size := hB.size
  clear hb
  go_wp2
  go_ret2
  exact ⟨rfl, hB.alloc hz _⟩
set_option maxHeartbeats 400000 in
theorem implInverseIn_B (m P n : Nat) (hF : Fld m P n) (a : Int) (h : a < 0 ∨ (n : Int) ≤ a) (w : World) :
    Calls Try.prog 18 #[.agg #[.int .i64 m, .int .i64 P], .int .i64 a] w fun e w' => e = .returned (.tuple #[.int .i64 0, .int .i64 2]) ∧ Below w.heap.size w w' := by
  have HH := Lib.hid h
  clear h
  go_enter Try.func18, Try.ntmps18
  go_wp2_with fail
  have q2 := cell_new_l (w.alloc (.cells #[.int .i64 m, .int .i64 P] 25)) (.int .i64 a) 2
  have q3 := cell_new_l ((w.alloc (.cells #[.int .i64 m, .int .i64 P] 25)).alloc (.cells #[.int .i64 a] 2)) (.int .i64 a) 2
  simp only [World.size_alloc] at q2 q3
  have q4 := cell_alloc_l (.cells #[.int .i64 a] 2) q2.1
  have Q3 := Lib.hid q3.1
  have Q4 := Lib.hid q4
  clear q2 q3 q4
  refine (calcFor1_B _ _ _ hF (w.heap.size + 1 + 1) a HH.out _ (by simp) (by exact Q3.out)).mono ?_
  rintro e w1 ⟨rfl, hb⟩
  have hB := ((((Below.refl _ w).alloc (Nat.le_refl _) (.cells #[.int .i64 m, .int .i64 P] 25)).alloc (by simp) (.cells #[.int .i64 a] 2)).alloc (by simp; omega) (.cells #[.int .i64 a] 2)).trans (hb.mono (by simp; omega))
  have hz : w.heap.size ≤ w1.heap.size := hB.size
  clear hb
  go_wp2
  go_ret2
  exact ⟨rfl, hB.alloc hz _⟩
set_option maxHeartbeats 400000 in
theorem specInverseIn_C (m P n : Nat) (hF : Fld m P n) (a : Nat) (ha : a < n) (ha0 : 0 < a) (w : World) :
    Calls Try.prog 48 #[.agg #[.int .i64 m, .int .i64 P], .int .i64 a] w fun e w' => e = .returned (.tuple #[.int .i64 (pw P a (n - 2)), .int .i64 0]) ∧ Below w.heap.size w w' := by
  have hn := hF.n2
  have g0 : ((a : Int) == 0) = false := by simp; omega
  go_enter Try.func48, Try.ntmps48
  have h0 := FAt.start w m P 25
  go_wp2_with fail
  refine (l01Given_C _ _ _ hF _ 0 ha (by omega) _).mono ?_
  rintro e w1 ⟨rfl, hb1⟩
  have h1 := h0.next hb1
  have z1 := h1.z; have c1 := h1.c0; have d1 := h1.c1
  clear hb1
  go_wp2_with fail
  refine (l01Inverse_any _ _ _ hF _ ha _).mono ?_
  rintro e w2 ⟨rfl, hb2⟩
  go_wp2
  go_ret2
  exact ⟨rfl, (h1.next hb2).b⟩
set_option maxHeartbeats 1600000 in
theorem implInverseIn_C (m P n : Nat) (hF : Fld m P n) (a : Nat) (ha : a < n) (ha0 : 0 < a) (w : World) :
    Calls Try.prog 18 #[.agg #[.int .i64 m, .int .i64 P], .int .i64 a] w fun e w' => e = .returned (.tuple #[.int .i64 (pw P a (n - 2)), .int .i64 0]) ∧ Below w.heap.size w w' := by
  have h32 := hF.n32
  have g0 : ((a : Int) == 0) = false := by simp; omega
  have hmf : ∀ (fn : Fn) (first cap : Array Value) (w : World), (Instr.makeFunc fn first cap).run Try.prog w = .ok (.func fn first cap) w := fun _ _ _ _ => rfl
  go_enter Try.func18, Try.ntmps18
  go_wp2_with fail
  have q2 := cell_new_l (w.alloc (.cells #[.int .i64 m, .int .i64 P] 25)) (.int .i64 a) 2
  have q3 := cell_new_l ((w.alloc (.cells #[.int .i64 m, .int .i64 P] 25)).alloc (.cells #[.int .i64 a] 2)) (.int .i64 a) 2
  simp only [World.size_alloc] at q2 q3
  have q4 := cell_alloc_l (.cells #[.int .i64 a] 2) q2.1
  have Q3 := Lib.hid q3.1
  have Q4 := Lib.hid q4
  clear q2 q3 q4
  refine (calcFor1_C _ _ _ hF (w.heap.size + 1 + 1) a (by omega) _ (by simp) (by exact Q3.out)).mono ?_
  rintro e w1 ⟨c, rfl, hb1, hC, hc⟩
  have hB := ((((Below.refl _ w).alloc (Nat.le_refl _) (.cells #[.int .i64 m, .int .i64 P] 25)).alloc (by simp) (.cells #[.int .i64 a] 2)).alloc (by simp; omega) (.cells #[.int .i64 a] 2)).trans (hb1.mono (by simp; omega))
  have hba : w1.cell? ⟨w.heap.size + 1, 0, none⟩ = some (.int .i64 a) := (hb1.cell (p := ⟨w.heap.size + 1, 0, none⟩) (by simp)).trans Q4.out
  have hz : w.heap.size + 1 < w1.heap.size := by have := hb1.size; simp at this; omega
  have hcl := hC.lt
  clear hb1 hc
  go_wp2_with fail
  have hC2 := hC.below hcl ((Below.refl _ w1).alloc (Nat.le_refl _) (.cells #[.pointer (some ⟨c, 0, none⟩)] 59))
  have hbc : (w1.alloc (.cells #[.pointer (some ⟨c, 0, none⟩)] 59)).cell? ⟨w1.heap.size, 0, none⟩ = some (.pointer (some ⟨c, 0, none⟩)) := by simp
  have hba2 : (w1.alloc (.cells #[.pointer (some ⟨c, 0, none⟩)] 59)).cell? ⟨w.heap.size + 1, 0, none⟩ = some (.int .i64 a) := (((Below.refl _ w1).alloc (Nat.le_refl _) (.cells #[.pointer (some ⟨c, 0, none⟩)] 59)).cell (p := ⟨w.heap.size + 1, 0, none⟩) hz).trans hba
  have hB2 := hB.alloc (by omega) (.cells #[.pointer (some ⟨c, 0, none⟩)] 59)
  have hz2 : w1.heap.size + 1 = (w1.alloc (.cells #[.pointer (some ⟨c, 0, none⟩)] 59)).heap.size := by simp
  generalize hbce : w1.heap.size = bc at hbc hz hz2 hcl ⊢
  generalize w1.alloc (.cells #[.pointer (some ⟨c, 0, none⟩)] 59) = W at hC2 hbc hba2 hB2 hz2 ⊢
  refine (callsIn_wide.1 (first_in c m P n hF W hC2 56 #[.pointer (some ⟨bc, 0, none⟩), .pointer (some ⟨w.heap.size + 1, 0, none⟩)] (enters_of Try.func56 (by kernel_rfl) rfl) (fun x => mul P a x == 1) (fun W' hW x hx => inverse1_any c m P n bc (w.heap.size + 1) hF a x ha hx W' (hC2.below hC2.lt hW) ((hW.cell (p := ⟨bc, 0, none⟩) (by show bc < _; omega)).trans hbc) ((hW.cell (p := ⟨w.heap.size + 1, 0, none⟩) (by show w.heap.size + 1 < _; omega)).trans hba2)))).mono ?_
  rintro e w2 ⟨hp, hb2⟩
  have hB3 := hB2.trans (hb2.mono (by omega))
  clear hb2 hba hbce
  rcases hp with ⟨k, hk, ht, hmin, rfl⟩ | ⟨hno, rfl⟩
  · have HK := Lib.hid (inv_one hF ha hk (by simpa using ht))
    clear ht hmin
    go_wp2
    go_ret2
    exact ⟨ret_int2 (by have := HK.out; omega), hB3⟩
  · exfalso
    have h3 : (mul P a (pw P a (n - 2)) == 1) = false := hno _ (pw_lt hF a (n - 2))
    rw [inv_is hF ha0 ha] at h3
    simp at h3
set_option maxHeartbeats 400000 in
theorem specInverseIn_Z (m P n : Nat) (hF : Fld m P n) (w : World) :
    Calls Try.prog 48 #[.agg #[.int .i64 m, .int .i64 P], .int .i64 0] w fun e w' => e = .returned (.tuple #[.int .i64 0, .int .i64 4]) ∧ Below w.heap.size w w' := by
  have hn := hF.n2
  go_enter Try.func48, Try.ntmps48
  go_wp2_with fail
  refine (l01Given_C _ _ _ hF 0 0 (by omega) (by omega) _).mono ?_
  rintro e w1 ⟨rfl, hb1⟩
  go_wp2
  go_ret2
  exact ⟨rfl, ((Below.refl _ w).alloc (Nat.le_refl _) _).trans (hb1.mono (by simp))⟩
set_option maxHeartbeats 400000 in
theorem implInverseIn_Z (m P n : Nat) (hF : Fld m P n) (w : World) :
    Calls Try.prog 18 #[.agg #[.int .i64 m, .int .i64 P], .int .i64 0] w fun e w' => e = .returned (.tuple #[.int .i64 0, .int .i64 4]) ∧ Below w.heap.size w w' := by
  have hn := hF.n2
  go_enter Try.func18, Try.ntmps18
  go_wp2_with fail
  have q2 := cell_new_l (w.alloc (.cells #[.int .i64 m, .int .i64 P] 25)) (.int .i64 0) 2
  have q3 := cell_new_l ((w.alloc (.cells #[.int .i64 m, .int .i64 P] 25)).alloc (.cells #[.int .i64 0] 2)) (.int .i64 0) 2
  simp only [World.size_alloc] at q2 q3
  have q4 := cell_alloc_l (.cells #[.int .i64 0] 2) q2.1
  have Q3 := Lib.hid q3.1
  have Q4 := Lib.hid q4
  clear q2 q3 q4
  refine (calcFor1_C _ _ _ hF (w.heap.size + 1 + 1) 0 (by omega) _ (by simp) (by exact Q3.out)).mono ?_
  rintro e w1 ⟨c, rfl, hb1, hC, hc⟩
  have hB := ((((Below.refl _ w).alloc (Nat.le_refl _) (.cells #[.int .i64 m, .int .i64 P] 25)).alloc (by simp) (.cells #[.int .i64 0] 2)).alloc (by simp; omega) (.cells #[.int .i64 0] 2)).trans (hb1.mono (by simp; omega))
  have hba : w1.cell? ⟨w.heap.size + 1, 0, none⟩ = some (.int .i64 0) := (hb1.cell (p := ⟨w.heap.size + 1, 0, none⟩) (by simp)).trans Q4.out
  have hz : w.heap.size + 1 < w1.heap.size := by have := hb1.size; simp at this; omega
  clear hb1 hc
  go_wp2
  go_ret2
  exact ⟨rfl, hB.alloc (by omega) _⟩
end Go.Proofs.Ytbnjmafkcfjmeaa
