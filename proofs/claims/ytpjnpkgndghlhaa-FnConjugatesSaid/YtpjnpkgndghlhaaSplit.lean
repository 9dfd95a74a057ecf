/- What splits into an element and its square: the model's and the program's function. -/
import Derived.Test.YtpjnpkgndghlhaaEPlus
import Derived.Test.YtpjnpkgndghlhaaSqr
import Derived.Test.YtpjnpkgndghlhaaGiven
import Derived.Test.YtpjnpkgndghlhaaQuo
import Derived.Test.YtpjnpkgndghlhaaInv
namespace Go.Proofs.Ytpjnpkgndghlhaa
open Go.RowKit
set_option linter.unusedVariables false

theorem Calc.drewN {c m P n : Nat} {W : World} (h : Calc c m P n W) (q : Nat) : Calc c m P n (W.drewN q) := ⟨h.deg, h.tab⟩
/-- An element and its square. -/
def spl (P b : Nat) : Nat := b ^^^ mul P b b
theorem spl_lt {m P n b : Nat} (hF : Fld m P n) (hb : b < n) : spl P b < n := by
  have h1 := hF.mul_lt b b
  unfold spl
  rw [← hF.n] at hb h1 ⊢
  exact Nat.xor_lt_two_pow hb h1

set_option maxHeartbeats 800000 in
theorem split1_any (c m P n bc ba : Nat) (hF : Fld m P n) (a x : Nat) (ha : a < n) (hx : x < n) (w : World) (hC : Calc c m P n w) (h1 : w.cell? ⟨bc, 0, none⟩ = some (.pointer (some ⟨c, 0, none⟩))) (h2 : w.cell? ⟨ba, 0, none⟩ = some (.int .i64 a)) :
    Calls Try.prog 59 #[.int .u8 x, .pointer (some ⟨bc, 0, none⟩), .pointer (some ⟨ba, 0, none⟩)] w fun e w' => e = .returned (.bool (spl P x == a)) ∧ ∃ q, w' = w.drewN q := by
  have h32 := hF.n32
  have hm := hF.mul_lt x x
  have HT := Lib.hid (show (spl P x == a) = ((spl P x : Int) == (a : Int)) by rw [Bool.eq_iff_iff]; simp; omega)
  have e1 : IntKind.u8.wrap (a : Int) = a := by rw [IntKind.wrap_u8']; omega
  go_enter Try.func59, Try.ntmps59
  go_wp2
  go_quiet ((first | (go_at_call 61; exact quiet_of_eq (squared_any c m P n hF _ hx 1 (by omega) _ (Calc.drewN hC _))) | (go_at_call 60; exact quiet_of_eq (ePlus_any _ (mul P x x) (by omega) (by omega) _))))
  go_wp2
  go_ret
  exact ⟨ret_bool HT.out.symm, _, rfl⟩

set_option maxHeartbeats 400000 in
theorem implSplitIn_A (d p : Int) (hf : fldI d p = false) (hl : -9223372036854775808 ≤ p) (hh : p ≤ 9223372036854775807) (a : Int) (w : World) :
    Calls Try.prog 33 #[.agg #[.int .i64 d, .int .i64 p], .int .i64 a] w fun e w' => e = .returned (.tuple #[.int .i64 0, .int .i64 1]) ∧ Below w.heap.size w w' := by
  have HF := Lib.hid hf
  clear hf
  go_enter Try.func33, Try.ntmps33
  go_wp2_with fail
  refine (calculatorFor_invalid _ _ HF.out hl hh _ _).mono ?_
  rintro e w1 ⟨rfl, hb⟩
  have hB := ((((Below.refl _ w).alloc (Nat.le_refl _) (.cells #[.int .i64 d, .int .i64 p] 23)).alloc (by simp) (.cells #[.int .i64 a] 2)).alloc (by simp; omega) (.cells #[.int .i64 a] 2)).trans (hb.mono (by simp; omega))
  have hz : w.heap.size ≤ w1.heap.size := hB.size
  clear hb
  go_wp2
  go_ret2
  exact ⟨rfl, hB.alloc hz _⟩
set_option maxHeartbeats 400000 in
theorem implSplitIn_B (m P n : Nat) (hF : Fld m P n) (a : Int) (h : a < 0 ∨ (n : Int) ≤ a) (w : World) :
    Calls Try.prog 33 #[.agg #[.int .i64 m, .int .i64 P], .int .i64 a] w fun e w' => e = .returned (.tuple #[.int .i64 0, .int .i64 2]) ∧ Below w.heap.size w w' := by
  have HH := Lib.hid h
  clear h
  go_enter Try.func33, Try.ntmps33
  go_wp2_with fail
  have q2 := cell_new_l (w.alloc (.cells #[.int .i64 m, .int .i64 P] 23)) (.int .i64 a) 2
  have q3 := cell_new_l ((w.alloc (.cells #[.int .i64 m, .int .i64 P] 23)).alloc (.cells #[.int .i64 a] 2)) (.int .i64 a) 2
  simp only [World.size_alloc] at q2 q3
  have q4 := cell_alloc_l (.cells #[.int .i64 a] 2) q2.1
  have Q3 := Lib.hid q3.1
  have Q4 := Lib.hid q4
  clear q2 q3 q4
  refine (calcFor1_B _ _ _ hF (w.heap.size + 1 + 1) a HH.out _ (by simp) (by exact Q3.out)).mono ?_
  rintro e w1 ⟨rfl, hb⟩
  have hB := ((((Below.refl _ w).alloc (Nat.le_refl _) (.cells #[.int .i64 m, .int .i64 P] 23)).alloc (by simp) (.cells #[.int .i64 a] 2)).alloc (by simp; omega) (.cells #[.int .i64 a] 2)).trans (hb.mono (by simp; omega))
  have hz : w.heap.size ≤ w1.heap.size := hB.size
  clear hb
  go_wp2
  go_ret2
  exact ⟨rfl, hB.alloc hz _⟩
set_option maxHeartbeats 1600000 in
theorem implSplitIn_L (m P n : Nat) (hF : Fld m P n) (a : Nat) (ha : a < n) (k : Nat) (hk : k < n) (hv : spl P k = a) (hmin : ∀ j, j < k → spl P j ≠ a) (w : World) :
    Calls Try.prog 33 #[.agg #[.int .i64 m, .int .i64 P], .int .i64 a] w fun e w' => e = .returned (.tuple #[.int .i64 k, .int .i64 0]) ∧ Below w.heap.size w w' := by
  have h32 := hF.n32
  have hmf : ∀ (fn : Fn) (first cap : Array Value) (w : World), (Instr.makeFunc fn first cap).run Try.prog w = .ok (.func fn first cap) w := fun _ _ _ _ => rfl
  have HV := Lib.hid hv
  have HM := Lib.hid hmin
  clear hv hmin
  go_enter Try.func33, Try.ntmps33
  go_wp2_with fail
  have q2 := cell_new_l (w.alloc (.cells #[.int .i64 m, .int .i64 P] 23)) (.int .i64 a) 2
  have q3 := cell_new_l ((w.alloc (.cells #[.int .i64 m, .int .i64 P] 23)).alloc (.cells #[.int .i64 a] 2)) (.int .i64 a) 2
  simp only [World.size_alloc] at q2 q3
  have q4 := cell_alloc_l (.cells #[.int .i64 a] 2) q2.1
  have Q3 := Lib.hid q3.1
  have Q4 := Lib.hid q4
  clear q2 q3 q4
  refine (calcFor1_C _ _ _ hF (w.heap.size + 1 + 1) a (by omega) _ (by simp) (by exact Q3.out)).mono ?_
  rintro e w1 ⟨c, rfl, hb1, hC, hc⟩
  have hB := ((((Below.refl _ w).alloc (Nat.le_refl _) (.cells #[.int .i64 m, .int .i64 P] 23)).alloc (by simp) (.cells #[.int .i64 a] 2)).alloc (by simp; omega) (.cells #[.int .i64 a] 2)).trans (hb1.mono (by simp; omega))
  have hba : w1.cell? ⟨w.heap.size + 1, 0, none⟩ = some (.int .i64 a) := (hb1.cell (p := ⟨w.heap.size + 1, 0, none⟩) (by simp)).trans Q4.out
  have hz : w.heap.size + 1 < w1.heap.size := by have := hb1.size; simp at this; omega
  have hcl := hC.lt
  clear hb1 hc
  go_wp2_with fail
  have hC2 := hC.below hcl ((Below.refl _ w1).alloc (Nat.le_refl _) (.cells #[.pointer (some ⟨c, 0, none⟩)] 58))
  have hbc : (w1.alloc (.cells #[.pointer (some ⟨c, 0, none⟩)] 58)).cell? ⟨w1.heap.size, 0, none⟩ = some (.pointer (some ⟨c, 0, none⟩)) := by simp
  have hba2 : (w1.alloc (.cells #[.pointer (some ⟨c, 0, none⟩)] 58)).cell? ⟨w.heap.size + 1, 0, none⟩ = some (.int .i64 a) := (((Below.refl _ w1).alloc (Nat.le_refl _) (.cells #[.pointer (some ⟨c, 0, none⟩)] 58)).cell (p := ⟨w.heap.size + 1, 0, none⟩) hz).trans hba
  have hB2 := hB.alloc (by omega) (.cells #[.pointer (some ⟨c, 0, none⟩)] 58)
  have hz2 : w1.heap.size + 1 = (w1.alloc (.cells #[.pointer (some ⟨c, 0, none⟩)] 58)).heap.size := by simp
  generalize hbce : w1.heap.size = bc at hbc hz hz2 hcl ⊢
  generalize w1.alloc (.cells #[.pointer (some ⟨c, 0, none⟩)] 58) = W at hC2 hbc hba2 hB2 hz2 ⊢
  refine (callsIn_wide.1 (first_in c m P n hF W hC2 59 #[.pointer (some ⟨bc, 0, none⟩), .pointer (some ⟨w.heap.size + 1, 0, none⟩)] (enters_of Try.func59 (by kernel_rfl) rfl) (fun x => spl P x == a) (fun W' hW x hx => split1_any c m P n bc (w.heap.size + 1) hF a x ha hx W' (hC2.below hC2.lt hW) ((hW.cell (p := ⟨bc, 0, none⟩) (by show bc < _; omega)).trans hbc) ((hW.cell (p := ⟨w.heap.size + 1, 0, none⟩) (by show w.heap.size + 1 < _; omega)).trans hba2)))).mono ?_
  rintro e w2 ⟨hp, hb2⟩
  have hB3 := hB2.trans (hb2.mono (by omega))
  clear hb2 hba hbce
  rcases hp with ⟨k', hk', ht, hm', rfl⟩ | ⟨hno, rfl⟩
  · have HK := Lib.hid (show k' = k by
      have h1 : spl P k' = a := by simpa using ht
      rcases Nat.lt_trichotomy k' k with h | h | h
      · exact absurd h1 (HM.out k' h)
      · exact h
      · have h4 : (spl P k == a) = false := hm' k h
        rw [HV.out] at h4; simp at h4)
    clear ht hm'
    go_wp2
    go_ret2
    exact ⟨ret_int2 (by have := HK.out; omega), hB3⟩
  · exfalso
    have h4 : (spl P k == a) = false := hno k hk
    rw [HV.out] at h4; simp at h4
set_option maxHeartbeats 1600000 in
theorem implSplitIn_N (m P n : Nat) (hF : Fld m P n) (a : Nat) (ha : a < n) (hno : ∀ j, j < n → spl P j ≠ a) (w : World) :
    Calls Try.prog 33 #[.agg #[.int .i64 m, .int .i64 P], .int .i64 a] w fun e w' => e = .returned (.tuple #[.int .i64 0, .int .i64 6]) ∧ Below w.heap.size w w' := by
  have h32 := hF.n32
  have hmf : ∀ (fn : Fn) (first cap : Array Value) (w : World), (Instr.makeFunc fn first cap).run Try.prog w = .ok (.func fn first cap) w := fun _ _ _ _ => rfl
  have HN := Lib.hid hno
  clear hno
  go_enter Try.func33, Try.ntmps33
  go_wp2_with fail
  have q2 := cell_new_l (w.alloc (.cells #[.int .i64 m, .int .i64 P] 23)) (.int .i64 a) 2
  have q3 := cell_new_l ((w.alloc (.cells #[.int .i64 m, .int .i64 P] 23)).alloc (.cells #[.int .i64 a] 2)) (.int .i64 a) 2
  simp only [World.size_alloc] at q2 q3
  have q4 := cell_alloc_l (.cells #[.int .i64 a] 2) q2.1
  have Q3 := Lib.hid q3.1
  have Q4 := Lib.hid q4
  clear q2 q3 q4
  refine (calcFor1_C _ _ _ hF (w.heap.size + 1 + 1) a (by omega) _ (by simp) (by exact Q3.out)).mono ?_
  rintro e w1 ⟨c, rfl, hb1, hC, hc⟩
  have hB := ((((Below.refl _ w).alloc (Nat.le_refl _) (.cells #[.int .i64 m, .int .i64 P] 23)).alloc (by simp) (.cells #[.int .i64 a] 2)).alloc (by simp; omega) (.cells #[.int .i64 a] 2)).trans (hb1.mono (by simp; omega))
  have hba : w1.cell? ⟨w.heap.size + 1, 0, none⟩ = some (.int .i64 a) := (hb1.cell (p := ⟨w.heap.size + 1, 0, none⟩) (by simp)).trans Q4.out
  have hz : w.heap.size + 1 < w1.heap.size := by have := hb1.size; simp at this; omega
  have hcl := hC.lt
  clear hb1 hc
  go_wp2_with fail
  have hC2 := hC.below hcl ((Below.refl _ w1).alloc (Nat.le_refl _) (.cells #[.pointer (some ⟨c, 0, none⟩)] 58))
  have hbc : (w1.alloc (.cells #[.pointer (some ⟨c, 0, none⟩)] 58)).cell? ⟨w1.heap.size, 0, none⟩ = some (.pointer (some ⟨c, 0, none⟩)) := by simp
  have hba2 : (w1.alloc (.cells #[.pointer (some ⟨c, 0, none⟩)] 58)).cell? ⟨w.heap.size + 1, 0, none⟩ = some (.int .i64 a) := (((Below.refl _ w1).alloc (Nat.le_refl _) (.cells #[.pointer (some ⟨c, 0, none⟩)] 58)).cell (p := ⟨w.heap.size + 1, 0, none⟩) hz).trans hba
  have hB2 := hB.alloc (by omega) (.cells #[.pointer (some ⟨c, 0, none⟩)] 58)
  have hz2 : w1.heap.size + 1 = (w1.alloc (.cells #[.pointer (some ⟨c, 0, none⟩)] 58)).heap.size := by simp
  generalize hbce : w1.heap.size = bc at hbc hz hz2 hcl ⊢
  generalize w1.alloc (.cells #[.pointer (some ⟨c, 0, none⟩)] 58) = W at hC2 hbc hba2 hB2 hz2 ⊢
  refine (callsIn_wide.1 (first_in c m P n hF W hC2 59 #[.pointer (some ⟨bc, 0, none⟩), .pointer (some ⟨w.heap.size + 1, 0, none⟩)] (enters_of Try.func59 (by kernel_rfl) rfl) (fun x => spl P x == a) (fun W' hW x hx => split1_any c m P n bc (w.heap.size + 1) hF a x ha hx W' (hC2.below hC2.lt hW) ((hW.cell (p := ⟨bc, 0, none⟩) (by show bc < _; omega)).trans hbc) ((hW.cell (p := ⟨w.heap.size + 1, 0, none⟩) (by show w.heap.size + 1 < _; omega)).trans hba2)))).mono ?_
  rintro e w2 ⟨hp, hb2⟩
  have hB3 := hB2.trans (hb2.mono (by omega))
  clear hb2 hba hbce
  rcases hp with ⟨k', hk', ht, hm', rfl⟩ | ⟨hno, rfl⟩
  · exfalso
    exact HN.out k' hk' (by simpa using ht)
  · clear hno
    go_wp2
    go_ret2
    exact ⟨rfl, hB3⟩
end Go.Proofs.Ytpjnpkgndghlhaa
