/- The least primitive element: what the model's and the program's function return. -/
import Derived.Test.YtibennpdffgomaaQuo
import Derived.Test.YtibennpdffgomaaOrder
namespace Go.Proofs.Ytibennpdffgomaa
open Go.RowKit
set_option linter.unusedVariables false

theorem Calc.drewN {c m P n : Nat} {W : World} (h : Calc c m P n W) (q : Nat) : Calc c m P n (W.drewN q) := ⟨h.deg, h.tab⟩
theorem prim_all : ∀ P : Fin 64, irr P.val = true → (List.range 32).any (fun a => decide (0 < a) && decide (a < 2 ^ (nb P.val - 1)) && ord P.val a == 2 ^ (nb P.val - 1) - 1) = true := by decide +kernel
theorem prim_ex {m P n : Nat} (hF : Fld m P n) : ∃ g, 0 < g ∧ g < n ∧ ord P g = n - 1 := by
  have h1 := fld_nb hF.f
  have := prim_all ⟨P, hF.P64⟩ (fld_irr hF.f)
  simp only [h1, Nat.add_sub_cancel, hF.n] at this
  obtain ⟨g, _, hg⟩ := List.any_eq_true.1 this
  simp at hg
  exact ⟨g, hg.1.1, hg.1.2, hg.2⟩



/-- The test of the program's search. -/
def primT (P n x : Nat) : Bool := decide (0 < x) && ord P x == n - 1
set_option maxHeartbeats 1600000 in
theorem primitive1_any (c m P n bc : Nat) (hF : Fld m P n) (x : Nat) (hx : x < n) (w : World) (hC : Calc c m P n w) (h1 : w.cell? ⟨bc, 0, none⟩ = some (.pointer (some ⟨c, 0, none⟩))) :
    Calls Try.prog 131 #[.int .u8 x, .pointer (some ⟨bc, 0, none⟩)] w fun e w' => e = .returned (.bool (primT P n x)) ∧ ∃ q, w' = w.drewN q := by
  have h32 := hF.n32
  have hn2 := hF.n2
  have hle := ord_le P x
  have ew : IntKind.i64.wrap ((n : Int) - 1) = (n : Int) - 1 := by rw [IntKind.wrap_i64]; omega
  by_cases h0 : 0 < x
  · have HT := Lib.hid (show primT P n x = ((ord P x : Int) == (n : Int) - 1) by unfold primT; rw [decide_eq_true h0, Bool.eq_iff_iff]; simp; omega)
    have g : ((x : Int) != 0) = true := by simp; omega
    go_enter Try.func131, Try.ntmps131
    go_wp2
    go_quiet ((first | (go_at_call 132; exact quiet_of_eq (order_any c m P n hF _ h0 hx _ (Calc.drewN hC _))) | (go_at_call 133; exact quiet_of_eq (size_any c m P n hF _ (Calc.deg (Calc.drewN hC _))))))
    go_wp2
    go_ret
    exact ⟨ret_bool HT.out.symm, _, rfl⟩
  · obtain rfl : x = 0 := by omega
    have HT := Lib.hid (show primT P n 0 = false from rfl)
    go_enter Try.func131, Try.ntmps131
    go_wp2
    go_quiet (fail)
    go_wp2
    go_ret
    exact ⟨ret_bool HT.out.symm, _, rfl⟩

set_option maxHeartbeats 400000 in
theorem implFirstPrimitive_A (d p : Int) (hf : fldI d p = false) (hl : -9223372036854775808 ≤ p) (hh : p ≤ 9223372036854775807) (w : World) :
    Calls Try.prog 57 #[.agg #[.int .i64 d, .int .i64 p]] w fun e w' => e = .returned (.tuple #[.int .i64 0, .int .i64 1]) ∧ Below w.heap.size w w' := by
  have HF := Lib.hid hf
  clear hf
  go_enter Try.func57, Try.ntmps57
  go_wp2_with fail
  refine (calculatorFor_invalid _ _ HF.out hl hh _ _).mono ?_
  rintro e w1 ⟨rfl, hb⟩
  have hB := ((Below.refl _ w).alloc (Nat.le_refl _) (.cells #[.int .i64 d, .int .i64 p] 31)).trans (hb.mono (by simp))
  have hz : w.heap.size ≤ w1.heap.size := hB.size
  clear hb
  go_wp2
  go_ret2
  exact ⟨rfl, hB.alloc hz _⟩

set_option maxHeartbeats 1600000 in
theorem implFirstPrimitive_C (m P n : Nat) (hF : Fld m P n) (g : Nat) (hg0 : 0 < g) (hgn : g < n) (hg : ord P g = n - 1) (hmin : ∀ j, 0 < j → j < g → ord P j ≠ n - 1) (w : World) :
    Calls Try.prog 57 #[.agg #[.int .i64 m, .int .i64 P]] w fun e w' => e = .returned (.tuple #[.int .i64 g, .int .i64 0]) ∧ Below w.heap.size w w' := by
  have HG := Lib.hid hg
  have HM := Lib.hid hmin
  clear hg hmin
  have hmf : ∀ (fn : Fn) (first cap : Array Value) (w : World), (Instr.makeFunc fn first cap).run Try.prog w = .ok (.func fn first cap) w := fun _ _ _ _ => rfl
  go_enter Try.func57, Try.ntmps57
  go_wp2_with fail
  refine (calculatorFor_none _ _ _ hF _).mono ?_
  rintro e w1 ⟨c, rfl, hb1, hC, hc⟩
  have hB := ((Below.refl _ w).alloc (Nat.le_refl _) (.cells #[.int .i64 m, .int .i64 P] 31)).trans (hb1.mono (by simp))
  have hz : w.heap.size ≤ w1.heap.size := hB.size
  have hcl := hC.lt
  clear hb1 hc
  go_wp2_with fail
  have hC2 := hC.below hcl ((Below.refl _ w1).alloc (Nat.le_refl _) (.cells #[.pointer (some ⟨c, 0, none⟩)] 142))
  have hbc : (w1.alloc (.cells #[.pointer (some ⟨c, 0, none⟩)] 142)).cell? ⟨w1.heap.size, 0, none⟩ = some (.pointer (some ⟨c, 0, none⟩)) := by simp
  have hB2 := hB.alloc hz (.cells #[.pointer (some ⟨c, 0, none⟩)] 142)
  have hz2 : w1.heap.size + 1 = (w1.alloc (.cells #[.pointer (some ⟨c, 0, none⟩)] 142)).heap.size := by simp
  generalize hbce : w1.heap.size = bc at hbc hz hz2 hcl ⊢
  generalize w1.alloc (.cells #[.pointer (some ⟨c, 0, none⟩)] 142) = W at hC2 hbc hB2 hz2 ⊢
  refine (callsIn_wide.1 (first_in c m P n hF W hC2 131 #[.pointer (some ⟨bc, 0, none⟩)] (enters_of Try.func131 (by kernel_rfl) rfl) (primT P n) (fun W' hW x hx => primitive1_any c m P n bc hF x hx W' (hC2.below hC2.lt hW) ((hW.cell (p := ⟨bc, 0, none⟩) (by show bc < _; omega)).trans hbc)))).mono ?_
  rintro e w2 ⟨hp, hb2⟩
  have hB3 := hB2.trans (hb2.mono (by omega))
  clear hb2 hbce
  have hgT : primT P n g = true := by unfold primT; rw [HG.out]; simp; omega
  rcases hp with ⟨k, hk, ht, hmin, rfl⟩ | ⟨hno, rfl⟩
  · have hkg : k = g := by
      have h1 : 0 < k ∧ ord P k = n - 1 := by unfold primT at ht; simpa using ht
      rcases Nat.lt_trichotomy k g with h | h | h
      · exact absurd h1.2 (HM.out k h1.1 h)
      · exact h
      · have := hmin g h; rw [hgT] at this; cases this
    subst hkg
    clear ht hmin hgT
    go_wp2
    go_ret2
    exact ⟨rfl, hB3⟩
  · exfalso
    have h3 := hno g hgn
    rw [hgT] at h3
    cases h3
end Go.Proofs.Ytibennpdffgomaa
