/- The laws' own functions over matrices: measured, copied, equal, marked, held. -/
import Derived.Test.YtcdhdgflgdmhdaaThird
import Derived.Test.YtcdhdgflgdmhdaaColPure
import Derived.Lib.SmallJoins
namespace Go.Proofs.Ytcdhdgflgdmhdaa
open Go.RowKit Go.Joins
set_option linter.unusedVariables false

set_option maxHeartbeats 400000 in
theorem szMatrix_ok (c : Int) (A : Option Addr) (n cap : Nat) (l : Int) (hl : l ≤ 1048576) (h : (n : Int) ≤ l) (w : World) :
    Calls Try.prog 27 #[.agg #[.int .i64 c, .slice A n cap], .int .i64 l] w fun e w' => e = .returned (.int .i64 (l - n)) ∧ Below w.heap.size w w' := by
  go_enter Try.func27, Try.ntmps27
  go_wp2
  go_ret
  exact ⟨rfl, (Below.refl _ w).alloc (Nat.le_refl _) _⟩

set_option maxHeartbeats 400000 in
theorem szMatrix_no (c : Int) (A : Option Addr) (n cap : Nat) (hn : n ≤ 9223372036854775807) (l : Int) (h0 : 0 ≤ l) (hl : l ≤ 1048576) (h : l < (n : Int)) (w : World) :
    Calls Try.prog 27 #[.agg #[.int .i64 c, .slice A n cap], .int .i64 l] w fun e w' => e = .returned (.int .i64 (-1)) ∧ Below w.heap.size w w' := by
  go_enter Try.func27, Try.ntmps27
  go_wp2
  go_ret
  exact ⟨rfl, (Below.refl _ w).alloc (Nat.le_refl _) _⟩

set_option maxHeartbeats 400000 in
theorem toMatrix_any (c : Int) (A : Option Addr) (n cap : Nat) (xs : List Int) (w : World) (hA : Arg w A n xs) (hn : n ≤ 1048576) :
    Calls Try.prog 29 #[.agg #[.int .i64 c, .slice A n cap]] w fun e w' => ∃ b, e = .returned (.agg #[.int .i64 c, .slice (some ⟨b, 0, none⟩) n n]) ∧ w.heap.size ≤ b ∧ Below w.heap.size w w' ∧ Mt w' b n xs := by
  go_enter Try.func29, Try.ntmps29
  go_wp2_with fail
  refine (toInt64S_any A n cap xs _ (hA.below (below_alloc3 _ _ _ _)) hn).mono ?_
  rintro e w4 ⟨b, rfl, hge, hb4, hM⟩
  obtain ⟨⟨g0, g1, g2, g3⟩, k0, k1, k2, k3⟩ := third w (.cells #[.int .i64 c, .slice A n cap] 40) (.int .i64 0) (.slice none 0 0) (.int .i64 c) (.slice none 0 0) 29 _ rfl
  have e0 := (hb4.cell (p := ⟨w.heap.size + 1 + 1, 0, none⟩) (by simp)).trans g0
  have e1 := (hb4.cell (p := ⟨w.heap.size + 1 + 1, 1, none⟩) (by simp)).trans g1
  have f0 := (hb4.frozen (p := ⟨w.heap.size + 1 + 1, 0, none⟩) (by simp)).trans g2
  have f1 := (hb4.frozen (p := ⟨w.heap.size + 1 + 1, 1, none⟩) (by simp)).trans g3
  have e2 := (hb4.cell (p := ⟨w.heap.size + 1, 0, none⟩) (by simp)).trans k0
  have e3 := (hb4.cell (p := ⟨w.heap.size + 1, 1, none⟩) (by simp)).trans k1
  have f2 := (hb4.frozen (p := ⟨w.heap.size + 1, 0, none⟩) (by simp)).trans k2
  have f3 := (hb4.frozen (p := ⟨w.heap.size + 1, 1, none⟩) (by simp)).trans k3
  clear g0 g1 g2 g3 k0 k1 k2 k3
  have hB4 : Below w.heap.size w w4 := (below_alloc3 w _ _ _).trans (hb4.mono (by simp; omega))
  have hge' : w.heap.size + 1 + 1 < b := by simp at hge; omega
  have HB := Lib.hid hB4
  have HM := Lib.hid hM
  clear hb4 hB4 hM hge
  go_wp2
  refine bodyPost_ret (v := .agg #[.int .i64 c, .slice (some ⟨b, 0, none⟩) n n]) (by simp [results, Try.results29, go_sem, World.cell?_setCell_same', e2, e3]) rfl ?_
  exact ⟨b, rfl, by omega, ((HB.out.setCell (p := ⟨w.heap.size + 1 + 1, 1, none⟩) (by simp; omega) _).setCell (p := ⟨w.heap.size + 1, 0, none⟩) (by simp) _).setCell (p := ⟨w.heap.size + 1, 1, none⟩) (by simp) _, ((HM.out.setCell (p := ⟨w.heap.size + 1 + 1, 1, none⟩) (by simp; omega) _).setCell (p := ⟨w.heap.size + 1, 0, none⟩) (by simp; omega) _).setCell (p := ⟨w.heap.size + 1, 1, none⟩) (by simp; omega) _⟩
end Go.Proofs.Ytcdhdgflgdmhdaa
