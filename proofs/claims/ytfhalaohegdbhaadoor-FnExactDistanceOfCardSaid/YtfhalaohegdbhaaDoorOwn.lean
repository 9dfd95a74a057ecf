/- A list copied: the model's own. -/
import Derived.Test.YtfhalaohegdbhaaDoorWr
import Derived.Test.YtfhalaohegdbhaaDoorSp1
namespace Go.Proofs.YtfhalaohegdbhaaDoor
open Go.RowKit Go.Joins
set_option linter.unusedVariables false

set_option maxHeartbeats 1600000 in
theorem l00Own_any (b n cap : Nat) (L : List Nat) (w : World) (hM : Mt w b n (ints L)) :
    Calls Tryd.prog 81 #[.slice (some ⟨b, 0, none⟩) n cap] w fun e w' => ∃ ao cap', e = .returned (.slice ao n cap') ∧ LR w' w.heap.size w'.heap.size ao cap' L ∧ Below w.heap.size w w' := by
  obtain ⟨i0, hi, hz0, hz1, hz2⟩ := info_parts Tryd.infoI
  have hll := hM.len
  rw [ints_length] at hll
  subst hll
  have hs := hM.small
  have hown : (w.alloc (.cells #[] 2)).ownsRow w.heap.size 2 1 (.slice (some ⟨w.heap.size, 0, none⟩) 0 0) 0 [] := World.ownsRow_made w #[] 0 (Nat.le_refl _) (by unfold maxLen; omega) (by simp)
  have hM2 := hM.below (below_alloc1 w (.cells #[] 2))
  go_enter Tryd.func81, Tryd.ntmps81
  go_wp2_with (at_builtin; refine wpList_append_own _ rfl _ _ 22 rfl w.heap.size 2 i0 (.int .i64 0) 1 8 Tryd.underlying22 hi hz0 hz1 hz2 rfl (by decide) _ _ _ rfl hown ⟨b, 0, none⟩ L.length cap ((ints L).map (Value.int .i64)) rfl (by simp [ints]) (ints_news _ b _ L hM2) (ints_one L) (by unfold maxLen; omega) (by omega) (by simp) ?_; intro v' w3 hown' hgrow _; have hb3 : Below w.heap.size w w3 := ((below_alloc1 w _).grown hgrow (by simp) (fun g hg => (hown.lt g hg).1)); obtain ⟨ao, cp, hv, hlr⟩ := LR.of_own (by simpa using hown'))
  subst hv
  clear hown' hgrow hown hM2
  go_wp2_with fail
  go_ret
  exact ⟨_, _, rfl, hlr, hb3⟩
end Go.Proofs.YtfhalaohegdbhaaDoor
