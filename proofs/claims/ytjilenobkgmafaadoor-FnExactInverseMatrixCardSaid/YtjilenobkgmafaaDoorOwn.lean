/- A list copied: the model's own. -/
import Derived.Test.YtjilenobkgmafaaDoorOwnSet
import Derived.Test.YtjilenobkgmafaaDoorSp1
namespace Go.Proofs.YtjilenobkgmafaaDoor
open Go.RowKit Go.Joins
set_option linter.unusedVariables false

/-- A row of numbers of the call's own: where it has any, in a block from B to below T. -/
structure LR (W : World) (B T : Nat) (ao : Option Addr) (cap : Nat) (A : List Nat) : Prop where
  row : 0 < A.length → ∃ g, ao = some ⟨g, 0, none⟩ ∧ g < T ∧ OR W B 2 g cap A
theorem LR.below {W W' : World} {B T cap : Nat} {ao : Option Addr} {A : List Nat} (h : LR W B T ao cap A) (hb : Below T W W') : LR W' B T ao cap A :=
  ⟨fun h0 => by obtain ⟨g, e, h1, h2⟩ := h.row h0; exact ⟨g, e, h1, h2.below hb h1⟩⟩
theorem LR.drewN {W : World} {B T cap : Nat} {ao : Option Addr} {A : List Nat} (h : LR W B T ao cap A) (k : Nat) : LR (W.drewN k) B T ao cap A :=
  ⟨fun h0 => by obtain ⟨g, e, h1, h2⟩ := h.row h0; exact ⟨g, e, h1, h2.drewN k⟩⟩
theorem ints_news (W : World) (b n : Nat) (L : List Nat) (hM : Mt W b n (ints L)) : ∀ (j : Nat) (u : Value), ((ints L).map (Value.int .i64))[j]? = some u → W.cell? ((⟨b, 0, none⟩ : Addr).add j) = some u := by
  intro j u hu
  have hj : j < L.length := by
    have := (List.getElem?_eq_some_iff.1 hu).1
    simpa [ints] using this
  have hl := hM.len
  rw [ints_length] at hl
  have hc := hM.cell j (by omega)
  rw [ints_get] at hc
  have hu' : u = .int .i64 (nth L j : Nat) := by
    simp only [ints, List.getElem?_map, List.getElem?_eq_getElem hj, Option.map_some, Option.some.injEq] at hu
    rw [← hu]; simp [nth, hj]
  rw [hu', ← hc]
  simp only [Addr.add]
  first | rfl | (split <;> first | rfl | (congr 2; omega)) | simp
theorem ints_one (L : List Nat) : ∀ u ∈ (ints L).map (Value.int .i64), u.oneCell' = true := by
  intro u hu
  obtain ⟨x, _, rfl⟩ := List.mem_map.1 hu
  rfl

theorem LR.of_own {W : World} {B : Nat} {v : Value} {L : List Nat} (h : W.ownsRow B 2 1 v L.length ((ints L).map (Value.int .i64))) : ∃ ao cp, v = .slice ao L.length cp ∧ LR W B W.heap.size ao cp L := by
  by_cases h0 : L.length = 0
  · rcases ownsRow_forms h with ⟨rfl, _⟩ | ⟨g, cp, rfl⟩
    · exact ⟨none, 0, by rw [h0], ⟨fun h => by omega⟩⟩
    · exact ⟨_, _, rfl, ⟨fun h => by omega⟩⟩
  · obtain ⟨g, cp, rfl, ho⟩ := OR.mk' h (by omega)
    exact ⟨_, _, rfl, ⟨fun _ => ⟨g, rfl, ho.lt.2, ho⟩⟩⟩

set_option maxHeartbeats 1600000 in
theorem l00Own_any (b n cap : Nat) (L : List Nat) (w : World) (hM : Mt w b n (ints L)) :
    Calls Tryd.prog 83 #[.slice (some ⟨b, 0, none⟩) n cap] w fun e w' => ∃ ao cap', e = .returned (.slice ao n cap') ∧ LR w' w.heap.size w'.heap.size ao cap' L ∧ Below w.heap.size w w' := by
  obtain ⟨i0, hi, hz0, hz1, hz2⟩ := info_parts Tryd.infoI
  have hll := hM.len
  rw [ints_length] at hll
  subst hll
  have hs := hM.small
  have hown : (w.alloc (.cells #[] 2)).ownsRow w.heap.size 2 1 (.slice (some ⟨w.heap.size, 0, none⟩) 0 0) 0 [] := World.ownsRow_made w #[] 0 (Nat.le_refl _) (by unfold maxLen; omega) (by simp)
  have hM2 := hM.below (below_alloc1 w (.cells #[] 2))
  go_enter Tryd.func83, Tryd.ntmps83
  go_wp2_with (at_builtin; refine wpList_append_own _ rfl _ _ 22 rfl w.heap.size 2 i0 (.int .i64 0) 1 8 Tryd.underlying22 hi hz0 hz1 hz2 rfl (by decide) _ _ _ rfl hown ⟨b, 0, none⟩ L.length cap ((ints L).map (Value.int .i64)) rfl (by simp [ints]) (ints_news _ b _ L hM2) (ints_one L) (by unfold maxLen; omega) (by omega) (by simp) ?_; intro v' w3 hown' hgrow _; have hb3 : Below w.heap.size w w3 := ((below_alloc1 w _).grown hgrow (by simp) (fun g hg => (hown.lt g hg).1)); obtain ⟨ao, cp, hv, hlr⟩ := LR.of_own (by simpa using hown'))
  subst hv
  clear hown' hgrow hown hM2
  go_wp2_with fail
  go_ret
  exact ⟨_, _, rfl, hlr, hb3⟩
end Go.Proofs.YtjilenobkgmafaaDoor
