/- Rows of numbers of the call's own, maybe empty. -/
import Derived.Test.YtcdhdgflgdmhdaaDoorOwnSet
namespace Go.Proofs.YtcdhdgflgdmhdaaDoor
open Go.RowKit Go.Joins
set_option linter.unusedVariables false

/-- A row of numbers of the call's own: where it has any, in a block from B to below T. -/
structure LR (W : World) (B T : Nat) (ao : Option Addr) (cap : Nat) (A : List Nat) : Prop where
  row : 0 < A.length → ∃ g, ao = some ⟨g, 0, none⟩ ∧ g < T ∧ OR W B 2 g cap A
theorem LR.below {W W' : World} {B T cap : Nat} {ao : Option Addr} {A : List Nat} (h : LR W B T ao cap A) (hb : Below T W W') : LR W' B T ao cap A :=
  ⟨fun h0 => by obtain ⟨g, e, h1, h2⟩ := h.row h0; exact ⟨g, e, h1, h2.below hb h1⟩⟩
theorem LR.drewN {W : World} {B T cap : Nat} {ao : Option Addr} {A : List Nat} (h : LR W B T ao cap A) (k : Nat) : LR (W.drewN k) B T ao cap A :=
  ⟨fun h0 => by obtain ⟨g, e, h1, h2⟩ := h.row h0; exact ⟨g, e, h1, h2.drewN k⟩⟩
theorem ints_news (W : World) (b n : Nat) (L : List Nat) (hM : Mt W b n (ints L)) : ∀ (j : Nat) (u : Value), ((ints L).map (Value.int .i64))[j]? = some u → W.cell? ((⟨b, 0, none⟩ : Addr).add j) = some u := by
  intro j u hu
  have hj : j < L.length := by
    have := (List.getElem?_eq_some_iff.1 hu).1
    simpa [ints] using this
  have hl := hM.len
  rw [ints_length] at hl
  have hc := hM.cell j (by omega)
  rw [ints_get] at hc
  have hu' : u = .int .i64 (nth L j : Nat) := by
    simp only [ints, List.getElem?_map, List.getElem?_eq_getElem hj, Option.map_some, Option.some.injEq] at hu
    rw [← hu]; simp [nth, hj]
  rw [hu', ← hc]
  simp only [Addr.add]
  first | rfl | (split <;> first | rfl | (congr 2; omega)) | simp
theorem ints_one (L : List Nat) : ∀ u ∈ (ints L).map (Value.int .i64), u.oneCell' = true := by
  intro u hu
  obtain ⟨x, _, rfl⟩ := List.mem_map.1 hu
  rfl

theorem LR.of_own {W : World} {B : Nat} {v : Value} {L : List Nat} (h : W.ownsRow B 2 1 v L.length ((ints L).map (Value.int .i64))) : ∃ ao cp, v = .slice ao L.length cp ∧ LR W B W.heap.size ao cp L := by
  by_cases h0 : L.length = 0
  · rcases ownsRow_forms h with ⟨rfl, _⟩ | ⟨g, cp, rfl⟩
    · exact ⟨none, 0, by rw [h0], ⟨fun h => by omega⟩⟩
    · exact ⟨_, _, rfl, ⟨fun h => by omega⟩⟩
  · obtain ⟨g, cp, rfl, ho⟩ := OR.mk' h (by omega)
    exact ⟨_, _, rfl, ⟨fun _ => ⟨g, rfl, ho.lt.2, ho⟩⟩⟩

end Go.Proofs.YtcdhdgflgdmhdaaDoor
