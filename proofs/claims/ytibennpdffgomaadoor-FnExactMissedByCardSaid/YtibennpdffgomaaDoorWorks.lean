/- A gathering before all deeds: the program's worksFor. -/
import Derived.Test.YtibennpdffgomaaDoorRowsFor
import Derived.Test.YtibennpdffgomaaDoorGather
import Derived.Test.YtibennpdffgomaaDoorHeld2
namespace Go.Proofs.YtibennpdffgomaaDoor
open Go.RowKit Go.Joins Go.ChangeShapes Go.WideShapes Go.Deep
set_option linter.unusedVariables false
set_option linter.unusedSimpArgs false

/-- The numbers of a gathering are as they should be. -/
def inG (p l r c : Int) : Prop := 1 ≤ p ∧ p ≤ 4 ∧ 1 ≤ l ∧ l ≤ 6 ∧ 0 ≤ r ∧ r ≤ 3 ∧ 1 ≤ c ∧ c ≤ 3
instance (p l r c : Int) : Decidable (inG p l r c) := by unfold inG; infer_instance
def fValidGather (p l r c : Int) (xs : List Int) : Bool := decide (inG p l r c) && (decide ((xs.length : Int) = p) && allIn (2 ^ l.toNat) xs)
/-- What the source has. -/
def srcL (P : Nat) (D : List Nat) : List Nat := (List.range D.length).map fun i => 2 ^ i + nth D i * 2 ^ P

set_option maxRecDepth 100000 in
set_option maxHeartbeats 6400000 in
theorem worksFor_out (p l r c : Int) (A : Option Addr) (n cap : Nat) (h : ¬ inG p l r c) (w : World) :
    Calls Tryd.prog 63 #[.agg (gatL p l (.slice A n cap) r c).toArray] w fun e w' => e = .returned (.tuple #[.pointer none, .int .i64 1]) ∧ Below w.heap.size w w' := by
  have hb := below_alloc1 w (.cells (gatL p l (.slice A n cap) r c).toArray 60)
  by_cases h1 : p < 1
  · clear h
    go_enter Tryd.func63, Tryd.ntmps63
    go_wp2_with fail
    go_ret2
    exact ⟨rfl, hb⟩
  by_cases h2 : p > 4
  · clear h
    go_enter Tryd.func63, Tryd.ntmps63
    go_wp2_with fail
    go_ret2
    exact ⟨rfl, hb⟩
  by_cases h3 : l < 1
  · clear h
    go_enter Tryd.func63, Tryd.ntmps63
    go_wp2_with fail
    go_ret2
    exact ⟨rfl, hb⟩
  by_cases h4 : l > 6
  · clear h
    go_enter Tryd.func63, Tryd.ntmps63
    go_wp2_with fail
    go_ret2
    exact ⟨rfl, hb⟩
  by_cases h5 : r < 0
  · clear h
    go_enter Tryd.func63, Tryd.ntmps63
    go_wp2_with fail
    go_ret2
    exact ⟨rfl, hb⟩
  by_cases h6 : r > 3
  · clear h
    go_enter Tryd.func63, Tryd.ntmps63
    go_wp2_with fail
    go_ret2
    exact ⟨rfl, hb⟩
  by_cases h7 : c < 1
  · clear h
    go_enter Tryd.func63, Tryd.ntmps63
    go_wp2_with fail
    go_ret2
    exact ⟨rfl, hb⟩
  by_cases h8 : c > 3
  · clear h
    go_enter Tryd.func63, Tryd.ntmps63
    go_wp2_with fail
    go_ret2
    exact ⟨rfl, hb⟩
  exact absurd ⟨by omega, by omega, by omega, by omega, by omega, by omega, by omega, by omega⟩ h

set_option maxRecDepth 100000 in
set_option maxHeartbeats 6400000 in
theorem worksFor_data (P Y : Nat) (r c : Int) (A : Option Addr) (n cap : Nat) (xs : List Int) (hg : inG P Y r c) (hbad : ¬ (xs.length = P ∧ allIn (2 ^ Y) xs = true)) (w : World) {B T : Nat} (hM : Res w B T (.slice A n cap) xs) :
    Calls Tryd.prog 63 #[.agg (gatL P Y (.slice A n cap) r c).toArray] w fun e w' => e = .returned (.tuple #[.pointer none, .int .i64 1]) ∧ Below w.heap.size w w' := by
  obtain ⟨h1, h2, h3, h4, h5, h6, h7, h8⟩ := hg
  have hlen : xs.length = n := by cases hM <;> first | rfl | assumption
  have hG := G1.start w (gatL P Y (.slice A n cap) r c) 60
  have S := rowsFor_any Y P (by omega) (by omega) A n cap xs _ (hM.next hG.b)
  simp only [rowsC] at S
  obtain ⟨bl, hbl⟩ : ∃ b, (decide (n ≤ P) && allIn (2 ^ Y) xs) = b := ⟨_, rfl⟩
  rw [hbl] at S
  have HS := Lib.hid S
  have HG := Lib.hid hG
  have HBL := Lib.hid (show bl = true → n ≤ P ∧ allIn (2 ^ Y) xs = true from fun h => by rw [← hbl] at h; simpa using h)
  have HBAD := Lib.hid (show bl = true → n ≠ P from fun h e => by rw [← hbl] at h; simp at h; exact hbad ⟨by omega, h.2⟩)
  have HLN := Lib.hid hlen
  clear S hG hM hbad hbl
  go_enter Tryd.func63, Tryd.ntmps63
  go_wp2_with fail
  refine HS.out.mono ?_
  rintro e w1 ⟨L, rfl, hb, hL, hl10, hr⟩
  have hG1 := HG.out.next hb
  have HB := Lib.hid (hG1.b.trans ((below_alloc1 w1 (.cells (rowsC L) 101)).mono hG1.b.size))
  have hG2 := hG1.next (below_alloc1 w1 (.cells (rowsC L) 101))
  have x0 := hG2.x.cell 0 _ rfl
  unfold rowsC at x0
  clear hb hG1 hG2
  cases bl with
  | false =>
    go_wp2_with fail
    go_ret2
    exact ⟨rfl, HB.out⟩
  | true =>
    have hne : ¬ ((L.length : Int) = (P : Int)) := by
      have e1 := HBL.out rfl
      have e2 := HBAD.out rfl
      rw [hL e1.1 e1.2, nats_length]
      have := HLN.out
      omega
    clear hL hr
    go_wp2_with fail
    go_ret2
    exact ⟨rfl, HB.out⟩
end Go.Proofs.YtibennpdffgomaaDoor
