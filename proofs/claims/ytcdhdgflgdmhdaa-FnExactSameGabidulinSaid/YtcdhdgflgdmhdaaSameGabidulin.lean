/- SameGabidulin: the program and the model. -/
import Derived.Test.YtcdhdgflgdmhdaaSame00
import Derived.Test.YtcdhdgflgdmhdaaSame
import Derived.Test.YtcdhdgflgdmhdaaGab
namespace Go.Proofs.Ytcdhdgflgdmhdaa
open Go.RowKit Go.Joins
set_option linter.unusedVariables false

def fSameGabidulin (d p : Int) (z : List Int) (k d' p' : Int) (z' : List Int) (k' : Int) : Bool := decide (((d = d' ∧ p = p') ∧ k = k') ∧ z = z')
set_option maxHeartbeats 1600000 in
theorem specSameGabidulin_any (d p k : Int) (b n cap : Nat) (xs : List Int) (d' p' k' : Int) (b' n' cap' : Nat) (ys : List Int) (w : World) (hA : Mt w b n xs) (hB : Mt w b' n' ys) :
    Calls Try.prog 35 #[.agg (gabC d p (.slice (some ⟨b, 0, none⟩) n cap) k), .agg (gabC d' p' (.slice (some ⟨b', 0, none⟩) n' cap') k')] w fun e w' => e = .returned (.bool (fSameGabidulin d p xs k d' p' ys k')) ∧ Below w.heap.size w w' := by
  have hb1 := below_alloc1 w (.cells (gabC d p (.slice (some ⟨b, 0, none⟩) n cap) k) 53)
  have hb2 := below_alloc1 (w.alloc (.cells (gabC d p (.slice (some ⟨b, 0, none⟩) n cap) k) 53)) (.cells (gabC d' p' (.slice (some ⟨b', 0, none⟩) n' cap') k') 53)
  have hX := (Box4.one w (.int .i64 d) (.int .i64 p) (.slice (some ⟨b, 0, none⟩) n cap) (.int .i64 k) 53).next hb2
  have hY := Box4.one (w.alloc (.cells (gabC d p (.slice (some ⟨b, 0, none⟩) n cap) k) 53)) (.int .i64 d') (.int .i64 p') (.slice (some ⟨b', 0, none⟩) n' cap') (.int .i64 k') 53
  rw [World.size_alloc] at hY
  have hB2 := hb1.trans (hb2.mono hb1.size)
  have HX := Lib.hid hX
  have HY := Lib.hid hY
  have HBB := Lib.hid hB2
  have S := l00Same_any b n cap b' n' cap' xs ys _ (hA.below hB2) (hB.below hB2)
  clear hX hY hb1 hb2 hB2
  unfold fSameGabidulin
  by_cases hd : d = d' ∧ p = p'
  · obtain ⟨rfl, rfl⟩ := hd
    obtain ⟨r, hr⟩ : ∃ r, decide (xs = ys) = r := ⟨_, rfl⟩
    rw [hr] at S
    have HS := Lib.hid S
    have HR := Lib.hid hr
    clear S hr
    go_enter Try.func35, Try.ntmps35
    go_wp2_with fail
    refine HS.out.mono ?_
    rintro e w1 ⟨rfl, hb⟩
    have hX1 := HX.out.next hb; have hY1 := HY.out.next hb
    have x3 := hX1.c3; have y3 := hY1.c3
    have HB := Lib.hid (HBB.out.trans (hb.mono HBB.out.size))
    clear hb hX1 hY1
    cases r with
    | false =>
      go_wp2_with fail
      all_goals
        go_ret
        exact ⟨ret_bool (by have := of_decide_eq_false HR.out; simp [this]), HB.out⟩
    | true =>
      go_wp2_with fail
      all_goals
        go_ret
        exact ⟨ret_bool (by have := of_decide_eq_true HR.out; apply Bool.eq_iff_iff.2; simp [this]), HB.out⟩
  · clear S
    go_enter Try.func35, Try.ntmps35
    go_wp2_with fail
    all_goals
      go_ret
      exact ⟨ret_bool (by simp only [hd, false_and]; first | rfl | simp | (simp; done)), below_alloc2 _ _ _⟩
set_option maxHeartbeats 1600000 in
theorem implSameGabidulin_any (d p k : Int) (b n cap : Nat) (xs : List Int) (d' p' k' : Int) (b' n' cap' : Nat) (ys : List Int) (w : World) (hA : Mt w b n xs) (hB : Mt w b' n' ys) :
    Calls Try.prog 37 #[.agg (gabC d p (.slice (some ⟨b, 0, none⟩) n cap) k), .agg (gabC d' p' (.slice (some ⟨b', 0, none⟩) n' cap') k')] w fun e w' => e = .returned (.bool (fSameGabidulin d p xs k d' p' ys k')) ∧ Below w.heap.size w w' := by
  have hb1 := below_alloc1 w (.cells (gabC d p (.slice (some ⟨b, 0, none⟩) n cap) k) 53)
  have hb2 := below_alloc1 (w.alloc (.cells (gabC d p (.slice (some ⟨b, 0, none⟩) n cap) k) 53)) (.cells (gabC d' p' (.slice (some ⟨b', 0, none⟩) n' cap') k') 53)
  have hB2 := hb1.trans (hb2.mono hb1.size)
  have HBB := Lib.hid hB2
  have S := slicesEqual_any b n cap b' n' cap' xs ys _ (hA.below hB2) (hB.below hB2)
  clear hb1 hb2 hB2
  unfold fSameGabidulin
  by_cases hd : (d = d' ∧ p = p') ∧ k = k'
  · obtain ⟨⟨rfl, rfl⟩, rfl⟩ := hd
    obtain ⟨r, hr⟩ : ∃ r, decide (xs = ys) = r := ⟨_, rfl⟩
    rw [hr] at S
    have HS := Lib.hid S
    have HR := Lib.hid hr
    clear S hr
    go_enter Try.func37, Try.ntmps37
    go_wp2_with fail
    refine HS.out.mono ?_
    rintro e w1 ⟨rfl, hb⟩
    have HB := Lib.hid (HBB.out.trans (hb.mono HBB.out.size))
    clear hb
    go_wp2_with fail
    go_ret
    exact ⟨ret_bool (by rw [← HR.out]; simp), HB.out⟩
  · clear S
    by_cases hd1 : d = d' ∧ p = p'
    · obtain ⟨rfl, rfl⟩ := hd1
      have hk : ¬ k = k' := fun e => hd ⟨⟨rfl, rfl⟩, e⟩
      go_enter Try.func37, Try.ntmps37
      go_wp2_with fail
      all_goals
        go_ret
        exact ⟨ret_bool (by simp), below_alloc2 _ _ _⟩
    · go_enter Try.func37, Try.ntmps37
      go_wp2_with fail
      all_goals
        go_ret
        exact ⟨ret_bool (by simp only [hd1, false_and]; first | rfl | simp | (simp; done)), below_alloc2 _ _ _⟩
end Go.Proofs.Ytcdhdgflgdmhdaa
