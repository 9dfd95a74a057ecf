/- SameNet: the program and the model. -/
import Derived.Test.YtfpahdbkcdpchaaSameR
import Derived.Test.YtfpahdbkcdpchaaNet
namespace Go.Proofs.Ytfpahdbkcdpchaa
open Go.RowKit Go.Joins
set_option linter.unusedVariables false

def fSameNet (d p no me : Int) (z y : List (List Int)) (d' p' no' me' : Int) (z' y' : List (List Int)) : Bool := decide ((((d = d' ∧ p = p') ∧ no = no') ∧ me = me') ∧ z = z' ∧ y = y')
set_option maxHeartbeats 3200000 in
theorem specSameNet_any (d p no me : Int) (v u : Value) (z y : List (List Int)) (d' p' no' me' : Int) (v' u' : Value) (z' y' : List (List Int)) (w : World) (hA : RR w v z ∧ RR w u y) (hB : RR w v' z' ∧ RR w u' y') :
    Calls Try.prog 49 #[.agg (netL d p no me v u).toArray, .agg (netL d' p' no' me' v' u').toArray] w fun e w' => e = .returned (.bool (fSameNet d p no me z y d' p' no' me' z' y')) ∧ Below w.heap.size w w' := by
  obtain ⟨hA, kA⟩ := hA
  obtain ⟨hB, kB⟩ := hB
  obtain ⟨A, cap, rfl⟩ := hA.is
  obtain ⟨A', cap', rfl⟩ := hB.is
  obtain ⟨C, ccap, rfl⟩ := kA.is
  obtain ⟨C', ccap', rfl⟩ := kB.is
  obtain ⟨n, la⟩ : ∃ n, z.length = n := ⟨_, rfl⟩
  obtain ⟨n', lb⟩ : ∃ n', z'.length = n' := ⟨_, rfl⟩
  obtain ⟨m, lc⟩ : ∃ m, y.length = m := ⟨_, rfl⟩
  obtain ⟨m', ld⟩ : ∃ m', y'.length = m' := ⟨_, rfl⟩
  rw [la] at hA ⊢
  rw [lb] at hB ⊢
  rw [lc] at kA ⊢
  rw [ld] at kB ⊢
  clear la lb lc ld
  have hG := G2.start w (netL d p no me (.slice A n cap) (.slice C m ccap)) (netL d' p' no' me' (.slice A' n' cap') (.slice C' m' ccap')) 62 62
  have S := l04SameRowsR (hA.next hG.b) (hB.next hG.b)
  have KA := Lib.hid (kA.next hG.b)
  have KB := Lib.hid (kB.next hG.b)
  have HG := Lib.hid hG
  clear hA hB hG kA kB
  unfold fSameNet
  by_cases hd : ((d = d' ∧ p = p') ∧ no = no') ∧ me = me'
  · obtain ⟨⟨⟨rfl, rfl⟩, rfl⟩, rfl⟩ := hd
    obtain ⟨r, hr⟩ : ∃ r, decide (z = z') = r := ⟨_, rfl⟩
    rw [hr] at S
    have HS := Lib.hid S
    have HR := Lib.hid hr
    clear S hr
    cases r with
    | true =>
      obtain ⟨r, hr⟩ : ∃ r, decide (y = y') = r := ⟨_, rfl⟩
      have HR2 := Lib.hid hr
      clear hr
      go_enter Try.func49, Try.ntmps49
      go_wp2_with fail
      refine HS.out.mono ?_
      rintro e w1 ⟨rfl, hb⟩
      have hG := HG.out.next hb
      have S := l04SameRowsR (KA.out.next hb) (KB.out.next hb)
      rw [HR2.out] at S
      have HS2 := Lib.hid S
      have x5 := hG.x.cell 5 _ rfl; have y5 := hG.y.cell 5 _ rfl
      have HG1 := Lib.hid hG
      clear hb S hG
      go_wp2_with fail
      refine HS2.out.mono ?_
      rintro e w2 ⟨rfl, hb⟩
      have HB := Lib.hid (HG1.out.next hb).b
      clear hb x5 y5
      go_wp2_with fail
      go_ret
      exact ⟨ret_bool (by have := of_decide_eq_true HR.out; rw [← HR2.out]; simp [this]), HB.out⟩
    | false =>
      go_enter Try.func49, Try.ntmps49
      go_wp2_with fail
      refine HS.out.mono ?_
      rintro e w1 ⟨rfl, hb⟩
      have HB := Lib.hid (HG.out.next hb).b
      clear hb
      go_wp2_with fail
      go_ret
      exact ⟨ret_bool (by have := of_decide_eq_false HR.out; simp [this]), HB.out⟩
  · clear S
    have HD := Lib.hid hd
    clear hd
    by_cases hd1 : d = d' ∧ p = p'
    · obtain ⟨rfl, rfl⟩ := hd1
      by_cases h2 : no = no'
      · subst h2
        have hk : ¬ me = me' := fun e => HD.out ⟨⟨⟨rfl, rfl⟩, rfl⟩, e⟩
        go_enter Try.func49, Try.ntmps49
        go_wp2_with fail
        all_goals
          go_ret
          exact ⟨ret_bool (by simp), below_alloc2 _ _ _⟩
      · go_enter Try.func49, Try.ntmps49
        go_wp2_with fail
        all_goals
          go_ret
          exact ⟨ret_bool (by simp), below_alloc2 _ _ _⟩
    · go_enter Try.func49, Try.ntmps49
      go_wp2_with fail
      all_goals
        go_ret
        exact ⟨ret_bool (by simp only [hd1, false_and]; first | rfl | simp | (simp; done)), below_alloc2 _ _ _⟩
set_option maxHeartbeats 3200000 in
theorem implSameNet_any (d p no me : Int) (v u : Value) (z y : List (List Int)) (d' p' no' me' : Int) (v' u' : Value) (z' y' : List (List Int)) (w : World) (hA : RR w v z ∧ RR w u y) (hB : RR w v' z' ∧ RR w u' y') :
    Calls Try.prog 51 #[.agg (netL d p no me v u).toArray, .agg (netL d' p' no' me' v' u').toArray] w fun e w' => e = .returned (.bool (fSameNet d p no me z y d' p' no' me' z' y')) ∧ Below w.heap.size w w' := by
  obtain ⟨hA, kA⟩ := hA
  obtain ⟨hB, kB⟩ := hB
  obtain ⟨A, cap, rfl⟩ := hA.is
  obtain ⟨A', cap', rfl⟩ := hB.is
  obtain ⟨C, ccap, rfl⟩ := kA.is
  obtain ⟨C', ccap', rfl⟩ := kB.is
  obtain ⟨n, la⟩ : ∃ n, z.length = n := ⟨_, rfl⟩
  obtain ⟨n', lb⟩ : ∃ n', z'.length = n' := ⟨_, rfl⟩
  obtain ⟨m, lc⟩ : ∃ m, y.length = m := ⟨_, rfl⟩
  obtain ⟨m', ld⟩ : ∃ m', y'.length = m' := ⟨_, rfl⟩
  rw [la] at hA ⊢
  rw [lb] at hB ⊢
  rw [lc] at kA ⊢
  rw [ld] at kB ⊢
  clear la lb lc ld
  have hG := G2.start w (netL d p no me (.slice A n cap) (.slice C m ccap)) (netL d' p' no' me' (.slice A' n' cap') (.slice C' m' ccap')) 62 62
  have S := equalFuncR (hA.next hG.b) (hB.next hG.b)
  have KA := Lib.hid (kA.next hG.b)
  have KB := Lib.hid (kB.next hG.b)
  have HG := Lib.hid hG
  clear hA hB hG kA kB
  unfold fSameNet
  by_cases hd : ((d = d' ∧ p = p') ∧ no = no') ∧ me = me'
  · obtain ⟨⟨⟨rfl, rfl⟩, rfl⟩, rfl⟩ := hd
    obtain ⟨r, hr⟩ : ∃ r, decide (z = z') = r := ⟨_, rfl⟩
    rw [hr] at S
    have HS := Lib.hid S
    have HR := Lib.hid hr
    clear S hr
    cases r with
    | true =>
      obtain ⟨r, hr⟩ : ∃ r, decide (y = y') = r := ⟨_, rfl⟩
      have HR2 := Lib.hid hr
      clear hr
      go_enter Try.func51, Try.ntmps51
      go_wp2_with fail
      refine HS.out.mono ?_
      rintro e w1 ⟨rfl, hb⟩
      have hG := HG.out.next hb
      have S := equalFuncR (KA.out.next hb) (KB.out.next hb)
      rw [HR2.out] at S
      have HS2 := Lib.hid S
      have x5 := hG.x.cell 5 _ rfl; have y5 := hG.y.cell 5 _ rfl
      have HG1 := Lib.hid hG
      clear hb S hG
      go_wp2_with fail
      refine HS2.out.mono ?_
      rintro e w2 ⟨rfl, hb⟩
      have HB := Lib.hid (HG1.out.next hb).b
      clear hb x5 y5
      go_wp2_with fail
      go_ret
      exact ⟨ret_bool (by have := of_decide_eq_true HR.out; rw [← HR2.out]; simp [this]), HB.out⟩
    | false =>
      go_enter Try.func51, Try.ntmps51
      go_wp2_with fail
      refine HS.out.mono ?_
      rintro e w1 ⟨rfl, hb⟩
      have HB := Lib.hid (HG.out.next hb).b
      clear hb
      go_wp2_with fail
      go_ret
      exact ⟨ret_bool (by have := of_decide_eq_false HR.out; simp [this]), HB.out⟩
  · clear S
    have HD := Lib.hid hd
    clear hd
    by_cases hd1 : d = d' ∧ p = p'
    · obtain ⟨rfl, rfl⟩ := hd1
      by_cases h2 : no = no'
      · subst h2
        have hk : ¬ me = me' := fun e => HD.out ⟨⟨⟨rfl, rfl⟩, rfl⟩, e⟩
        go_enter Try.func51, Try.ntmps51
        go_wp2_with fail
        all_goals
          go_ret
          exact ⟨ret_bool (by simp), below_alloc2 _ _ _⟩
      · go_enter Try.func51, Try.ntmps51
        go_wp2_with fail
        all_goals
          go_ret
          exact ⟨ret_bool (by simp), below_alloc2 _ _ _⟩
    · go_enter Try.func51, Try.ntmps51
      go_wp2_with fail
      all_goals
        go_ret
        exact ⟨ret_bool (by simp only [hd1, false_and]; first | rfl | simp | (simp; done)), below_alloc2 _ _ _⟩
end Go.Proofs.Ytfpahdbkcdpchaa
