/- SameCode: the program and the model. -/
import Derived.Test.YtljaabmemjehpaaRowsS
import Derived.Test.YtljaabmemjehpaaCode
namespace Go.Proofs.Ytljaabmemjehpaa
open Go.RowKit Go.Joins
set_option linter.unusedVariables false

def fSameCode (d p l : Int) (z : List (List Int)) (d' p' l' : Int) (z' : List (List Int)) : Bool := decide (((d = d' ∧ p = p') ∧ l = l') ∧ z = z')
set_option maxHeartbeats 1600000 in
theorem implSameCode_any (d p l : Int) (v : Value) (xs : List (List Int)) (d' p' l' : Int) (v' : Value) (ys : List (List Int)) (w : World) (hA : RR w v xs) (hB : RR w v' ys) :
    Calls Try.prog 114 #[.agg (codL d p l v).toArray, .agg (codL d' p' l' v').toArray] w fun e w' => e = .returned (.bool (fSameCode d p l xs d' p' l' ys)) ∧ Below w.heap.size w w' := by
  obtain ⟨A, cap, rfl⟩ := hA.is
  obtain ⟨A', cap', rfl⟩ := hB.is
  obtain ⟨n, la⟩ : ∃ n, xs.length = n := ⟨_, rfl⟩
  obtain ⟨n', lb⟩ : ∃ n', ys.length = n' := ⟨_, rfl⟩
  rw [la] at hA ⊢
  rw [lb] at hB ⊢
  clear la lb
  have hG := G2.start w (codL d p l (.slice A n cap)) (codL d' p' l' (.slice A' n' cap')) 33 33
  have S := equalFuncR (hA.next hG.b) (hB.next hG.b)
  have HG := Lib.hid hG
  clear hA hB hG
  unfold fSameCode
  by_cases hd : (d = d' ∧ p = p') ∧ l = l'
  · obtain ⟨⟨rfl, rfl⟩, rfl⟩ := hd
    obtain ⟨r, hr⟩ : ∃ r, decide (xs = ys) = r := ⟨_, rfl⟩
    rw [hr] at S
    have HS := Lib.hid S
    have HR := Lib.hid hr
    clear S hr
    go_enter Try.func114, Try.ntmps114
    go_wp2_with fail
    refine HS.out.mono ?_
    rintro e w1 ⟨rfl, hb⟩
    have HB := Lib.hid (HG.out.next hb).b
    clear hb
    go_wp2_with fail
    go_ret
    exact ⟨ret_bool (by rw [← HR.out]; simp), HB.out⟩
  · clear S
    by_cases hd1 : d = d' ∧ p = p'
    · obtain ⟨rfl, rfl⟩ := hd1
      have hk : ¬ l = l' := fun e => hd ⟨⟨rfl, rfl⟩, e⟩
      go_enter Try.func114, Try.ntmps114
      go_wp2_with fail
      all_goals
        go_ret
        exact ⟨ret_bool (by simp), below_alloc2 _ _ _⟩
    · go_enter Try.func114, Try.ntmps114
      go_wp2_with fail
      all_goals
        go_ret
        exact ⟨ret_bool (by simp only [hd1, false_and]; first | rfl | simp | (simp; done)), below_alloc2 _ _ _⟩
end Go.Proofs.Ytljaabmemjehpaa
