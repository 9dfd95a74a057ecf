/- Gabidulin codes that are valid: as numbers. -/
import Derived.Test.YtcdhdgflgdmhdaaDoorWRank
namespace Go.Proofs.YtcdhdgflgdmhdaaDoor
open Go.RowKit Go.Joins
set_option linter.unusedVariables false

/-- The points and the dimension of a Gabidulin code are right ones. -/
def gabB (n : Nat) (zs : List Int) (k : Int) : Bool := okW n zs && (decide ((joined [] (nats zs)).length = zs.length) && decide (1 ≤ k ∧ k ≤ zs.length))
theorem gabB_yes {n : Nat} {zs : List Int} {k : Int} (h : gabB n zs k = true) : okW n zs = true ∧ (joined [] (nats zs)).length = zs.length ∧ 1 ≤ k ∧ k ≤ zs.length := by
  simp only [gabB, Bool.and_eq_true, decide_eq_true_eq] at h; exact h
theorem gabB_no {n : Nat} {zs : List Int} {k : Int} (h : gabB n zs k = false) : okW n zs = false ∨ (okW n zs = true ∧ (joined [] (nats zs)).length ≠ zs.length) ∨ (okW n zs = true ∧ (joined [] (nats zs)).length = zs.length ∧ ¬ (1 ≤ k ∧ k ≤ zs.length)) := by
  by_cases h1 : okW n zs = true
  · by_cases h2 : (joined [] (nats zs)).length = zs.length
    · refine .inr (.inr ⟨h1, h2, fun h3 => ?_⟩)
      have : gabB n zs k = true := by simp only [gabB, Bool.and_eq_true, decide_eq_true_eq]; exact ⟨h1, h2, h3⟩
      rw [this] at h; cases h
    · exact .inr (.inl ⟨h1, h2⟩)
  · exact .inl (by simpa using h1)
theorem rank_le {m : Nat} {p : List Nat} (hp : ∀ r ∈ p, r < 2 ^ m) : (joined [] p).length ≤ m := (joined_spec p Ech.nil).1.len (joined_lt .nil (by simp) hp)
theorem joined_leX : ∀ (M L : List Nat), (joined L M).length ≤ L.length + M.length
  | [], L => by simp [joined]
  | r :: M, L => by
    have h1 : (add L r).length ≤ L.length + 1 := by
      by_cases h : rest L r = 0
      · rw [add_zero_rest h]; omega
      · rw [add_rest h, ins_len]; omega
    have h2 := joined_leX M (add L r)
    have h3 : joined L (r :: M) = joined (add L r) M := rfl
    rw [h3, List.length_cons]; omega
/-- What the program looks at, in its order. -/
theorem gabB_alt {m n : Nat} {zs : List Int} {k : Int} (hm : m ≤ 5) (hn : 2 ^ m = n) : gabB n zs k = false → allIn n zs = false ∨ (allIn n zs = true ∧ (k < 1 ∨ (zs.length : Int) < k)) ∨ (allIn n zs = true ∧ 1 ≤ k ∧ k ≤ zs.length ∧ (joined [] (nats zs)).length < zs.length) := by
  intro h
  cases hi : allIn n zs with
  | false => exact .inl rfl
  | true =>
    by_cases hk : k < 1 ∨ (zs.length : Int) < k
    · exact .inr (.inl ⟨rfl, hk⟩)
    · refine .inr (.inr ⟨rfl, by omega, by omega, ?_⟩)
      have hlt := lt_mem (nats_lt hi (by rw [← hn]; exact Nat.two_pow_pos m : 0 < n))
      rw [← hn] at hlt
      have hr := rank_le hlt
      have hl : (nats zs).length = zs.length := nats_length zs
      have hj : (joined [] (nats zs)).length ≤ (nats zs).length := by have := joined_leX (nats zs) []; simpa using this
      rcases gabB_no h with h1 | ⟨_, h1⟩ | ⟨_, _, h1⟩
      · have : zs.length < 1 ∨ 5 < zs.length := (okW_no h1).resolve_right (by rw [hi]; simp)
        omega
      · omega
      · omega
end Go.Proofs.YtcdhdgflgdmhdaaDoor
