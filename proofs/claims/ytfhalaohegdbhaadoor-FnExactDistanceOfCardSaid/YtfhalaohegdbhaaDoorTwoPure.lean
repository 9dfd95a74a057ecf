/- Spaces put together: when nothing is added. Pure, of no program. -/
import Derived.Test.YtfhalaohegdbhaaDoorColPure
namespace Go.Proofs.YtfhalaohegdbhaaDoor
set_option linter.unusedVariables false

theorem add_or (L : List Nat) (r : Nat) : add L r = L ∨ (add L r).length = L.length + 1 := by
  by_cases h : rest L r = 0
  · exact .inl (add_zero_rest h)
  · exact .inr (by rw [add_rest h, ins_len])
theorem joined_ge : ∀ (M L : List Nat), L.length ≤ (joined L M).length
  | [], L => Nat.le_refl _
  | r :: M, L => by
    have := joined_ge M (add L r)
    have e : joined L (r :: M) = joined (add L r) M := rfl
    rw [e]
    rcases add_or L r with h | h
    · rw [h] at this ⊢; exact this
    · omega
theorem joined_same : ∀ (M L : List Nat), (joined L M).length = L.length → joined L M = L
  | [], L, _ => rfl
  | r :: M, L, h => by
    have e : joined L (r :: M) = joined (add L r) M := rfl
    rw [e] at h ⊢
    rcases add_or L r with h1 | h1
    · rw [h1] at h ⊢; exact joined_same M L h
    · have := joined_ge M (add L r); omega
theorem joined_same_iff (L M : List Nat) : (joined L M).length = L.length ↔ joined L M = L := ⟨joined_same M L, fun h => by rw [h]⟩
theorem joined_append (L M : List Nat) : joined [] (L ++ M) = joined (joined [] L) M := List.foldl_append
end Go.Proofs.YtfhalaohegdbhaaDoor
