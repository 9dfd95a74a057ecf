/- The program's calculator: its small methods. · The program's calculator: its table of products. · The program's calculator: its table is filled. -/
import Derived.Test.YtlchelaohiojiabImplField
import Derived.Test.YtlchelaohiojiabFld
namespace Go.Proofs.Ytlchelaohiojiab
open Go.RowKit
set_option linter.unusedVariables false




theorem mul_bits (p q k : Nat) (hp : p < 1024) (hk : k ≤ 5) : bits .xor .i64 ((cl k p q : Nat) : Int) (wrap64 ((p : Int) * 2 ^ k)) = ((cl k p q ^^^ (p * 2 ^ k) : Nat) : Int) := by
  have h1 : cl k p q < 2 ^ (10 + k) := cl_lt (by omega) k
  have h2 : 2 ^ (10 + k) ≤ 2 ^ 15 := Nat.pow_le_pow_right (by omega) (by omega)
  have h3 : p * 2 ^ k < 2 ^ 10 * 2 ^ k := Nat.mul_lt_mul_of_pos_right (by omega) (Nat.two_pow_pos _)
  rw [← Nat.pow_add] at h3
  rw [shl_nat _ _ (by omega), i64_xor_nat _ _ (by omega) (by omega)]

end Go.Proofs.Ytlchelaohiojiab
namespace Go.Proofs.Ytlchelaohiojiab
open Go.RowKit
set_option linter.unusedVariables false

/-- In the world W a calculator of the field lies at the block c. -/
structure Calc (c m P n : Nat) (W : World) : Prop where
  deg : W.cell? ⟨c, 0, none⟩ = some (.int .i64 m)
  tab : ∀ a b : Nat, a < n → b < n → W.cell? ⟨c, 1 + a * 32 + b, none⟩ = some (.int .u8 (mul P a b))



end Go.Proofs.Ytlchelaohiojiab
namespace Go.Proofs.Ytlchelaohiojiab
open Go.RowKit
set_option linter.unusedVariables false

/-- The table at the block c is filled up to the place (i, j); nothing below c has changed since w. -/
structure Filled (c m P n : Nat) (w wr : World) (i j : Nat) : Prop where
  b : Below c w wr
  deg : wr.cell? ⟨c, 0, none⟩ = some (.int .i64 m)
  frz : ∀ x, x < 1025 → wr.frozen? ⟨c, x, none⟩ = false
  old : ∀ x, x < 1025 → ∃ v, wr.cell? ⟨c, x, none⟩ = some v
  tab : ∀ a b : Nat, a < n → b < n → a < i ∨ (a = i ∧ b < j) → wr.cell? ⟨c, 1 + a * 32 + b, none⟩ = some (.int .u8 (mul P a b))
  sz : wr.heap.size = w.heap.size

set_option maxHeartbeats 1000000 in
theorem Filled.step {c m P n : Nat} {w wr : World} {i j : Nat} (hF : Fld m P n) (h : Filled c m P n w wr i j) (hi : i < n) (hj : j < n) (q : Nat) :
    Filled c m P n w ((wr.drewN q).setCell ⟨c, 1 + i * 32 + j, none⟩ (.int .u8 (mul P i j))) i (j + 1) := by
  have h5 := hF.n32
  have other : ∀ x, x ≠ 1 + i * 32 + j → ((wr.drewN q).setCell ⟨c, 1 + i * 32 + j, none⟩ (.int .u8 (mul P i j))).cell? ⟨c, x, none⟩ = wr.cell? ⟨c, x, none⟩ := fun x hx =>
    World.cell?_setCell_other (wr.drewN q) ⟨c, 1 + i * 32 + j, none⟩ ⟨c, x, none⟩ _ (fun e => hx (by injection e with _ e _; exact e.symm))
  have here : ((wr.drewN q).setCell ⟨c, 1 + i * 32 + j, none⟩ (.int .u8 (mul P i j))).cell? ⟨c, 1 + i * 32 + j, none⟩ = some (.int .u8 (mul P i j)) := by
    obtain ⟨v, hv⟩ := h.old (1 + i * 32 + j) (by omega)
    exact World.cell?_setCell_same' _ _ _ (by show (wr.cell? _).isSome = true; rw [hv]; rfl)
  refine ⟨(below_drewN h.b q).setCell (p := ⟨c, 1 + i * 32 + j, none⟩) (Nat.le_refl _) _, ?_, ?_, ?_, ?_, ?_⟩
  · rw [other 0 (by omega)]; exact h.deg
  · intro x hx
    rw [World.frozen?_setCell]
    exact h.frz x hx
  · intro x hx
    by_cases e : x = 1 + i * 32 + j
    · subst e; exact ⟨_, here⟩
    · rw [other x e]; exact h.old x hx
  · intro a b ha hb hab
    by_cases e : 1 + a * 32 + b = 1 + i * 32 + j
    · have ea : a = i := by omega
      have eb : b = j := by omega
      subst ea eb
      exact here
    · rw [other _ e]
      exact h.tab a b ha hb (by
        rcases hab with hab | ⟨hab, hb'⟩
        · exact .inl hab
        · exact .inr ⟨hab, by omega⟩)
  · rw [← h.sz]
    show (Array.modify _ _ _).size = _
    rw [Array.size_modify]; rfl
theorem Filled.row {c m P n : Nat} {w wr : World} {i : Nat} (h : Filled c m P n w wr i n) : Filled c m P n w wr (i + 1) 0 :=
  ⟨h.b, h.deg, h.frz, h.old, fun a b ha hb hab => h.tab a b ha hb (by omega), h.sz⟩

end Go.Proofs.Ytlchelaohiojiab
