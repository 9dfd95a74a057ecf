/- A made row as a result's row. -/
import Derived.Test.YtlchelaohiojiaaMt
import Derived.Test.YtlchelaohiojiaaRow
namespace Go.Proofs.Ytlchelaohiojiaa
open Go.RowKit Go.Joins
set_option linter.unusedVariables false

theorem Mt.res {W : World} {b n cap : Nat} {xs : List Int} (h : Mt W b n xs) {B : Nat} (hB : B ≤ b) : Res W B W.heap.size (.slice (some ⟨b, 0, none⟩) n cap) xs :=
  .row b n cap xs hB h.lt (Nat.le_refl _) h.len h.small h.cell (fun j _ => h.free j)
theorem Res.rd {W : World} {B T : Nat} {v : Value} {xs : List Int} (h : Res W B T v xs) : ∃ A n cap, v = .slice A n cap ∧ Rd W T A n xs := by
  cases h with
  | nil A cap => exact ⟨A, 0, cap, rfl, rfl, by omega, fun j hj => by omega⟩
  | row g n cap xs h1 h2 h3 h4 h5 h6 h7 => exact ⟨_, n, cap, rfl, h4, h5, fun j hj => ⟨g, rfl, h2, h6 j hj⟩⟩
end Go.Proofs.Ytlchelaohiojiaa
