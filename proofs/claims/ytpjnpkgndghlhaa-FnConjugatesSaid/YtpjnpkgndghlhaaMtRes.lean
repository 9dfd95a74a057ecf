/- A made row as a result's row. -/
import Derived.Test.YtpjnpkgndghlhaaMt
import Derived.Test.YtpjnpkgndghlhaaRow
namespace Go.Proofs.Ytpjnpkgndghlhaa
open Go.RowKit Go.Joins
set_option linter.unusedVariables false

theorem Mt.res {W : World} {b n cap : Nat} {xs : List Int} (h : Mt W b n xs) {B : Nat} (hB : B ≤ b) : Res W B W.heap.size (.slice (some ⟨b, 0, none⟩) n cap) xs :=
  .row b n cap xs hB h.lt (Nat.le_refl _) h.len h.small h.cell (fun j _ => h.free j)
end Go.Proofs.Ytpjnpkgndghlhaa
