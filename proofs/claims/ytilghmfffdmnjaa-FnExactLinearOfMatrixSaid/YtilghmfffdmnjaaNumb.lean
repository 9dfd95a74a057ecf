/- The numbers of a linear polynomial: the program's. -/
import Derived.Test.YtilghmfffdmnjaaLinI4
namespace Go.Proofs.Ytilghmfffdmnjaa
open Go.RowKit Go.Joins
set_option linter.unusedVariables false

set_option maxHeartbeats 1600000 in
theorem numbers_any (A : Option Addr) (n cap : Nat) (p : List Nat) (hn : n ≤ 1048576) (hp : ∀ j, nth p j < 256) (w : World) (hR : Rl w .u8 A n p) :
    Calls Try.prog 68 #[.slice A n cap] w fun e w' => ∃ b, e = .returned (.slice (some ⟨b, 0, none⟩) n n) ∧ w.heap.size ≤ b ∧ Below w.heap.size w w' ∧ Mt w' b n (ints p) := by
  have HN := Lib.hid (numbersOf_any A n cap p hn hp w hR)
  clear hp hR
  go_enter Try.func68, Try.ntmps68
  go_wp2_with fail
  refine HN.out.mono ?_
  rintro e w1 ⟨b, rfl, h1, h2, h3⟩
  have H2 := Lib.hid h2
  have H3 := Lib.hid h3
  clear h2 h3
  go_wp2_with fail
  go_ret
  exact ⟨b, rfl, h1, H2.out, H3.out⟩
end Go.Proofs.Ytilghmfffdmnjaa
