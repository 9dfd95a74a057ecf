/- The code of a field and a basis, coordinates, the matrix of a map: the model's. -/
import Derived.Test.YtilghmfffdmnjaaBasS
import Derived.Test.YtilghmfffdmnjaaListS
import Derived.Test.YtilghmfffdmnjaaLinS3
import Derived.Test.YtilghmfffdmnjaaMtRes
import Derived.Test.YtilghmfffdmnjaaOut
import Derived.Test.YtilghmfffdmnjaaRankS
import Derived.Test.YtilghmfffdmnjaaStep
namespace Go.Proofs.Ytilghmfffdmnjaa
open Go.RowKit Go.Joins
set_option linter.unusedVariables false

def cB (i b : Bool) : Int := if i then (if b then 0 else 4) else 2
set_option maxHeartbeats 1600000 in
theorem l03Based_any (m P n : Nat) (hF : Fld m P n) (b len cap : Nat) (zs : List Int) (i s : Bool) (hi : allIn n zs = i) (hs : i = true → basB m (nats zs) = s) (w : World) (hM : Mt w b len zs) :
    Calls Try.prog 76 #[.agg #[.int .i64 m, .int .i64 P], .slice (some ⟨b, 0, none⟩) len cap] w fun e w' => e = .returned (.int .i64 (cB i s)) ∧ Below w.heap.size w w' := by
  have S := fun w hM => l01List_any m P _ hF b len cap zs w hM
  rw [hi] at S
  have HS := Lib.hid S
  have HM := Lib.hid hM
  have hsm := hM.small
  cases i with
  | false =>
    clear S hM hs
    go_enter Try.func76, Try.ntmps76
    have h0 := FAt.start w m P 23
    go_wp2_with fail
    refine (HS.out _ (HM.out.below h0.b)).mono ?_
    rintro e w1 ⟨rfl, hb⟩
    have h1 := h0.next hb
    clear hb h0
    go_wp2
    go_ret
    exact ⟨rfl, h1.b⟩
  | true =>
    have hlt := nats_lt hi (by have := hF.n2; omega)
    have HRL := Lib.hid (hM.rl hi)
    have HB := fun w hR => l01Basis_any m P _ hF (some ⟨b, 0, none⟩) len cap (nats zs) hlt hsm w hR
    rw [hs rfl] at HB
    replace HB := Lib.hid HB
    generalize nats zs = p at HB HRL
    clear S hM hs hi hlt
    cases s with
    | false =>
      go_enter Try.func76, Try.ntmps76
      have h0 := FAt.start w m P 23
      go_wp2_with fail
      refine (HS.out _ (HM.out.below h0.b)).mono ?_
      rintro e w1 ⟨rfl, hb⟩
      have h1 := h0.next hb
      have c1 := h1.c0; have d1 := h1.c1
      clear hb h0
      go_wp2_with fail
      refine (HB.out _ (HRL.out.below h1.b)).mono ?_
      rintro e w3 ⟨rfl, hb⟩
      have h3 := h1.next hb
      clear hb h1 c1 d1
      go_wp2
      go_ret
      exact ⟨rfl, h3.b⟩
    | true =>
      go_enter Try.func76, Try.ntmps76
      have h0 := FAt.start w m P 23
      go_wp2_with fail
      refine (HS.out _ (HM.out.below h0.b)).mono ?_
      rintro e w1 ⟨rfl, hb⟩
      have h1 := h0.next hb
      have c1 := h1.c0; have d1 := h1.c1
      clear hb h0
      go_wp2_with fail
      refine (HB.out _ (HRL.out.below h1.b)).mono ?_
      rintro e w3 ⟨rfl, hb⟩
      have h3 := h1.next hb
      clear hb h1 c1 d1
      go_wp2
      go_ret
      exact ⟨rfl, h3.b⟩

end Go.Proofs.Ytilghmfffdmnjaa
