/- Two spaces: the model's checks, their sum. -/
import Derived.Test.YtfhalaohegdbhaaDoorSpaceS
import Derived.Test.YtfhalaohegdbhaaDoorOwn2
import Derived.Deep.RegionHeldLaw
namespace Go.Proofs.YtfhalaohegdbhaaDoor
open Go.RowKit Go.Joins
set_option linter.unusedVariables false

/-- What a function of two spaces checks first. -/
def both (c : Int) (zs : List Int) (d : Int) (ys : List Int) : Int := if isSp c zs = true ∧ isSp d ys = true then (if c = d then 0 else 2) else 1

theorem both_no1 {c : Int} {zs : List Int} {d : Int} {ys : List Int} (h : isSp c zs = false) : both c zs d ys = 1 := by simp [both, h]
theorem both_no2 {c : Int} {zs : List Int} {d : Int} {ys : List Int} (h : isSp d ys = false) : both c zs d ys = 1 := by simp [both, h]
theorem both_range {c : Int} {zs : List Int} {d : Int} {ys : List Int} (h : isSp c zs = true) (k : isSp d ys = true) (hne : ¬ c = d) : both c zs d ys = 2 := by simp [both, h, k, hne]
theorem both_ok {c : Int} {zs : List Int} {d : Int} {ys : List Int} (h : isSp c zs = true) (k : isSp d ys = true) (he : c = d) : both c zs d ys = 0 := by rw [both, if_pos ⟨h, k⟩, if_pos he]

set_option maxRecDepth 100000 in
set_option maxHeartbeats 3200000 in
theorem l02Both_any (q : Nat) (c : Int) (b n cap : Nat) (xs : List Int) (q' : Nat) (d : Int) (b' n' cap' : Nat) (ys : List Int) (w : World) (hS : Sp1 w q c b n cap xs) (hT : Sp1 w q' d b' n' cap' ys) :
    Calls Tryd.prog 63 #[.pointer (some ⟨q, 0, none⟩), .pointer (some ⟨q', 0, none⟩)] w fun e w' => e = .returned (.int .i64 (both c xs d ys)) ∧ Below w.heap.size w w' := by
  have S := l02Space_any q c b n cap xs w hS
  have U := fun w hT => l02Space_any q' d b' n' cap' ys w hT
  cases hk : isSp c xs with
  | false =>
    rw [both_no1 hk]
    rw [hk] at S
    have HS := Lib.hid S
    clear S U hS hT
    go_enter Tryd.func63, Tryd.ntmps63
    go_wp2_with fail
    refine HS.out.mono ?_
    rintro e w1 ⟨rfl, hb1⟩
    go_wp2_with fail
    go_ret
    exact ⟨rfl, hb1⟩
  | true =>
    rw [hk] at S
    have HS := Lib.hid S
    cases hl : isSp d ys with
    | false =>
      rw [both_no2 hl]
      rw [hl] at U
      have HU := Lib.hid U
      clear S U
      go_enter Tryd.func63, Tryd.ntmps63
      go_wp2_with fail
      refine HS.out.mono ?_
      rintro e w1 ⟨rfl, hb1⟩
      have hT1 := hT.below hb1
      clear hS hT
      go_wp2_with fail
      refine (HU.out _ hT1).mono ?_
      rintro e w2 ⟨rfl, hb2⟩
      have hb := hb1.trans (hb2.mono hb1.size)
      clear hb1 hb2 hT1
      go_wp2_with fail
      go_ret
      exact ⟨rfl, hb⟩
    | true =>
      rw [hl] at U
      have HU := Lib.hid U
      clear S U
      by_cases hcd : c = d
      · rw [both_ok hk hl hcd]
        subst hcd
        go_enter Tryd.func63, Tryd.ntmps63
        go_wp2_with fail
        refine HS.out.mono ?_
        rintro e w1 ⟨rfl, hb1⟩
        have hS1 := hS.below hb1
        have hT1 := hT.below hb1
        clear hS hT
        go_wp2_with fail
        refine (HU.out _ hT1).mono ?_
        rintro e w2 ⟨rfl, hb2⟩
        have hb := hb1.trans (hb2.mono hb1.size)
        have hS2 := hS1.below hb2
        have hT2 := hT1.below hb2
        have q0 := hS2.m.c0
        have r0 := hT2.m.c0
        clear hb1 hb2 hT1 hS1 hS2 hT2
        go_wp2_with fail
        go_quiet (fail)
        go_wp2_with fail
        go_ret
        exact ⟨rfl, hb.trans (below_draws _ _ _)⟩
      · rw [both_range hk hl hcd]
        go_enter Tryd.func63, Tryd.ntmps63
        go_wp2_with fail
        refine HS.out.mono ?_
        rintro e w1 ⟨rfl, hb1⟩
        have hS1 := hS.below hb1
        have hT1 := hT.below hb1
        clear hS hT
        go_wp2_with fail
        refine (HU.out _ hT1).mono ?_
        rintro e w2 ⟨rfl, hb2⟩
        have hb := hb1.trans (hb2.mono hb1.size)
        have hS2 := hS1.below hb2
        have hT2 := hT1.below hb2
        have q0 := hS2.m.c0
        have r0 := hT2.m.c0
        clear hb1 hb2 hT1 hS1 hS2 hT2
        go_wp2_with fail
        go_quiet (fail)
        go_wp2_with fail
        go_ret
        exact ⟨rfl, hb.trans (below_draws _ _ _)⟩
end Go.Proofs.YtfhalaohegdbhaaDoor
