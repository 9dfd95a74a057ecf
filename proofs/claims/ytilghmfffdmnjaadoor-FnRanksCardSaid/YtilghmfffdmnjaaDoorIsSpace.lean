/- IsSpace: the program and the model. -/
import Derived.Test.YtilghmfffdmnjaaDoorSpaceS
namespace Go.Proofs.YtilghmfffdmnjaaDoor
open Go.RowKit Go.Joins
set_option linter.unusedVariables false

def fIsSpace (c : Int) (zs : List Int) : Bool := isSp c zs

set_option maxHeartbeats 1600000 in
theorem specIsSpace_anyR (c : Int) (A : Option Addr) (n cap : Nat) (xs : List Int) (w : World) (hM : Rd w w.heap.size A n xs) :
    Calls Tryd.prog 38 #[.agg #[.int .i64 c, .slice A n cap]] w fun e w' => e = .returned (.bool (fIsSpace c xs)) ∧ Below w.heap.size w w' := by
  have hX := Box.one w (.int .i64 c) (.slice A n cap) 50
  have hb0 := below_alloc1 w (.cells #[.int .i64 c, .slice A n cap] 50)
  have S := l02Space_anyR w.heap.size c A n cap xs _ ⟨⟨hX.c0, hX.c1, hX.lt⟩, hM.below hb0⟩
  unfold fIsSpace
  generalize isSp c xs = r at S ⊢
  have HS := Lib.hid S
  clear S
  go_enter Tryd.func38, Tryd.ntmps38
  go_wp2_with fail
  refine HS.out.mono ?_
  rintro e w1 ⟨rfl, hb⟩
  have hb1 := hb0.trans (hb.mono hb0.size)
  clear hb hb0
  go_wp2_with fail
  go_ret
  exact ⟨rfl, hb1⟩
theorem specIsSpace_any (c : Int) (b n cap : Nat) (xs : List Int) (w : World) (hM : Mt w b n xs) :
    Calls Tryd.prog 38 #[.agg #[.int .i64 c, .slice (some ⟨b, 0, none⟩) n cap]] w fun e w' => e = .returned (.bool (fIsSpace c xs)) ∧ Below w.heap.size w w' :=
  specIsSpace_anyR c (some ⟨b, 0, none⟩) n cap xs w hM.rd

set_option maxRecDepth 100000 in
set_option maxHeartbeats 1600000 in
theorem implIsSpace_anyR (c : Int) (A : Option Addr) (n cap : Nat) (xs : List Int) (w : World) (hM : Rd w w.heap.size A n xs) (hT : Tab w) :
    Calls Tryd.prog 43 #[.agg #[.int .i64 c, .slice A n cap]] w fun e w' => e = .returned (.bool (fIsSpace c xs)) ∧ Below w.heap.size w w' := by
  have hb0 := below_alloc1 w (.cells #[.int .i64 c, .slice A n cap] 50)
  have hM0 := hM.below hb0
  have hT0 := hT.below hb0
  unfold fIsSpace
  cases hk : isSp c xs with
  | false =>
    have S := spaceFor_noR c A n cap xs hk _ hM0 hT0
    have HS := Lib.hid S
    clear S hT hT0
    go_enter Tryd.func43, Tryd.ntmps43
    go_wp2_with fail
    refine HS.out.mono ?_
    rintro e w1 ⟨rfl, hb⟩
    have hb1 := hb0.trans (hb.mono hb0.size)
    obtain ⟨w2, hst, hG2, hb'⟩ := grid_put w1 [] 0 (by simp) (by intro j; simp [nth])
    have hb2 := hb1.trans (hb'.mono hb1.size)
    clear hb hb0 hb1 hb' hG2
    go_wp2_with fail
    go_ret
    exact ⟨rfl, hb2⟩
  | true =>
    obtain ⟨C, L, rfl, rfl, hO, hJ⟩ := isSp_yes hk
    have hn10 := hO.n10
    have hg := hO.get'
    have S := spaceFor_yesR C L hO hJ A n cap _ hM0 hT0
    have HS := Lib.hid S
    clear S hT hT0 hJ
    go_enter Tryd.func43, Tryd.ntmps43
    go_wp2_with fail
    refine HS.out.mono ?_
    rintro e w1 ⟨rfl, hb⟩
    have hb1 := hb0.trans (hb.mono hb0.size)
    obtain ⟨w2, hst, hG2, hb'⟩ := grid_put w1 L C hn10 (fun j => Nat.lt_trans (hg j) (by omega))
    have hb2 := hb1.trans (hb'.mono hb1.size)
    clear hb hb0 hb1 hb' hG2
    go_wp2_with fail
    go_ret
    exact ⟨rfl, hb2⟩
theorem implIsSpace_any (c : Int) (b n cap : Nat) (xs : List Int) (w : World) (hM : Mt w b n xs) (hT : Tab w) :
    Calls Tryd.prog 43 #[.agg #[.int .i64 c, .slice (some ⟨b, 0, none⟩) n cap]] w fun e w' => e = .returned (.bool (fIsSpace c xs)) ∧ Below w.heap.size w w' :=
  implIsSpace_anyR c (some ⟨b, 0, none⟩) n cap xs w hM.rd hT
end Go.Proofs.YtilghmfffdmnjaaDoor
