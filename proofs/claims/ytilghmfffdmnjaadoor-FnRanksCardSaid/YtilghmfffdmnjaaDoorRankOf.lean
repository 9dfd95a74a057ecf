/- RankOf: the program and the model. -/
import Derived.Test.YtilghmfffdmnjaaDoorValid
import Derived.Test.YtilghmfffdmnjaaDoorGridFor
import Derived.Test.YtilghmfffdmnjaaDoorJoined
import Derived.Test.YtilghmfffdmnjaaDoorRankS
namespace Go.Proofs.YtilghmfffdmnjaaDoor
open Go.RowKit Go.Joins
set_option linter.unusedVariables false

/-- The rank of a matrix, with ErrInvalid first. -/
def fRankOf (c : Int) (zs : List Int) : Int × Int := if okM c zs = true then ((((joined [] (zs.map Int.toNat)).length : Nat) : Int), 0) else (0, 1)
theorem fRank_yes {C : Nat} {L : List Nat} (hO : OkM C L) : fRankOf C (ints L) = ((((joined [] L).length : Nat) : Int), 0) := by rw [fRankOf, if_pos (okM_ints hO), toNats_ints]
theorem fRank_no {c : Int} {zs : List Int} (h : okM c zs = false) : fRankOf c zs = (0, 1) := by rw [fRankOf, if_neg (by rw [h]; simp)]


theorem field_rows (v0 v1 v2 v3 v4 v5 v6 v7 v8 v9 v10 v11 : Value) (w : World) : (Instr.field 105 (.agg #[v0, v1, v2, v3, v4, v5, v6, v7, v8, v9, v10, v11]) 0).run Tryd.prog w = .ok (.agg #[v0, v1, v2, v3, v4, v5, v6, v7, v8, v9, v10]) w := by kernel_rfl
theorem field_count (v0 v1 v2 v3 v4 v5 v6 v7 v8 v9 v10 : Value) (w : World) : (Instr.field 103 (.agg #[v0, v1, v2, v3, v4, v5, v6, v7, v8, v9, v10]) 0).run Tryd.prog w = .ok v0 w := by kernel_rfl

set_option maxRecDepth 100000 in
set_option maxHeartbeats 1600000 in
theorem implRankOf_anyR (c : Int) (A : Option Addr) (n cap : Nat) (xs : List Int) (w : World) (hM : Rd w w.heap.size A n xs) (hT : Tab w) :
    Calls Tryd.prog 32 #[.agg #[.int .i64 c, .slice A n cap]] w fun e w' => e = .returned (.tuple #[.int .i64 (fRankOf c xs).1, .int .i64 (fRankOf c xs).2]) ∧ Below w.heap.size w w' := by
  have hb0 := fun (c : Int) => below_alloc1 w (.cells #[.int .i64 c, .slice A n cap] 50)
  cases hk : okM c xs with
  | false =>
    rw [fRank_no hk]
    have hb0 := hb0 c
    go_enter Tryd.func32, Tryd.ntmps32
    go_wp2_with fail
    refine (gridFor_noR c A n cap xs _ (hM.below hb0) hk).mono ?_
    rintro e w1 ⟨rfl, hb⟩
    have hb1 := hb0.trans (hb.mono hb0.size)
    obtain ⟨w2, hst, hG2, hb'⟩ := grid_put w1 [] 0 (by simp) (by intro j; simp [nth])
    have hb2 := hb1.trans (hb'.mono hb1.size)
    clear hb hb0 hb1 hb' hT
    go_wp2_with fail
    go_ret2
    exact ⟨rfl, hb2⟩
  | true =>
    obtain ⟨C, L, rfl, rfl, hO⟩ := okM_nat hk
    rw [fRank_yes hO]
    have hb0 := hb0 C
    have hn10 := hO.n10
    have hc10 := hO.c10
    have hg := hO.get'
    have E := fun w hT => echelon_any C L hc10 hO.lt hn10 w hT
    generalize joined [] L = J at E ⊢
    have EE := Lib.hid E
    clear E
    go_enter Tryd.func32, Tryd.ntmps32
    go_wp2_with fail
    refine (gridFor_yesR C L hO A n cap _ (hM.below hb0)).mono ?_
    rintro e w1 ⟨rfl, hb⟩
    have hb1 := hb0.trans (hb.mono hb0.size)
    obtain ⟨w2, hst, hG2, hb'⟩ := grid_put w1 L C hn10 (fun j => Nat.lt_trans (hg j) (by omega))
    have hb2 := hb1.trans (hb'.mono hb1.size)
    have HS := Lib.hid (EE.out _ (hT.below hb2))
    obtain ⟨g0, g1, g2, g3, g4, g5, g6, g7, g8, g9, g10, g11⟩ := hG2.facts
    clear hb hb0 hb1 hb' hT hG2
    go_wp2_with fail
    refine HS.out.mono ?_
    rintro e w3 ⟨rfl, hb⟩
    have hb3 := hb2.trans (hb.mono hb2.size)
    clear hb hb2 g0 g1 g2 g3 g4 g5 g6 g7 g8 g9 g10 g11
    have hf1 := field_rows
    have hf2 := field_count
    simp only [gridC]
    go_wp2_with fail
    go_ret2
    exact ⟨rfl, hb3⟩
theorem implRankOf_any (c : Int) (b n cap : Nat) (xs : List Int) (w : World) (hM : Mt w b n xs) (hT : Tab w) :
    Calls Tryd.prog 32 #[.agg #[.int .i64 c, .slice (some ⟨b, 0, none⟩) n cap]] w fun e w' => e = .returned (.tuple #[.int .i64 (fRankOf c xs).1, .int .i64 (fRankOf c xs).2]) ∧ Below w.heap.size w w' :=
  implRankOf_anyR c (some ⟨b, 0, none⟩) n cap xs w hM.rd hT
end Go.Proofs.YtilghmfffdmnjaaDoor
