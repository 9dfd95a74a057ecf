/- SpaceOf: the program and the model. -/
import Derived.Test.YtilghmfffdmnjaaDoorEchelonOf
namespace Go.Proofs.YtilghmfffdmnjaaDoor
open Go.RowKit Go.Joins
set_option linter.unusedVariables false

def fSpaceOf (c : Int) (zs : List Int) : Int × List Int × Int := fEchelonOf c zs


set_option maxHeartbeats 1600000 in
theorem implSpaceOf_anyR (c : Int) (A : Option Addr) (n cap : Nat) (xs : List Int) (w : World) (hM : Rd w w.heap.size A n xs) (hT : Tab w) :
    Calls Tryd.prog 40 #[.agg #[.int .i64 c, .slice A n cap]] w fun e w' => ∃ v, e = .returned (.tuple #[.agg #[.int .i64 (fSpaceOf c xs).1, v], .int .i64 (fSpaceOf c xs).2.2]) ∧ Below w.heap.size w w' ∧ Res w' w.heap.size w'.heap.size v (fSpaceOf c xs).2.1 := by
  unfold fSpaceOf
  have E := fun w hM hT => implEchelonOf_anyR c A n cap xs w hM hT
  generalize fEchelonOf c xs = r at E ⊢
  obtain ⟨r1, r2, r3⟩ := r
  dsimp only at E ⊢
  have HE := Lib.hid E
  clear E
  have hR : MRoom ((w.alloc (.cells #[.int .i64 c, .slice A n cap] 50)).alloc (.cells #[.int .i64 0, .slice none 0 0] 50)) (w.heap.size + 1) := by simpa using MRoom.start (w.alloc (.cells #[.int .i64 c, .slice A n cap] 50)) (.int .i64 0) (.slice none 0 0) 50
  have hb0 := below_alloc2 w (.cells #[.int .i64 c, .slice A n cap] 50) (.cells #[.int .i64 0, .slice none 0 0] 50)
  have hM0 := hM.below hb0
  have HT0 := Lib.hid (hT.below hb0)
  have hrz := hR.lt
  clear hT
  go_enter Tryd.func40, Tryd.ntmps40
  go_wp2_with fail
  refine (HE.out _ hM0 HT0.out).mono ?_
  rintro e w1 ⟨v, rfl, hb, hV⟩
  have hR1 := hR.below hb
  have hs1 := hb.size
  have hb1 := hb0.trans (hb.mono hb0.size)
  clear hb hR
  obtain ⟨x, y, h0, h1⟩ := hR1.ex
  have f0 := hR1.f0
  have f1 := hR1.f1
  obtain ⟨ao, m, cap', rfl⟩ := hV.form
  have HV := Lib.hid hV
  clear hV
  go_wp2_with fail
  refine bodyPost_ret (v := .tuple #[.agg #[.int .i64 r1, _], .int .i64 r3]) (mat_results (p := 2) (u := 3) (fn := Tryd.f40) rfl _ rfl (two_setCell _ _ _ _ h0 h1).1 (two_setCell _ _ _ _ h0 h1).2) rfl ⟨_, rfl, ?_, HV.out.fin (q := w.heap.size + 1) hrz (by simp; omega) _ _⟩
  exact (only2 _ _ _ _).below hb1 (by simp)
theorem implSpaceOf_any (c : Int) (b n cap : Nat) (xs : List Int) (w : World) (hM : Mt w b n xs) (hT : Tab w) :
    Calls Tryd.prog 40 #[.agg #[.int .i64 c, .slice (some ⟨b, 0, none⟩) n cap]] w fun e w' => ∃ v, e = .returned (.tuple #[.agg #[.int .i64 (fSpaceOf c xs).1, v], .int .i64 (fSpaceOf c xs).2.2]) ∧ Below w.heap.size w w' ∧ Res w' w.heap.size w'.heap.size v (fSpaceOf c xs).2.1 :=
  implSpaceOf_anyR c (some ⟨b, 0, none⟩) n cap xs w hM.rd hT
end Go.Proofs.YtilghmfffdmnjaaDoor
