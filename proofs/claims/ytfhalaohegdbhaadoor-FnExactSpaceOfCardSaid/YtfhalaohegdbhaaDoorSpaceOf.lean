/- SpaceOf: the program and the model. -/
import Derived.Test.YtfhalaohegdbhaaDoorEchelonOf
namespace Go.Proofs.YtfhalaohegdbhaaDoor
open Go.RowKit Go.Joins
set_option linter.unusedVariables false

def fSpaceOf (c : Int) (zs : List Int) : Int × List Int × Int := fEchelonOf c zs

set_option maxHeartbeats 1600000 in
theorem specSpaceOf_any (c : Int) (b n cap : Nat) (xs : List Int) (w : World) (hM : Mt w b n xs) :
    Calls Tryd.prog 25 #[.agg #[.int .i64 c, .slice (some ⟨b, 0, none⟩) n cap]] w fun e w' => ∃ v, e = .returned (.tuple #[.agg #[.int .i64 (fSpaceOf c xs).1, v], .int .i64 (fSpaceOf c xs).2.2]) ∧ Below w.heap.size w w' ∧ Res w' w.heap.size w'.heap.size v (fSpaceOf c xs).2.1 := by
  unfold fSpaceOf
  have E := fun w hM => specEchelonOf_any c b n cap xs w hM
  generalize fEchelonOf c xs = r at E ⊢
  obtain ⟨r1, r2, r3⟩ := r
  dsimp only at E ⊢
  have HE := Lib.hid E
  clear E
  have hR : MRoom ((w.alloc (.cells #[.int .i64 c, .slice (some ⟨b, 0, none⟩) n cap] 28)).alloc (.cells #[.int .i64 0, .slice none 0 0] 28)) (w.heap.size + 1) := by simpa using MRoom.start (w.alloc (.cells #[.int .i64 c, .slice (some ⟨b, 0, none⟩) n cap] 28)) (.int .i64 0) (.slice none 0 0) 28
  have hb0 := below_alloc2 w (.cells #[.int .i64 c, .slice (some ⟨b, 0, none⟩) n cap] 28) (.cells #[.int .i64 0, .slice none 0 0] 28)
  have hM0 := hM.below hb0
  have hrz := hR.lt
  go_enter Tryd.func25, Tryd.ntmps25
  go_wp2_with fail
  refine (HE.out _ hM0).mono ?_
  rintro e w1 ⟨v, rfl, hb, hV⟩
  have hR1 := hR.below hb
  have hs1 := hb.size
  have hb1 := hb0.trans (hb.mono hb0.size)
  clear hb hR
  obtain ⟨x, y, h0, h1⟩ := hR1.ex
  have f0 := hR1.f0
  have f1 := hR1.f1
  obtain ⟨ao, m, cap', rfl⟩ := hV.form
  have HV := Lib.hid hV
  clear hV
  go_wp2_with fail
  refine bodyPost_ret (v := .tuple #[.agg #[.int .i64 r1, _], .int .i64 r3]) (mat_results (p := 2) (u := 3) (fn := Tryd.f25) rfl _ rfl (two_setCell _ _ _ _ h0 h1).1 (two_setCell _ _ _ _ h0 h1).2) rfl ⟨_, rfl, ?_, HV.out.fin (q := w.heap.size + 1) hrz (by simp; omega) _ _⟩
  exact (only2 _ _ _ _).below hb1 (by simp)

set_option maxHeartbeats 1600000 in
theorem implSpaceOf_any (c : Int) (b n cap : Nat) (xs : List Int) (w : World) (hM : Mt w b n xs) (hT : Tab w) :
    Calls Tryd.prog 26 #[.agg #[.int .i64 c, .slice (some ⟨b, 0, none⟩) n cap]] w fun e w' => ∃ v, e = .returned (.tuple #[.agg #[.int .i64 (fSpaceOf c xs).1, v], .int .i64 (fSpaceOf c xs).2.2]) ∧ Below w.heap.size w w' ∧ Res w' w.heap.size w'.heap.size v (fSpaceOf c xs).2.1 := by
  unfold fSpaceOf
  have E := fun w hM hT => implEchelonOf_any c b n cap xs w hM hT
  generalize fEchelonOf c xs = r at E ⊢
  obtain ⟨r1, r2, r3⟩ := r
  dsimp only at E ⊢
  have HE := Lib.hid E
  clear E
  have hR : MRoom ((w.alloc (.cells #[.int .i64 c, .slice (some ⟨b, 0, none⟩) n cap] 28)).alloc (.cells #[.int .i64 0, .slice none 0 0] 28)) (w.heap.size + 1) := by simpa using MRoom.start (w.alloc (.cells #[.int .i64 c, .slice (some ⟨b, 0, none⟩) n cap] 28)) (.int .i64 0) (.slice none 0 0) 28
  have hb0 := below_alloc2 w (.cells #[.int .i64 c, .slice (some ⟨b, 0, none⟩) n cap] 28) (.cells #[.int .i64 0, .slice none 0 0] 28)
  have hM0 := hM.below hb0
  have HT0 := Lib.hid (hT.below hb0)
  have hrz := hR.lt
  clear hT
  go_enter Tryd.func26, Tryd.ntmps26
  go_wp2_with fail
  refine (HE.out _ hM0 HT0.out).mono ?_
  rintro e w1 ⟨v, rfl, hb, hV⟩
  have hR1 := hR.below hb
  have hs1 := hb.size
  have hb1 := hb0.trans (hb.mono hb0.size)
  clear hb hR
  obtain ⟨x, y, h0, h1⟩ := hR1.ex
  have f0 := hR1.f0
  have f1 := hR1.f1
  obtain ⟨ao, m, cap', rfl⟩ := hV.form
  have HV := Lib.hid hV
  clear hV
  go_wp2_with fail
  refine bodyPost_ret (v := .tuple #[.agg #[.int .i64 r1, _], .int .i64 r3]) (mat_results (p := 2) (u := 3) (fn := Tryd.f26) rfl _ rfl (two_setCell _ _ _ _ h0 h1).1 (two_setCell _ _ _ _ h0 h1).2) rfl ⟨_, rfl, ?_, HV.out.fin (q := w.heap.size + 1) hrz (by simp; omega) _ _⟩
  exact (only2 _ _ _ _).below hb1 (by simp)
end Go.Proofs.YtfhalaohegdbhaaDoor
