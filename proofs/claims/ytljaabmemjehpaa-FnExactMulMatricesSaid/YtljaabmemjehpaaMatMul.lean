/- MulMatrices: the program and the model. -/
import Derived.Test.YtljaabmemjehpaaTimes2
import Derived.Test.YtljaabmemjehpaaStep
import Derived.StillTailTactics
namespace Go.Proofs.Ytljaabmemjehpaa
open Go.RowKit Go.Joins
set_option linter.unusedVariables false

set_option maxRecDepth 100000 in
set_option maxHeartbeats 6400000 in
theorem l02Mul_any (q C b cap : Nat) (L : List Nat) (hO : OkM C L) (q' D b' cap' : Nat) (M : List Nat) (hP : OkM D M) (w : World) (hS : Sp1 w q C b L.length cap (ints L)) (hT : Sp1 w q' D b' M.length cap' (ints M)) :
    Calls Try.prog 106 #[.pointer (some ⟨q, 0, none⟩), .pointer (some ⟨q', 0, none⟩)] w fun e w' => ∃ v, e = .returned (.agg #[.int .i64 D, v]) ∧ Below w.heap.size w w' ∧ Res w' w.heap.size w'.heap.size v (ints (mulL L M L.length)) := by
  obtain ⟨i0, hi, hz0, hz1, hz2⟩ := info_parts Try.infoI
  have d0 := hT.m.c0
  have hlt := hS.m.lt
  have hlt' := hT.m.lt
  have hbl := hS.r.lt
  have hbl' := hT.r.lt
  have hn10 := hO.n10
  have hm10 := hP.n10
  have hMg := hP.get'
  have hb0 := below_alloc2 w (.cells #[.int .i64 0, .slice none 0 0] 79) (.cells #[.int .i64 D, .slice none 0 0] 79)
  have hX := Box.two w (.cells #[.int .i64 0, .slice none 0 0] 79) (.int .i64 D) (.slice none 0 0) 79
  have hOB : OB ((w.alloc (.cells #[.int .i64 0, .slice none 0 0] 79)).alloc (.cells #[.int .i64 D, .slice none 0 0] 79)) w.heap.size (w.heap.size + 1) (w.heap.size + 2) D 0 (.slice none 0 0) [] :=
    ⟨by omega, by omega, by omega, hX.c0, hX.c1, by simp [World.frozen?_alloc_at], (MRoom.start w _ _ _).below (below_alloc1 _ _), World.ownsRow_nil _ _ _ _, by simp⟩
  have HOB := Lib.hid hOB
  have HS0 := Lib.hid (hS.below hb0)
  have HT0 := Lib.hid (hT.below hb0)
  have HB0 := Lib.hid hb0
  clear hOB hb0 hX
  go_enter Try.func106, Try.ntmps106
  go_wp2_with fail
  go_loopw [6] (fun i wr => ∃ (k : Nat) (v : Value), k ≤ L.length ∧ i = .int .i64 k ∧ Sp1 wr q C b L.length cap (ints L) ∧ Sp1 wr q' D b' M.length cap' (ints M) ∧ OB wr w.heap.size (w.heap.size + 1) (w.heap.size + 2) D k v (ints (mulL L M k)) ∧ Below w.heap.size w wr) (fun i _ => L.length - (intOf i).toNat)
  case atStart => exact ⟨0, _, Nat.zero_le _, rfl, HS0.out, HT0.out, HOB.out, HB0.out⟩
  case round =>
    obtain ⟨k, v, hk, rfl, hSr, hTr, hOr, hBr⟩ := hrel
    clear HOB HS0 HT0 HB0 hS hT d0
    have c1 := hSr.m.c1
    by_cases hkC : k < L.length
    · have e1 := hTr.m.c1
      have hrow := hSr.r.cell k hkC
      rw [ints_get] at hrow
      have hx := hO.get' k
      have hts := mulL_succ L M k
      generalize hxx : nth L k = x at hrow hx hts
      obtain ⟨s, hs⟩ : ∃ s, tms x M M.length = s := ⟨_, rfl⟩
      rw [hs] at hts
      have HTS := Lib.hid hts
      have HSS := Lib.hid hs
      have HOr := Lib.hid hOr
      have HBr := Lib.hid hBr
      have hSrq := Lib.hid (show Sp1 wr.drew q C b L.length cap (ints L) from hSr.below (Below.refl _ _).drew)
      have hTrq := Lib.hid (show Sp1 wr.drew q' D b' M.length cap' (ints M) from hTr.below (Below.refl _ _).drew)
      have HTD := Lib.hid (show Mt wr.drew b' M.length (ints M) from hTr.r.drewN 1)
      have HOD := Lib.hid (show OB wr.drew w.heap.size (w.heap.size + 1) (w.heap.size + 2) D k v (ints (mulL L M k)) from hOr.drewN 1)
      have a1 := hOr.a1
      have f1 := hOr.f1
      have hoz : w.heap.size + 1 < wr.heap.size := by have := hOr.z; omega
      have hqz : q < wr.heap.size := hSr.m.lt
      have hqz' : q' < wr.heap.size := hTr.m.lt
      have hbz : b < wr.heap.size := hSr.r.lt
      have hoz2 : w.heap.size + 1 < wr.drew.heap.size := hoz
      have hqz2 : q < wr.drew.heap.size := hqz
      have hqz2' : q' < wr.drew.heap.size := hqz'
      have hbz2 : b < wr.drew.heap.size := hbz
      clear hts hs hOr hBr hSr hTr hxx
      go_wp2_with fail
      go_region_law (first | (refine step_append_own rfl (.tmp 22) (.tmp 35) 27 rfl (w.heap.size + 2) 2 i0 (.int .i64 0) 1 8 Try.underlying27 hi hz0 hz1 hz2 rfl (by decide) v k _ (by simp [Act.eval]) (HOD.out.own.alloc _) ⟨wr.drew.heap.size, 0, none⟩ 1 1 [.int .i64 s] (by simp [Act.eval]) rfl (one_new wr.drew _ _) (one_one _ _) (by unfold maxLen; omega) (by omega) (by have := HOr.out.z; simp; omega) ?_; intro v' w2 hown' hgrow; obtain ⟨⟨g, cp, rfl⟩, hb2⟩ := HOD.out.grown hown' hgrow; obtain ⟨hN, hK⟩ := HOD.out.step hb2 hown'; have t1 := (hb2.cell (p := ⟨w.heap.size + 1, 1, none⟩) (by simp)).trans a1; have t2 := (hb2.cell (p := ⟨q, 1, none⟩) (by simp; omega)).trans c1; have t3 := (hb2.cell (p := ⟨q', 1, none⟩) (by simp; omega)).trans e1; have t4 := (hb2.cell (p := ⟨b, k, none⟩) (by simp; omega)).trans hrow; have t5 := (hb2.frozen (p := ⟨w.heap.size + 1, 1, none⟩) (by simp)).trans f1; have HN := Lib.hid hN; have HK := Lib.hid hK; clear hown' hgrow hb2 hN hK) | (go_simp; go_wp2_with (go_at_call 142; refine (l02Times_any b' M.length cap' M hMg hm10 x (by omega) _ HTD.out).mono ?_; rw [HSS.out]; rintro e w1 ⟨rfl, rfl⟩)))
      all_goals
        clear hoz hqz hqz' hbz hoz2 hqz2 hqz2' hbz2 t1 t2 t3 t4 t5 a1 c1 e1 f1 hrow
        go_wp2_with fail
        go_roundw
        case rel => exact ⟨k + 1, _, by omega, by go_num, ⟨hSrq.out.m.at (HK.out.heap q (by omega) (by omega)) HK.out.size, hSrq.out.r.at (HK.out.heap b (by omega) (by omega)) HK.out.size⟩, ⟨hTrq.out.m.at (HK.out.heap q' (by omega) (by omega)) HK.out.size, hTrq.out.r.at (HK.out.heap b' (by omega) (by omega)) HK.out.size⟩, by rw [HTS.out, ints, List.map_append]; exact HN.out, (HBr.out.drew).trans (HK.out.below _ (by omega) (by omega))⟩
        case measure => simp [intOf]; omega
    · obtain rfl : k = L.length := by omega
      obtain ⟨ao, m, cp, rfl⟩ := hOr.form
      have a0 := hOr.a0; have a1 := hOr.a1
      obtain ⟨x, y, h0, h1⟩ := hOr.room.ex
      have f0 := hOr.room.f0; have f1 := hOr.room.f1
      have HOr := Lib.hid hOr
      have HBr := Lib.hid hBr
      clear hOr hBr
      go_wp2_with fail
      refine bodyPost_ret (v := .agg #[.int .i64 D, .slice ao m cp]) (mat_result (p := 4) (fn := Try.f106) rfl _ rfl (two_setCell _ _ _ _ h0 h1).1 (two_setCell _ _ _ _ h0 h1).2) rfl ⟨_, rfl, ?_, HOr.out.res (by omega) (by omega) _ _⟩
      exact (only2 _ _ _ _).below HBr.out (Nat.le_refl _)
end Go.Proofs.Ytljaabmemjehpaa
