/- WordMatrix: the program and the model. -/
import Derived.Test.YtfhalaohegdbhaaSupp
import Derived.Test.YtfhalaohegdbhaaOut
import Derived.Test.YtfhalaohegdbhaaRankS
import Derived.Test.YtfhalaohegdbhaaWords
namespace Go.Proofs.Ytfhalaohegdbhaa
open Go.RowKit Go.Joins
set_option linter.unusedVariables false

def fWordMatrix (d p : Int) (zs : List Int) : Int × List Int × Int := fW d p zs (fun m q => m) (fun m q => q)
theorem lr_res {W : World} {B : Nat} {ao : Option Addr} {cap : Nat} {A : List Nat} (h : LR W B W.heap.size ao cap A) (hk : A.length ≤ 1048576) : Res W B W.heap.size (.slice ao A.length cap) (ints A) := by
  rcases Nat.eq_zero_or_pos A.length with h0 | h0
  · obtain rfl := List.eq_nil_of_length_eq_zero h0
    exact .nil ao cap
  · obtain ⟨g, rfl, _, hO⟩ := h.row h0
    exact own_res hO.own hk (Nat.le_refl _)

set_option maxHeartbeats 1600000 in
theorem specWordMatrix_A (d p : Int) (hf : fldI d p = false) (v : Value) (w : World) :
    Calls Try.prog 13 #[.agg #[.int .i64 d, .int .i64 p], v] w fun e w' => ∃ v, e = .returned (.tuple #[.agg #[.int .i64 (0), v], .int .i64 1]) ∧ Below w.heap.size w w' ∧ Res w' w.heap.size w'.heap.size v [] := by
  have HF := Lib.hid hf
  clear hf
  have hR : MRoom ((w.alloc (.cells #[.int .i64 d, .int .i64 p] 36)).alloc (.cells #[.int .i64 0, .slice none 0 0] 26)) (w.heap.size + 1) := by simpa using MRoom.start (w.alloc (.cells #[.int .i64 d, .int .i64 p] 36)) (.int .i64 0) (.slice none 0 0) 26
  have hb0 := below_alloc2 w (.cells #[.int .i64 d, .int .i64 p] 36) (.cells #[.int .i64 0, .slice none 0 0] 26)
  go_enter Try.func13, Try.ntmps13
  go_wp2_with fail
  refine (l04Given_A d p HF.out _ _).mono ?_
  rintro e w1 ⟨rfl, hb⟩
  have hR1 := hR.below hb
  have hb1 := hb0.trans (hb.mono hb0.size)
  clear hb hR hb0
  obtain ⟨x, y, h0, h1⟩ := hR1.ex
  have f0 := hR1.f0
  have f1 := hR1.f1
  go_wp2_with fail
  refine bodyPost_ret (v := .tuple #[.agg #[.int .i64 0, .slice none 0 0], .int .i64 1]) (mat_results (p := 4) (u := 5) (fn := Try.f13) rfl _ rfl (two_setCell _ _ _ _ h0 h1).1 (two_setCell _ _ _ _ h0 h1).2) rfl ⟨_, rfl, ?_, .nil none 0⟩
  exact (only2 _ _ _ _).below hb1 (by simp)

set_option maxHeartbeats 1600000 in
theorem specWordMatrix_B (m P n : Nat) (hF : Fld m P n) (b len cap : Nat) (zs : List Int) (hok : okW n zs = false) (w : World) (hM : Mt w b len zs) :
    Calls Try.prog 13 #[.agg #[.int .i64 m, .int .i64 P], .slice (some ⟨b, 0, none⟩) len cap] w fun e w' => ∃ v, e = .returned (.tuple #[.agg #[.int .i64 (0), v], .int .i64 2]) ∧ Below w.heap.size w w' ∧ Res w' w.heap.size w'.heap.size v [] := by
  have hR : MRoom ((w.alloc (.cells #[.int .i64 m, .int .i64 P] 36)).alloc (.cells #[.int .i64 0, .slice none 0 0] 26)) (w.heap.size + 1) := by simpa using MRoom.start (w.alloc (.cells #[.int .i64 m, .int .i64 P] 36)) (.int .i64 0) (.slice none 0 0) 26
  have hb0 := below_alloc2 w (.cells #[.int .i64 m, .int .i64 P] 36) (.cells #[.int .i64 0, .slice none 0 0] 26)
  have HM := Lib.hid (hM.below hb0)
  have HO := Lib.hid hok
  clear hM hok
  go_enter Try.func13, Try.ntmps13
  go_wp2_with fail
  refine (l04Given_any m P n hF b len cap zs false HO.out _ HM.out).mono ?_
  rintro e w1 ⟨rfl, hb⟩
  have hR1 := hR.below hb
  have hb1 := hb0.trans (hb.mono hb0.size)
  clear hb hR hb0
  obtain ⟨x, y, h0, h1⟩ := hR1.ex
  have f0 := hR1.f0
  have f1 := hR1.f1
  go_wp2_with fail
  refine bodyPost_ret (v := .tuple #[.agg #[.int .i64 0, .slice none 0 0], .int .i64 2]) (mat_results (p := 4) (u := 5) (fn := Try.f13) rfl _ rfl (two_setCell _ _ _ _ h0 h1).1 (two_setCell _ _ _ _ h0 h1).2) rfl ⟨_, rfl, ?_, .nil none 0⟩
  exact (only2 _ _ _ _).below hb1 (by simp)

set_option maxRecDepth 100000 in
set_option maxHeartbeats 3200000 in
theorem specWordMatrix_C (m P n : Nat) (hF : Fld m P n) (b len cap : Nat) (zs : List Int) (hok : okW n zs = true) (w : World) (hM : Mt w b len zs) :
    Calls Try.prog 13 #[.agg #[.int .i64 m, .int .i64 P], .slice (some ⟨b, 0, none⟩) len cap] w fun e w' => ∃ v, e = .returned (.tuple #[.agg #[.int .i64 (((fun (m : Nat) (q : List Nat) => m) m (nats zs) : Nat) : Int), v], .int .i64 0]) ∧ Below w.heap.size w w' ∧ Res w' w.heap.size w'.heap.size v (ints ((fun (m : Nat) (q : List Nat) => q) m (nats zs))) := by
  have h32 := hF.n32
  have hm5 := hF.m5
  have hm1 := hF.m1
  have hn := hF.n
  have hlz := hM.len
  have hl5 := okW_len hok
  have hin := okW_in hok
  have hlt := nats_lt hin (by have := hF.n2; omega : 0 < n)
  have hlp := nats_length zs
  obtain ⟨q, hq⟩ : ∃ q, nats zs = q := ⟨_, rfl⟩
  have hzq : ints q = zs := by rw [← hq]; exact ints_nats hin
  have HO := Lib.hid hok
  rw [hq] at hlt hlp ⊢
  dsimp only
  have hR : MRoom ((w.alloc (.cells #[.int .i64 m, .int .i64 P] 36)).alloc (.cells #[.int .i64 0, .slice none 0 0] 26)) (w.heap.size + 1) := by simpa using MRoom.start (w.alloc (.cells #[.int .i64 m, .int .i64 P] 36)) (.int .i64 0) (.slice none 0 0) 26
  have hb0 := below_alloc2 w (.cells #[.int .i64 m, .int .i64 P] 36) (.cells #[.int .i64 0, .slice none 0 0] 26)
  have hX := (Box.one w (.int .i64 m) (.int .i64 P) 36).next (below_alloc1 _ (.cells #[.int .i64 0, .slice none 0 0] 26))
  have HM := Lib.hid (hM.below hb0)
  have HP := Lib.hid hlt
  have HQ := Lib.hid hq
  have HRL := Lib.hid (show Rl w .i64 (some ⟨b, 0, none⟩) len q by have := hM.rl hin; rwa [hq] at this)
  have EE := Lib.hid (fun (W : World) (hS : Mt W b len (ints q)) => l00Own_any b len cap q W hS)
  rw [hzq] at EE
  clear hM hok hin hlt hq
  go_enter Try.func13, Try.ntmps13
  go_wp2_with fail
  refine (l04Given_any m P n hF b len cap zs true HO.out _ HM.out).mono ?_
  rintro e w1 ⟨rfl, hb⟩
  have hR1 := hR.below hb
  have hX1 := hX.next hb
  have HM1 := Lib.hid (HM.out.below hb)
  have hb1 := hb0.trans (hb.mono hb0.size)
  clear hb hR hb0 hX
  have q0 := hX1.c0
  have hqz := hX1.lt
  have hrz := hR1.lt
  obtain ⟨x, y, h0, h1⟩ := hR1.ex
  have f0 := hR1.f0
  have f1 := hR1.f1
  have HB := Lib.hid hb1
  have HZ := Lib.hid hrz
  clear hb1 hX1 hR1 HM
  go_wp2_with fail
  go_region_held3 (fun w' => w'.cell? ⟨w.heap.size, 0, none⟩ = some (.int .i64 m)) (first | exact q0 | assumption | (rw [World.cell?_setCell_other _ ⟨w.heap.size + 1, 1, none⟩ ⟨w.heap.size, 0, none⟩ _ (by simp), World.cell?_setCell_other _ ⟨w.heap.size + 1, 0, none⟩ ⟨w.heap.size, 0, none⟩ _ (by simp)]; assumption)) (first | (go_at_call 29; refine (EE.out _ (HM1.out.below (Below.refl _ _).drew)).mono ?_; rintro e w3 ⟨A3, c3, rfl, hOR, hb⟩; have t0 := (hb.cell (p := ⟨w.heap.size, 0, none⟩) hqz).trans q0; have t2 := (hb.cell (p := ⟨w.heap.size + 1, 0, none⟩) hrz).trans h0; have t3 := (hb.cell (p := ⟨w.heap.size + 1, 1, none⟩) hrz).trans h1; have t4 := (hb.frozen (p := ⟨w.heap.size + 1, 0, none⟩) hrz).trans f0; have t5 := (hb.frozen (p := ⟨w.heap.size + 1, 1, none⟩) hrz).trans f1; have HOR := Lib.hid hOR; have HB3 := Lib.hid (HB.out.trans ((Below.refl _ _).drew.trans (hb.mono HB.out.size))); clear hOR hb))
  all_goals
    go_wp2_with fail
    refine bodyPost_ret (v := .tuple #[.agg #[.int .i64 m, _], .int .i64 0]) (mat_results (p := 4) (u := 5) (fn := Try.f13) rfl _ rfl (two_setCell _ _ _ _ t2 t3).1 (two_setCell _ _ _ _ t2 t3).2) rfl ⟨_, rfl, ?_, Res.fin (q := w.heap.size + 1) (by have h7 := lr_res HOR.out (by omega); rw [hlp, hlz] at h7; exact h7) HZ.out (by have := HB.out.size; simp; omega) _ _⟩
    exact (only2 _ _ _ _).below HB3.out (by simp)

set_option maxHeartbeats 1600000 in
theorem implWordMatrix_A (d p : Int) (hf : fldI d p = false) (hl : -9223372036854775808 ≤ p) (hh : p ≤ 9223372036854775807) (v : Value) (w : World) :
    Calls Try.prog 16 #[.agg #[.int .i64 d, .int .i64 p], v] w fun e w' => ∃ v, e = .returned (.tuple #[.agg #[.int .i64 (0), v], .int .i64 1]) ∧ Below w.heap.size w w' ∧ Res w' w.heap.size w'.heap.size v [] := by
  have HF := Lib.hid hf
  clear hf
  have hR : MRoom ((w.alloc (.cells #[.int .i64 d, .int .i64 p] 36)).alloc (.cells #[.int .i64 0, .slice none 0 0] 26)) (w.heap.size + 1) := by simpa using MRoom.start (w.alloc (.cells #[.int .i64 d, .int .i64 p] 36)) (.int .i64 0) (.slice none 0 0) 26
  have hb0 := below_alloc2 w (.cells #[.int .i64 d, .int .i64 p] 36) (.cells #[.int .i64 0, .slice none 0 0] 26)
  go_enter Try.func16, Try.ntmps16
  go_wp2_with fail
  refine (wordFor_A d p HF.out hl hh _ _).mono ?_
  rintro e w1 ⟨rfl, hb⟩
  have hR1 := hR.below hb
  have hb1 := hb0.trans (hb.mono hb0.size)
  clear hb hR hb0
  obtain ⟨x, y, h0, h1⟩ := hR1.ex
  have f0 := hR1.f0
  have f1 := hR1.f1
  go_wp2_with fail
  refine bodyPost_ret (v := .tuple #[.agg #[.int .i64 0, .slice none 0 0], .int .i64 1]) (mat_results (p := 4) (u := 5) (fn := Try.f16) rfl _ rfl (two_setCell _ _ _ _ h0 h1).1 (two_setCell _ _ _ _ h0 h1).2) rfl ⟨_, rfl, ?_, .nil none 0⟩
  exact (only2 _ _ _ _).below hb1 (by simp)

set_option maxHeartbeats 1600000 in
theorem implWordMatrix_B (m P n : Nat) (hF : Fld m P n) (b len cap : Nat) (zs : List Int) (hok : okW n zs = false) (w : World) (hM : Mt w b len zs) :
    Calls Try.prog 16 #[.agg #[.int .i64 m, .int .i64 P], .slice (some ⟨b, 0, none⟩) len cap] w fun e w' => ∃ v, e = .returned (.tuple #[.agg #[.int .i64 (0), v], .int .i64 2]) ∧ Below w.heap.size w w' ∧ Res w' w.heap.size w'.heap.size v [] := by
  have hR : MRoom ((w.alloc (.cells #[.int .i64 m, .int .i64 P] 36)).alloc (.cells #[.int .i64 0, .slice none 0 0] 26)) (w.heap.size + 1) := by simpa using MRoom.start (w.alloc (.cells #[.int .i64 m, .int .i64 P] 36)) (.int .i64 0) (.slice none 0 0) 26
  have hb0 := below_alloc2 w (.cells #[.int .i64 m, .int .i64 P] 36) (.cells #[.int .i64 0, .slice none 0 0] 26)
  have HM := Lib.hid (hM.below hb0)
  have HO := Lib.hid hok
  clear hM hok
  go_enter Try.func16, Try.ntmps16
  go_wp2_with fail
  refine (wordFor_B m P n hF b len cap zs _ HM.out HO.out).mono ?_
  rintro e w1 ⟨rfl, hb⟩
  have hR1 := hR.below hb
  have hb1 := hb0.trans (hb.mono hb0.size)
  clear hb hR hb0
  obtain ⟨x, y, h0, h1⟩ := hR1.ex
  have f0 := hR1.f0
  have f1 := hR1.f1
  go_wp2_with fail
  refine bodyPost_ret (v := .tuple #[.agg #[.int .i64 0, .slice none 0 0], .int .i64 2]) (mat_results (p := 4) (u := 5) (fn := Try.f16) rfl _ rfl (two_setCell _ _ _ _ h0 h1).1 (two_setCell _ _ _ _ h0 h1).2) rfl ⟨_, rfl, ?_, .nil none 0⟩
  exact (only2 _ _ _ _).below hb1 (by simp)

set_option maxRecDepth 100000 in
set_option maxHeartbeats 3200000 in
theorem implWordMatrix_C (m P n : Nat) (hF : Fld m P n) (b len cap : Nat) (zs : List Int) (hok : okW n zs = true) (w : World) (hM : Mt w b len zs) :
    Calls Try.prog 16 #[.agg #[.int .i64 m, .int .i64 P], .slice (some ⟨b, 0, none⟩) len cap] w fun e w' => ∃ v, e = .returned (.tuple #[.agg #[.int .i64 (((fun (m : Nat) (q : List Nat) => m) m (nats zs) : Nat) : Int), v], .int .i64 0]) ∧ Below w.heap.size w w' ∧ Res w' w.heap.size w'.heap.size v (ints ((fun (m : Nat) (q : List Nat) => q) m (nats zs))) := by
  have h32 := hF.n32
  have hm5 := hF.m5
  have hm1 := hF.m1
  have hn := hF.n
  have hlz := hM.len
  have hl5 := okW_len hok
  have hin := okW_in hok
  have hlt := nats_lt hin (by have := hF.n2; omega : 0 < n)
  have hlp := nats_length zs
  obtain ⟨q, hq⟩ : ∃ q, nats zs = q := ⟨_, rfl⟩
  have hzq : ints q = zs := by rw [← hq]; exact ints_nats hin
  have HO := Lib.hid hok
  rw [hq] at hlt hlp ⊢
  dsimp only
  have hR : MRoom ((w.alloc (.cells #[.int .i64 m, .int .i64 P] 36)).alloc (.cells #[.int .i64 0, .slice none 0 0] 26)) (w.heap.size + 1) := by simpa using MRoom.start (w.alloc (.cells #[.int .i64 m, .int .i64 P] 36)) (.int .i64 0) (.slice none 0 0) 26
  have hb0 := below_alloc2 w (.cells #[.int .i64 m, .int .i64 P] 36) (.cells #[.int .i64 0, .slice none 0 0] 26)
  have HM := Lib.hid (hM.below hb0)
  have HP := Lib.hid hlt
  have HQ := Lib.hid hq
  clear hM hok hin hlt hq
  go_enter Try.func16, Try.ntmps16
  go_wp2_with fail
  refine (wordFor_C m P n hF b len cap zs _ HM.out HO.out).mono ?_
  rintro e w1 ⟨c, g, rfl, hb, hC, hRl⟩
  rw [HQ.out] at hRl
  have hD := hC.deg
  have hR1 := hR.below hb
  have hb1 := hb0.trans (hb.mono hb0.size)
  clear hb hR hb0
  go_wp2_with fail
  refine (gridW_any c m P n hF _ len len q HP.out (by omega) _ hD hRl).mono ?_
  rintro e w2 ⟨rfl, hb⟩
  have hR2 := hR1.below hb
  have hb2 := hb1.trans (hb.mono hb1.size)
  clear hb hR1 hb1 hD hRl hC
  have HZ := Lib.hid (show w.heap.size + 1 < w2.heap.size from hR2.lt)
  go_wp2_with fail
  refine (matrix_any q m (by omega) (fun j => by have := HP.out j; omega) _).mono ?_
  rintro e wm ⟨v, rfl, hb, hV⟩
  obtain ⟨ao, mo, co, rfl⟩ := hV.form
  have hRr := hR2.below hb
  have hbr := hb2.trans (hb.mono hb2.size)
  clear hb hR2 hb2
  have hRz := hRr.lt
  obtain ⟨x, y, h0, h1⟩ := hRr.ex
  have f0 := hRr.f0
  have f1 := hRr.f1
  have HV := Lib.hid hV
  have HBr := Lib.hid hbr
  have HRz := Lib.hid hRz
  clear hV hbr hRr
  go_wp2_with fail
  refine bodyPost_ret (v := .tuple #[.agg #[.int .i64 (m), .slice ao mo co], .int .i64 0]) (mat_results (p := 4) (u := 5) (fn := Try.f16) rfl _ rfl (two_setCell _ _ _ _ h0 h1).1 (two_setCell _ _ _ _ h0 h1).2) rfl ⟨_, rfl, ?_, HV.out.fin (q := w.heap.size + 1) ?_ ?_ _ _⟩
  · exact (only2 _ _ _ _).below HBr.out (by simp)
  · exact HZ.out
  · have := HZ.out; omega

theorem specWordMatrix_any (d p : Int) (b len cap : Nat) (zs : List Int) (w : World) (hM : Mt w b len zs) :
    Calls Try.prog 13 #[.agg #[.int .i64 d, .int .i64 p], .slice (some ⟨b, 0, none⟩) len cap] w fun e w' => ∃ v, e = .returned (.tuple #[.agg #[.int .i64 (fWordMatrix d p zs).1, v], .int .i64 (fWordMatrix d p zs).2.2]) ∧ Below w.heap.size w w' ∧ Res w' w.heap.size w'.heap.size v (fWordMatrix d p zs).2.1 := by
  unfold fWordMatrix
  cases hf : fldI d p with
  | false => rw [fW_A hf]; exact specWordMatrix_A d p hf _ w
  | true =>
    obtain ⟨m, P, rfl, rfl, hF⟩ := fldI_nat hf
    have hF := Fld.of hF
    cases hok : okW (2 ^ m) zs with
    | false => rw [fW_B hF hok]; exact specWordMatrix_B m P _ hF b len cap zs hok w hM
    | true => rw [fW_C hF hok]; exact specWordMatrix_C m P _ hF b len cap zs hok w hM

theorem implWordMatrix_any (d p : Int) (b len cap : Nat) (zs : List Int) (w : World) (hl : -9223372036854775808 ≤ p) (hh : p ≤ 9223372036854775807) (hM : Mt w b len zs) :
    Calls Try.prog 16 #[.agg #[.int .i64 d, .int .i64 p], .slice (some ⟨b, 0, none⟩) len cap] w fun e w' => ∃ v, e = .returned (.tuple #[.agg #[.int .i64 (fWordMatrix d p zs).1, v], .int .i64 (fWordMatrix d p zs).2.2]) ∧ Below w.heap.size w w' ∧ Res w' w.heap.size w'.heap.size v (fWordMatrix d p zs).2.1 := by
  unfold fWordMatrix
  cases hf : fldI d p with
  | false => rw [fW_A hf]; exact implWordMatrix_A d p hf hl hh _ w
  | true =>
    obtain ⟨m, P, rfl, rfl, hF⟩ := fldI_nat hf
    have hF := Fld.of hF
    cases hok : okW (2 ^ m) zs with
    | false => rw [fW_B hF hok]; exact implWordMatrix_B m P _ hF b len cap zs hok w hM
    | true => rw [fW_C hF hok]; exact implWordMatrix_C m P _ hF b len cap zs hok w hM

end Go.Proofs.Ytfhalaohegdbhaa
