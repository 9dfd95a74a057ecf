/- LiftWord: the program and the model. -/
import Derived.Test.YtfhalaohegdbhaaSupp
import Derived.Test.YtfhalaohegdbhaaLift
import Derived.Test.YtfhalaohegdbhaaOut
import Derived.Test.YtfhalaohegdbhaaWords
namespace Go.Proofs.Ytfhalaohegdbhaa
open Go.RowKit Go.Joins
set_option linter.unusedVariables false

def fLiftWord (d p : Int) (zs : List Int) : Int × List Int × Int := fW d p zs (fun m q => m + q.length) (fun m q => liftL q q.length q.length)

set_option maxHeartbeats 1600000 in
theorem specLiftWord_A (d p : Int) (hf : fldI d p = false) (v : Value) (w : World) :
    Calls Try.prog 19 #[.agg #[.int .i64 d, .int .i64 p], v] w fun e w' => ∃ v, e = .returned (.tuple #[.agg #[.int .i64 (0), v], .int .i64 1]) ∧ Below w.heap.size w w' ∧ Res w' w.heap.size w'.heap.size v [] := by
  have HF := Lib.hid hf
  clear hf
  have hR : MRoom ((w.alloc (.cells #[.int .i64 d, .int .i64 p] 36)).alloc (.cells #[.int .i64 0, .slice none 0 0] 26)) (w.heap.size + 1) := by simpa using MRoom.start (w.alloc (.cells #[.int .i64 d, .int .i64 p] 36)) (.int .i64 0) (.slice none 0 0) 26
  have hb0 := below_alloc2 w (.cells #[.int .i64 d, .int .i64 p] 36) (.cells #[.int .i64 0, .slice none 0 0] 26)
  go_enter Try.func19, Try.ntmps19
  go_wp2_with fail
  refine (l04Given_A d p HF.out _ _).mono ?_
  rintro e w1 ⟨rfl, hb⟩
  have hR1 := hR.below hb
  have hb1 := hb0.trans (hb.mono hb0.size)
  clear hb hR hb0
  obtain ⟨x, y, h0, h1⟩ := hR1.ex
  have f0 := hR1.f0
  have f1 := hR1.f1
  go_wp2_with fail
  refine bodyPost_ret (v := .tuple #[.agg #[.int .i64 0, .slice none 0 0], .int .i64 1]) (mat_results (p := 4) (u := 5) (fn := Try.f19) rfl _ rfl (two_setCell _ _ _ _ h0 h1).1 (two_setCell _ _ _ _ h0 h1).2) rfl ⟨_, rfl, ?_, .nil none 0⟩
  exact (only2 _ _ _ _).below hb1 (by simp)

set_option maxHeartbeats 1600000 in
theorem specLiftWord_B (m P n : Nat) (hF : Fld m P n) (b len cap : Nat) (zs : List Int) (hok : okW n zs = false) (w : World) (hM : Mt w b len zs) :
    Calls Try.prog 19 #[.agg #[.int .i64 m, .int .i64 P], .slice (some ⟨b, 0, none⟩) len cap] w fun e w' => ∃ v, e = .returned (.tuple #[.agg #[.int .i64 (0), v], .int .i64 2]) ∧ Below w.heap.size w w' ∧ Res w' w.heap.size w'.heap.size v [] := by
  have hR : MRoom ((w.alloc (.cells #[.int .i64 m, .int .i64 P] 36)).alloc (.cells #[.int .i64 0, .slice none 0 0] 26)) (w.heap.size + 1) := by simpa using MRoom.start (w.alloc (.cells #[.int .i64 m, .int .i64 P] 36)) (.int .i64 0) (.slice none 0 0) 26
  have hb0 := below_alloc2 w (.cells #[.int .i64 m, .int .i64 P] 36) (.cells #[.int .i64 0, .slice none 0 0] 26)
  have HM := Lib.hid (hM.below hb0)
  have HO := Lib.hid hok
  clear hM hok
  go_enter Try.func19, Try.ntmps19
  go_wp2_with fail
  refine (l04Given_any m P n hF b len cap zs false HO.out _ HM.out).mono ?_
  rintro e w1 ⟨rfl, hb⟩
  have hR1 := hR.below hb
  have hb1 := hb0.trans (hb.mono hb0.size)
  clear hb hR hb0
  obtain ⟨x, y, h0, h1⟩ := hR1.ex
  have f0 := hR1.f0
  have f1 := hR1.f1
  go_wp2_with fail
  refine bodyPost_ret (v := .tuple #[.agg #[.int .i64 0, .slice none 0 0], .int .i64 2]) (mat_results (p := 4) (u := 5) (fn := Try.f19) rfl _ rfl (two_setCell _ _ _ _ h0 h1).1 (two_setCell _ _ _ _ h0 h1).2) rfl ⟨_, rfl, ?_, .nil none 0⟩
  exact (only2 _ _ _ _).below hb1 (by simp)

set_option maxRecDepth 100000 in
set_option maxHeartbeats 3200000 in
theorem specLiftWord_C (m P n : Nat) (hF : Fld m P n) (b len cap : Nat) (zs : List Int) (hok : okW n zs = true) (w : World) (hM : Mt w b len zs) :
    Calls Try.prog 19 #[.agg #[.int .i64 m, .int .i64 P], .slice (some ⟨b, 0, none⟩) len cap] w fun e w' => ∃ v, e = .returned (.tuple #[.agg #[.int .i64 (((fun (m : Nat) (q : List Nat) => m + q.length) m (nats zs) : Nat) : Int), v], .int .i64 0]) ∧ Below w.heap.size w w' ∧ Res w' w.heap.size w'.heap.size v (ints ((fun (m : Nat) (q : List Nat) => liftL q q.length q.length) m (nats zs))) := by
  have h32 := hF.n32
  have hm5 := hF.m5
  have hm1 := hF.m1
  have hn := hF.n
  have hlz := hM.len
  have hl5 := okW_len hok
  have hin := okW_in hok
  have hlt := nats_lt hin (by have := hF.n2; omega : 0 < n)
  have hlp := nats_length zs
  obtain ⟨q, hq⟩ : ∃ q, nats zs = q := ⟨_, rfl⟩
  have hzq : ints q = zs := by rw [← hq]; exact ints_nats hin
  have HO := Lib.hid hok
  rw [hq] at hlt hlp ⊢
  dsimp only
  have hR : MRoom ((w.alloc (.cells #[.int .i64 m, .int .i64 P] 36)).alloc (.cells #[.int .i64 0, .slice none 0 0] 26)) (w.heap.size + 1) := by simpa using MRoom.start (w.alloc (.cells #[.int .i64 m, .int .i64 P] 36)) (.int .i64 0) (.slice none 0 0) 26
  have hb0 := below_alloc2 w (.cells #[.int .i64 m, .int .i64 P] 36) (.cells #[.int .i64 0, .slice none 0 0] 26)
  have hX := (Box.one w (.int .i64 m) (.int .i64 P) 36).next (below_alloc1 _ (.cells #[.int .i64 0, .slice none 0 0] 26))
  have HM := Lib.hid (hM.below hb0)
  have HP := Lib.hid hlt
  have HQ := Lib.hid hq
  have HRL := Lib.hid (show Rl w .i64 (some ⟨b, 0, none⟩) len q by have := hM.rl hin; rwa [hq] at this)
  have hqq : q.length = len := by omega
  have EE := fun (W : World) (hS : Mt W b len (ints q)) => l06Lift_any m P hm5 b len cap q (fun j => by have := hlt j; omega) (by omega) W hS
  rw [hzq] at EE
  replace EE := Lib.hid EE
  rw [hqq]
  clear hM hok hin hlt hq
  go_enter Try.func19, Try.ntmps19
  go_wp2_with fail
  refine (l04Given_any m P n hF b len cap zs true HO.out _ HM.out).mono ?_
  rintro e w1 ⟨rfl, hb⟩
  have hR1 := hR.below hb
  have hX1 := hX.next hb
  have HM1 := Lib.hid (HM.out.below hb)
  have hb1 := hb0.trans (hb.mono hb0.size)
  clear hb hR hb0 hX
  have q0 := hX1.c0; have q1 := hX1.c1
  have hqz := hX1.lt
  have hrz := hR1.lt
  obtain ⟨x, y, h0, h1⟩ := hR1.ex
  have f0 := hR1.f0
  have f1 := hR1.f1
  have HB := Lib.hid hb1
  have HZ := Lib.hid hrz
  clear hb1 hX1 hR1 HM
  go_wp2_with fail
  refine (EE.out _ HM1.out).mono ?_
  rintro e w3 ⟨v, rfl, hb, hV⟩
  obtain ⟨ao, mo, co, rfl⟩ := hV.form
  have t0 := (hb.cell (p := ⟨w.heap.size + 1, 0, none⟩) hrz).trans h0
  have t1 := (hb.cell (p := ⟨w.heap.size + 1, 1, none⟩) hrz).trans h1
  have t2 := (hb.frozen (p := ⟨w.heap.size + 1, 0, none⟩) hrz).trans f0
  have t3 := (hb.frozen (p := ⟨w.heap.size + 1, 1, none⟩) hrz).trans f1
  have HB3 := Lib.hid (HB.out.trans (hb.mono HB.out.size))
  have HV := Lib.hid hV
  have hsz := HB.out.size
  clear hb hV h0 h1 f0 f1 q0 q1
  go_wp2_with fail
  refine bodyPost_ret (v := .tuple #[.agg #[.int .i64 ((m + len : Nat) : Int), .slice ao mo co], .int .i64 0]) (mat_results (p := 4) (u := 5) (fn := Try.f19) rfl _ rfl (two_setCell _ _ _ _ t0 t1).1 (two_setCell _ _ _ _ t0 t1).2) rfl ⟨_, rfl, ?_, HV.out.fin (q := w.heap.size + 1) ?_ ?_ _ _⟩
  · exact (only2 _ _ _ _).below HB3.out (by simp)
  · exact HZ.out
  · exact hsz

set_option maxHeartbeats 1600000 in
theorem implLiftWord_A (d p : Int) (hf : fldI d p = false) (hl : -9223372036854775808 ≤ p) (hh : p ≤ 9223372036854775807) (v : Value) (w : World) :
    Calls Try.prog 20 #[.agg #[.int .i64 d, .int .i64 p], v] w fun e w' => ∃ v, e = .returned (.tuple #[.agg #[.int .i64 (0), v], .int .i64 1]) ∧ Below w.heap.size w w' ∧ Res w' w.heap.size w'.heap.size v [] := by
  have HF := Lib.hid hf
  clear hf
  have hR : MRoom ((w.alloc (.cells #[.int .i64 d, .int .i64 p] 36)).alloc (.cells #[.int .i64 0, .slice none 0 0] 26)) (w.heap.size + 1) := by simpa using MRoom.start (w.alloc (.cells #[.int .i64 d, .int .i64 p] 36)) (.int .i64 0) (.slice none 0 0) 26
  have hb0 := below_alloc2 w (.cells #[.int .i64 d, .int .i64 p] 36) (.cells #[.int .i64 0, .slice none 0 0] 26)
  go_enter Try.func20, Try.ntmps20
  go_wp2_with fail
  refine (wordFor_A d p HF.out hl hh _ _).mono ?_
  rintro e w1 ⟨rfl, hb⟩
  have hR1 := hR.below hb
  have hb1 := hb0.trans (hb.mono hb0.size)
  clear hb hR hb0
  obtain ⟨x, y, h0, h1⟩ := hR1.ex
  have f0 := hR1.f0
  have f1 := hR1.f1
  go_wp2_with fail
  refine bodyPost_ret (v := .tuple #[.agg #[.int .i64 0, .slice none 0 0], .int .i64 1]) (mat_results (p := 4) (u := 5) (fn := Try.f20) rfl _ rfl (two_setCell _ _ _ _ h0 h1).1 (two_setCell _ _ _ _ h0 h1).2) rfl ⟨_, rfl, ?_, .nil none 0⟩
  exact (only2 _ _ _ _).below hb1 (by simp)

set_option maxHeartbeats 1600000 in
theorem implLiftWord_B (m P n : Nat) (hF : Fld m P n) (b len cap : Nat) (zs : List Int) (hok : okW n zs = false) (w : World) (hM : Mt w b len zs) :
    Calls Try.prog 20 #[.agg #[.int .i64 m, .int .i64 P], .slice (some ⟨b, 0, none⟩) len cap] w fun e w' => ∃ v, e = .returned (.tuple #[.agg #[.int .i64 (0), v], .int .i64 2]) ∧ Below w.heap.size w w' ∧ Res w' w.heap.size w'.heap.size v [] := by
  have hR : MRoom ((w.alloc (.cells #[.int .i64 m, .int .i64 P] 36)).alloc (.cells #[.int .i64 0, .slice none 0 0] 26)) (w.heap.size + 1) := by simpa using MRoom.start (w.alloc (.cells #[.int .i64 m, .int .i64 P] 36)) (.int .i64 0) (.slice none 0 0) 26
  have hb0 := below_alloc2 w (.cells #[.int .i64 m, .int .i64 P] 36) (.cells #[.int .i64 0, .slice none 0 0] 26)
  have HM := Lib.hid (hM.below hb0)
  have HO := Lib.hid hok
  clear hM hok
  go_enter Try.func20, Try.ntmps20
  go_wp2_with fail
  refine (wordFor_B m P n hF b len cap zs _ HM.out HO.out).mono ?_
  rintro e w1 ⟨rfl, hb⟩
  have hR1 := hR.below hb
  have hb1 := hb0.trans (hb.mono hb0.size)
  clear hb hR hb0
  obtain ⟨x, y, h0, h1⟩ := hR1.ex
  have f0 := hR1.f0
  have f1 := hR1.f1
  go_wp2_with fail
  refine bodyPost_ret (v := .tuple #[.agg #[.int .i64 0, .slice none 0 0], .int .i64 2]) (mat_results (p := 4) (u := 5) (fn := Try.f20) rfl _ rfl (two_setCell _ _ _ _ h0 h1).1 (two_setCell _ _ _ _ h0 h1).2) rfl ⟨_, rfl, ?_, .nil none 0⟩
  exact (only2 _ _ _ _).below hb1 (by simp)

set_option maxRecDepth 100000 in
set_option maxHeartbeats 3200000 in
theorem implLiftWord_C (m P n : Nat) (hF : Fld m P n) (b len cap : Nat) (zs : List Int) (hok : okW n zs = true) (w : World) (hM : Mt w b len zs) :
    Calls Try.prog 20 #[.agg #[.int .i64 m, .int .i64 P], .slice (some ⟨b, 0, none⟩) len cap] w fun e w' => ∃ v, e = .returned (.tuple #[.agg #[.int .i64 (((fun (m : Nat) (q : List Nat) => m + q.length) m (nats zs) : Nat) : Int), v], .int .i64 0]) ∧ Below w.heap.size w w' ∧ Res w' w.heap.size w'.heap.size v (ints ((fun (m : Nat) (q : List Nat) => liftL q q.length q.length) m (nats zs))) := by
  have h32 := hF.n32
  have hm5 := hF.m5
  have hm1 := hF.m1
  have hn := hF.n
  have hlz := hM.len
  have hl5 := okW_len hok
  have hin := okW_in hok
  have hlt := nats_lt hin (by have := hF.n2; omega : 0 < n)
  have hlp := nats_length zs
  obtain ⟨q, hq⟩ : ∃ q, nats zs = q := ⟨_, rfl⟩
  have hzq : ints q = zs := by rw [← hq]; exact ints_nats hin
  have HO := Lib.hid hok
  rw [hq] at hlt hlp ⊢
  dsimp only
  have hR : MRoom ((w.alloc (.cells #[.int .i64 m, .int .i64 P] 36)).alloc (.cells #[.int .i64 0, .slice none 0 0] 26)) (w.heap.size + 1) := by simpa using MRoom.start (w.alloc (.cells #[.int .i64 m, .int .i64 P] 36)) (.int .i64 0) (.slice none 0 0) 26
  have hb0 := below_alloc2 w (.cells #[.int .i64 m, .int .i64 P] 36) (.cells #[.int .i64 0, .slice none 0 0] 26)
  have HM := Lib.hid (hM.below hb0)
  have HP := Lib.hid hlt
  have HQ := Lib.hid hq
  have hqq : q.length = len := by omega
  rw [hqq]
  have hll := liftL_len q len len
  have hl3 : ∀ j, nth (liftL q len len) j < 4294967296 := fun j => by
    by_cases hj : j < len
    · rw [liftL, lst_nth _ hj]
      have := (lift_at (k := len) (j := j) (x := nth q j) (by omega) hj (by have := hlt j; omega)).2.2.1
      omega
    · have : nth (liftL q len len) j = 0 := by simp [nth, List.getElem?_eq_none (show (liftL q len len).length ≤ j by omega)]
      omega
  have HL3 := Lib.hid hl3
  clear hl3
  clear hM hok hin hlt hq
  go_enter Try.func20, Try.ntmps20
  go_wp2_with fail
  refine (wordFor_C m P n hF b len cap zs _ HM.out HO.out).mono ?_
  rintro e w1 ⟨c, g, rfl, hb, hC, hRl⟩
  rw [HQ.out] at hRl
  have hD := hC.deg
  have hR1 := hR.below hb
  have hb1 := hb0.trans (hb.mono hb0.size)
  clear hb hR hb0
  go_wp2_with fail
  refine (lifted_any c m P n hF _ len len q HP.out (by omega) _ hD hRl).mono ?_
  rintro e w2 ⟨rfl, hb⟩
  have hR2 := hR1.below hb
  have hb2 := hb1.trans (hb.mono hb1.size)
  clear hb hR1 hb1 hD hRl hC
  have HZ := Lib.hid (show w.heap.size + 1 < w2.heap.size from hR2.lt)
  go_wp2_with fail
  refine (matrix_any (liftL q len len) ((m + len : Nat) : Int) (by omega) (HL3.out) _).mono ?_
  rintro e wm ⟨v, rfl, hb, hV⟩
  obtain ⟨ao, mo, co, rfl⟩ := hV.form
  have hRr := hR2.below hb
  have hbr := hb2.trans (hb.mono hb2.size)
  clear hb hR2 hb2
  have hRz := hRr.lt
  obtain ⟨x, y, h0, h1⟩ := hRr.ex
  have f0 := hRr.f0
  have f1 := hRr.f1
  have HV := Lib.hid hV
  have HBr := Lib.hid hbr
  have HRz := Lib.hid hRz
  clear hV hbr hRr
  go_wp2_with fail
  refine bodyPost_ret (v := .tuple #[.agg #[.int .i64 (((m + len : Nat) : Int)), .slice ao mo co], .int .i64 0]) (mat_results (p := 4) (u := 5) (fn := Try.f20) rfl _ rfl (two_setCell _ _ _ _ h0 h1).1 (two_setCell _ _ _ _ h0 h1).2) rfl ⟨_, rfl, ?_, HV.out.fin (q := w.heap.size + 1) ?_ ?_ _ _⟩
  · exact (only2 _ _ _ _).below HBr.out (by simp)
  · exact HZ.out
  · have := HZ.out; omega

theorem specLiftWord_any (d p : Int) (b len cap : Nat) (zs : List Int) (w : World) (hM : Mt w b len zs) :
    Calls Try.prog 19 #[.agg #[.int .i64 d, .int .i64 p], .slice (some ⟨b, 0, none⟩) len cap] w fun e w' => ∃ v, e = .returned (.tuple #[.agg #[.int .i64 (fLiftWord d p zs).1, v], .int .i64 (fLiftWord d p zs).2.2]) ∧ Below w.heap.size w w' ∧ Res w' w.heap.size w'.heap.size v (fLiftWord d p zs).2.1 := by
  unfold fLiftWord
  cases hf : fldI d p with
  | false => rw [fW_A hf]; exact specLiftWord_A d p hf _ w
  | true =>
    obtain ⟨m, P, rfl, rfl, hF⟩ := fldI_nat hf
    have hF := Fld.of hF
    cases hok : okW (2 ^ m) zs with
    | false => rw [fW_B hF hok]; exact specLiftWord_B m P _ hF b len cap zs hok w hM
    | true => rw [fW_C hF hok]; exact specLiftWord_C m P _ hF b len cap zs hok w hM

theorem implLiftWord_any (d p : Int) (b len cap : Nat) (zs : List Int) (w : World) (hl : -9223372036854775808 ≤ p) (hh : p ≤ 9223372036854775807) (hM : Mt w b len zs) :
    Calls Try.prog 20 #[.agg #[.int .i64 d, .int .i64 p], .slice (some ⟨b, 0, none⟩) len cap] w fun e w' => ∃ v, e = .returned (.tuple #[.agg #[.int .i64 (fLiftWord d p zs).1, v], .int .i64 (fLiftWord d p zs).2.2]) ∧ Below w.heap.size w w' ∧ Res w' w.heap.size w'.heap.size v (fLiftWord d p zs).2.1 := by
  unfold fLiftWord
  cases hf : fldI d p with
  | false => rw [fW_A hf]; exact implLiftWord_A d p hf hl hh _ w
  | true =>
    obtain ⟨m, P, rfl, rfl, hF⟩ := fldI_nat hf
    have hF := Fld.of hF
    cases hok : okW (2 ^ m) zs with
    | false => rw [fW_B hF hok]; exact implLiftWord_B m P _ hF b len cap zs hok w hM
    | true => rw [fW_C hF hok]; exact implLiftWord_C m P _ hF b len cap zs hok w hM

end Go.Proofs.Ytfhalaohegdbhaa
