/- ColumnSupport: the program and the model. -/
import Derived.Test.YtfhalaohegdbhaaDoorSupp
import Derived.Test.YtfhalaohegdbhaaDoorOut
import Derived.Test.YtfhalaohegdbhaaDoorRankS
import Derived.Test.YtfhalaohegdbhaaDoorJoined
import Derived.Test.YtfhalaohegdbhaaDoorWRank
import Derived.Test.YtfhalaohegdbhaaDoorTurnS
namespace Go.Proofs.YtfhalaohegdbhaaDoor
open Go.RowKit Go.Joins
set_option linter.unusedVariables false

def fColumnSupport (d p : Int) (zs : List Int) : Int × List Int × Int := fW d p zs (fun m q => q.length) (fun m q => joined [] (turnL q m))

set_option maxHeartbeats 1600000 in
theorem specColumnSupport_A (d p : Int) (hf : fldI d p = false) (v : Value) (w : World) :
    Calls Tryd.prog 49 #[.agg #[.int .i64 d, .int .i64 p], v] w fun e w' => ∃ v, e = .returned (.tuple #[.agg #[.int .i64 (0), v], .int .i64 1]) ∧ Below w.heap.size w w' ∧ Res w' w.heap.size w'.heap.size v [] := by
  have HF := Lib.hid hf
  clear hf
  have hR : MRoom ((w.alloc (.cells #[.int .i64 d, .int .i64 p] 44)).alloc (.cells #[.int .i64 0, .slice none 0 0] 28)) (w.heap.size + 1) := by simpa using MRoom.start (w.alloc (.cells #[.int .i64 d, .int .i64 p] 44)) (.int .i64 0) (.slice none 0 0) 28
  have hb0 := below_alloc2 w (.cells #[.int .i64 d, .int .i64 p] 44) (.cells #[.int .i64 0, .slice none 0 0] 28)
  go_enter Tryd.func49, Tryd.ntmps49
  go_wp2_with fail
  refine (l04Given_A d p HF.out _ _).mono ?_
  rintro e w1 ⟨rfl, hb⟩
  have hR1 := hR.below hb
  have hb1 := hb0.trans (hb.mono hb0.size)
  clear hb hR hb0
  obtain ⟨x, y, h0, h1⟩ := hR1.ex
  have f0 := hR1.f0
  have f1 := hR1.f1
  go_wp2_with fail
  refine bodyPost_ret (v := .tuple #[.agg #[.int .i64 0, .slice none 0 0], .int .i64 1]) (mat_results (p := 4) (u := 5) (fn := Tryd.f49) rfl _ rfl (two_setCell _ _ _ _ h0 h1).1 (two_setCell _ _ _ _ h0 h1).2) rfl ⟨_, rfl, ?_, .nil none 0⟩
  exact (only2 _ _ _ _).below hb1 (by simp)

set_option maxHeartbeats 1600000 in
theorem specColumnSupport_B (m P n : Nat) (hF : Fld m P n) (b len cap : Nat) (zs : List Int) (hok : okW n zs = false) (w : World) (hM : Mt w b len zs) :
    Calls Tryd.prog 49 #[.agg #[.int .i64 m, .int .i64 P], .slice (some ⟨b, 0, none⟩) len cap] w fun e w' => ∃ v, e = .returned (.tuple #[.agg #[.int .i64 (0), v], .int .i64 2]) ∧ Below w.heap.size w w' ∧ Res w' w.heap.size w'.heap.size v [] := by
  have hR : MRoom ((w.alloc (.cells #[.int .i64 m, .int .i64 P] 44)).alloc (.cells #[.int .i64 0, .slice none 0 0] 28)) (w.heap.size + 1) := by simpa using MRoom.start (w.alloc (.cells #[.int .i64 m, .int .i64 P] 44)) (.int .i64 0) (.slice none 0 0) 28
  have hb0 := below_alloc2 w (.cells #[.int .i64 m, .int .i64 P] 44) (.cells #[.int .i64 0, .slice none 0 0] 28)
  have HM := Lib.hid (hM.below hb0)
  have HO := Lib.hid hok
  clear hM hok
  go_enter Tryd.func49, Tryd.ntmps49
  go_wp2_with fail
  refine (l04Given_any m P n hF b len cap zs false HO.out _ HM.out).mono ?_
  rintro e w1 ⟨rfl, hb⟩
  have hR1 := hR.below hb
  have hb1 := hb0.trans (hb.mono hb0.size)
  clear hb hR hb0
  obtain ⟨x, y, h0, h1⟩ := hR1.ex
  have f0 := hR1.f0
  have f1 := hR1.f1
  go_wp2_with fail
  refine bodyPost_ret (v := .tuple #[.agg #[.int .i64 0, .slice none 0 0], .int .i64 2]) (mat_results (p := 4) (u := 5) (fn := Tryd.f49) rfl _ rfl (two_setCell _ _ _ _ h0 h1).1 (two_setCell _ _ _ _ h0 h1).2) rfl ⟨_, rfl, ?_, .nil none 0⟩
  exact (only2 _ _ _ _).below hb1 (by simp)

set_option maxRecDepth 100000 in
set_option maxHeartbeats 3200000 in
theorem specColumnSupport_C (m P n : Nat) (hF : Fld m P n) (b len cap : Nat) (zs : List Int) (hok : okW n zs = true) (w : World) (hM : Mt w b len zs) :
    Calls Tryd.prog 49 #[.agg #[.int .i64 m, .int .i64 P], .slice (some ⟨b, 0, none⟩) len cap] w fun e w' => ∃ v, e = .returned (.tuple #[.agg #[.int .i64 (((fun (m : Nat) (q : List Nat) => q.length) m (nats zs) : Nat) : Int), v], .int .i64 0]) ∧ Below w.heap.size w w' ∧ Res w' w.heap.size w'.heap.size v (ints ((fun (m : Nat) (q : List Nat) => joined [] (turnL q m)) m (nats zs))) := by
  have h32 := hF.n32
  have hm5 := hF.m5
  have hm1 := hF.m1
  have hn := hF.n
  have hlz := hM.len
  have hl5 := okW_len hok
  have hin := okW_in hok
  have hlt := nats_lt hin (by have := hF.n2; omega : 0 < n)
  have hlp := nats_length zs
  obtain ⟨q, hq⟩ : ∃ q, nats zs = q := ⟨_, rfl⟩
  have hzq : ints q = zs := by rw [← hq]; exact ints_nats hin
  have HO := Lib.hid hok
  rw [hq] at hlt hlp ⊢
  dsimp only
  have hR : MRoom ((w.alloc (.cells #[.int .i64 m, .int .i64 P] 44)).alloc (.cells #[.int .i64 0, .slice none 0 0] 28)) (w.heap.size + 1) := by simpa using MRoom.start (w.alloc (.cells #[.int .i64 m, .int .i64 P] 44)) (.int .i64 0) (.slice none 0 0) 28
  have hb0 := below_alloc2 w (.cells #[.int .i64 m, .int .i64 P] 44) (.cells #[.int .i64 0, .slice none 0 0] 28)
  have hX := (Box.one w (.int .i64 m) (.int .i64 P) 44).next (below_alloc1 _ (.cells #[.int .i64 0, .slice none 0 0] 28))
  have HM := Lib.hid (hM.below hb0)
  have HP := Lib.hid hlt
  have HQ := Lib.hid hq
  have HRL := Lib.hid (show Rl w .i64 (some ⟨b, 0, none⟩) len q by have := hM.rl hin; rwa [hq] at this)
  have hqm := lt_mem hlt
  rw [← hn] at hqm
  have hOK : OkM m q := ⟨hm1, by omega, by omega, hqm⟩
  have hTl : ∀ r ∈ turnL q m, r < 2 ^ q.length := fun r hr => by
    obtain ⟨c, _, rfl⟩ := List.mem_map.1 hr
    exact colm_lt q c q.length
  have hTn := turnL_len q m
  have HJ0 := (joined_spec (turnL q m) Ech.nil).1
  have HJl : ∀ r ∈ joined [] (turnL q m), r < 2 ^ q.length := joined_lt .nil (by simp) hTl
  have HJn : (joined [] (turnL q m)).length ≤ 10 := Nat.le_trans (HJ0.len HJl) (by omega)
  have HJ3 := lt32 (show q.length ≤ 20 by omega) HJl
  have HZQ := Lib.hid hzq
  have HOK := Lib.hid hOK
  have E := fun (g cp : Nat) (W : World) (hS : Mt W g m (ints (turnL q m))) => l02Echelon_any q.length g m cp (turnL q m) (by omega) hTl (by omega) W hS
  rw [cols_eq hTl] at E
  generalize joined [] (turnL q m) = J at E HJn ⊢
  have EE := Lib.hid E
  clear hqm hOK hTl HJ0 HJl HJ3 E hzq
  have hq5 : len ≤ 5 := by omega
  have hq1 : 1 ≤ len := by omega
  have hqq : q.length ≤ 5 := by omega
  have HQL := Lib.hid (show q.length = len by omega)
  clear hM hok hin hlt hq hlp hlz hl5
  go_enter Tryd.func49, Tryd.ntmps49
  go_wp2_with fail
  refine (l04Given_any m P n hF b len cap zs true HO.out _ HM.out).mono ?_
  rintro e w1 ⟨rfl, hb⟩
  have hR1 := hR.below hb
  have hX1 := hX.next hb
  have HM1 := Lib.hid (HM.out.below hb)
  have hb1 := hb0.trans (hb.mono hb0.size)
  clear hb hR hb0 hX
  have q0 := hX1.c0
  have hqz := hX1.lt
  have hrz := hR1.lt
  obtain ⟨x, y, h0, h1⟩ := hR1.ex
  have f0 := hR1.f0
  have f1 := hR1.f1
  have HB := Lib.hid hb1
  have HZ := Lib.hid hrz
  clear hb1 hX1 hR1 HM
  have HZ1 := Lib.hid hrz
  have hb7 := below_alloc1 w1 (.cells #[.int .i64 m, .slice (some ⟨b, 0, none⟩) len cap] 28)
  have hX7 := Box.one w1 (.int .i64 m) (.slice (some ⟨b, 0, none⟩) len cap) 28
  have hS7 : Sp1 (w1.alloc (.cells #[.int .i64 m, .slice (some ⟨b, 0, none⟩) len cap] 28)) w1.heap.size m b q.length cap (ints q) := by
    rw [HQL.out]
    exact ⟨⟨hX7.c0, hX7.c1, hX7.lt⟩, by rw [HZQ.out]; exact HM1.out.below hb7⟩
  have HS7 := Lib.hid hS7
  have HB7 := Lib.hid (HB.out.trans (hb7.mono HB.out.size))
  have hrz7 : w.heap.size + 1 < (w1.alloc (.cells #[.int .i64 m, .slice (some ⟨b, 0, none⟩) len cap] 28)).heap.size := Nat.lt_of_lt_of_le hrz hb7.size
  have t0 := (hb7.cell (p := ⟨w.heap.size + 1, 0, none⟩) hrz).trans h0
  have t1 := (hb7.cell (p := ⟨w.heap.size + 1, 1, none⟩) hrz).trans h1
  have t2 := (hb7.frozen (p := ⟨w.heap.size + 1, 0, none⟩) hrz).trans f0
  have t3 := (hb7.frozen (p := ⟨w.heap.size + 1, 1, none⟩) hrz).trans f1
  clear hX7 hS7 hb7
  go_wp2_with fail
  generalize w1.alloc (.cells #[.int .i64 m, .slice (some ⟨b, 0, none⟩) len cap] 28) = W7 at HS7 HB7 hrz7 t0 t1 t2 t3 ⊢
  refine (l02Turn_any w1.heap.size m b cap q HOK.out W7 HS7.out).mono ?_
  rintro e w4 ⟨v, rfl, hb, hV, hg⟩
  obtain ⟨g, cp, rfl, hMg⟩ := hg (by omega)
  have u0 := (hb.cell (p := ⟨w.heap.size + 1, 0, none⟩) hrz7).trans t0
  have u1 := (hb.cell (p := ⟨w.heap.size + 1, 1, none⟩) hrz7).trans t1
  have u2 := (hb.frozen (p := ⟨w.heap.size + 1, 0, none⟩) hrz7).trans t2
  have u3 := (hb.frozen (p := ⟨w.heap.size + 1, 1, none⟩) hrz7).trans t3
  have hrz4 : w.heap.size + 1 < w4.heap.size := Nat.lt_of_lt_of_le hrz7 hb.size
  have hb4 := HB7.out.trans (hb.mono HB7.out.size)
  have hb8 := below_alloc1 w4 (.cells #[.int .i64 q.length, .slice (some ⟨g, 0, none⟩) m cp] 28)
  have hX8 := Box.one w4 (.int .i64 q.length) (.slice (some ⟨g, 0, none⟩) m cp) 28
  have s0 := (hb8.cell (p := ⟨w.heap.size + 1, 0, none⟩) hrz4).trans u0
  have s1 := (hb8.cell (p := ⟨w.heap.size + 1, 1, none⟩) hrz4).trans u1
  have s2 := (hb8.frozen (p := ⟨w.heap.size + 1, 0, none⟩) hrz4).trans u2
  have s3 := (hb8.frozen (p := ⟨w.heap.size + 1, 1, none⟩) hrz4).trans u3
  have p0 := hX8.c0; have p1 := hX8.c1
  have hp8 := hX8.lt
  have HB8 := Lib.hid (hb4.trans (hb8.mono hb4.size))
  have HMG := Lib.hid (hMg.below hb8)
  have hrz8 : w.heap.size + 1 < (w4.alloc (.cells #[.int .i64 q.length, .slice (some ⟨g, 0, none⟩) m cp] 28)).heap.size := Nat.lt_of_lt_of_le hrz4 hb8.size
  clear hb hV hg hMg hb4 hb8 hX8 u0 u1 u2 u3 t0 t1 t2 t3
  go_wp2_with fail
  generalize w4.alloc (.cells #[.int .i64 q.length, .slice (some ⟨g, 0, none⟩) m cp] 28) = W8 at HMG HB8 hrz8 s0 s1 s2 s3 p0 p1 hp8 ⊢
  have hq8 : w.heap.size + 1 ≠ w4.heap.size := by omega
  generalize w4.heap.size = z8 at p0 p1 hp8 hq8 ⊢
  go_region_held3 (fun w' => w'.cell? ⟨z8, 0, none⟩ = some (.int .i64 q.length) ∧ w'.cell? ⟨z8, 1, none⟩ = some (.slice (some ⟨g, 0, none⟩) m cp)) (first | exact ⟨p0, p1⟩ | exact ⟨by assumption, by assumption⟩ | exact ⟨by rw [World.cell?_setCell_other _ ⟨w.heap.size + 1, 1, none⟩ ⟨z8, 0, none⟩ _ (by first | (simp; done) | (simp; omega)), World.cell?_setCell_other _ ⟨w.heap.size + 1, 0, none⟩ ⟨z8, 0, none⟩ _ (by first | (simp; done) | (simp; omega))]; assumption, by rw [World.cell?_setCell_other _ ⟨w.heap.size + 1, 1, none⟩ ⟨z8, 1, none⟩ _ (by first | (simp; done) | (simp; omega)), World.cell?_setCell_other _ ⟨w.heap.size + 1, 0, none⟩ ⟨z8, 1, none⟩ _ (by first | (simp; done) | (simp; omega))]; assumption⟩) (first | (go_at_call 56; refine (EE.out g cp _ (HMG.out.below (Below.refl _ _).drew)).mono ?_; rintro e w3 ⟨g3, c3, rfl, hb, hOR⟩; have t0 := (hb.cell (p := ⟨z8, 0, none⟩) hp8).trans p0; have t1 := (hb.cell (p := ⟨z8, 1, none⟩) hp8).trans p1; have t2 := (hb.cell (p := ⟨w.heap.size + 1, 0, none⟩) hrz8).trans s0; have t3 := (hb.cell (p := ⟨w.heap.size + 1, 1, none⟩) hrz8).trans s1; have t4 := (hb.frozen (p := ⟨w.heap.size + 1, 0, none⟩) hrz8).trans s2; have t5 := (hb.frozen (p := ⟨w.heap.size + 1, 1, none⟩) hrz8).trans s3; have HOR := Lib.hid hOR; have HB3 := Lib.hid (HB8.out.trans ((Below.refl _ _).drew.trans (hb.mono HB8.out.size))); clear hOR hb))
  all_goals
    go_wp2_with fail
    refine bodyPost_ret (v := .tuple #[.agg #[.int .i64 q.length, _], .int .i64 0]) (mat_results (p := 4) (u := 5) (fn := Tryd.f49) rfl _ rfl (two_setCell _ _ _ _ t2 t3).1 (two_setCell _ _ _ _ t2 t3).2) rfl ⟨_, rfl, ?_, Res.fin (q := w.heap.size + 1) (own_res HOR.out.own (by omega) (Nat.le_refl _)) (by simpa using hrz8) (by have := HB8.out.size; simp; omega) _ _⟩
    exact (only2 _ _ _ _).below HB3.out (by simp)

set_option maxHeartbeats 1600000 in
theorem implColumnSupport_A (d p : Int) (hf : fldI d p = false) (hl : -9223372036854775808 ≤ p) (hh : p ≤ 9223372036854775807) (v : Value) (w : World) :
    Calls Tryd.prog 50 #[.agg #[.int .i64 d, .int .i64 p], v] w fun e w' => ∃ v, e = .returned (.tuple #[.agg #[.int .i64 (0), v], .int .i64 1]) ∧ Below w.heap.size w w' ∧ Res w' w.heap.size w'.heap.size v [] := by
  have HF := Lib.hid hf
  clear hf
  have hR : MRoom ((w.alloc (.cells #[.int .i64 d, .int .i64 p] 44)).alloc (.cells #[.int .i64 0, .slice none 0 0] 28)) (w.heap.size + 1) := by simpa using MRoom.start (w.alloc (.cells #[.int .i64 d, .int .i64 p] 44)) (.int .i64 0) (.slice none 0 0) 28
  have hb0 := below_alloc2 w (.cells #[.int .i64 d, .int .i64 p] 44) (.cells #[.int .i64 0, .slice none 0 0] 28)
  go_enter Tryd.func50, Tryd.ntmps50
  go_wp2_with fail
  refine (wordFor_A d p HF.out hl hh _ _).mono ?_
  rintro e w1 ⟨rfl, hb⟩
  have hR1 := hR.below hb
  have hb1 := hb0.trans (hb.mono hb0.size)
  clear hb hR hb0
  obtain ⟨x, y, h0, h1⟩ := hR1.ex
  have f0 := hR1.f0
  have f1 := hR1.f1
  go_wp2_with fail
  refine bodyPost_ret (v := .tuple #[.agg #[.int .i64 0, .slice none 0 0], .int .i64 1]) (mat_results (p := 4) (u := 5) (fn := Tryd.f50) rfl _ rfl (two_setCell _ _ _ _ h0 h1).1 (two_setCell _ _ _ _ h0 h1).2) rfl ⟨_, rfl, ?_, .nil none 0⟩
  exact (only2 _ _ _ _).below hb1 (by simp)

set_option maxHeartbeats 1600000 in
theorem implColumnSupport_B (m P n : Nat) (hF : Fld m P n) (b len cap : Nat) (zs : List Int) (hok : okW n zs = false) (w : World) (hM : Mt w b len zs) :
    Calls Tryd.prog 50 #[.agg #[.int .i64 m, .int .i64 P], .slice (some ⟨b, 0, none⟩) len cap] w fun e w' => ∃ v, e = .returned (.tuple #[.agg #[.int .i64 (0), v], .int .i64 2]) ∧ Below w.heap.size w w' ∧ Res w' w.heap.size w'.heap.size v [] := by
  have hR : MRoom ((w.alloc (.cells #[.int .i64 m, .int .i64 P] 44)).alloc (.cells #[.int .i64 0, .slice none 0 0] 28)) (w.heap.size + 1) := by simpa using MRoom.start (w.alloc (.cells #[.int .i64 m, .int .i64 P] 44)) (.int .i64 0) (.slice none 0 0) 28
  have hb0 := below_alloc2 w (.cells #[.int .i64 m, .int .i64 P] 44) (.cells #[.int .i64 0, .slice none 0 0] 28)
  have HM := Lib.hid (hM.below hb0)
  have HO := Lib.hid hok
  clear hM hok
  go_enter Tryd.func50, Tryd.ntmps50
  go_wp2_with fail
  refine (wordFor_B m P n hF b len cap zs _ HM.out HO.out).mono ?_
  rintro e w1 ⟨rfl, hb⟩
  have hR1 := hR.below hb
  have hb1 := hb0.trans (hb.mono hb0.size)
  clear hb hR hb0
  obtain ⟨x, y, h0, h1⟩ := hR1.ex
  have f0 := hR1.f0
  have f1 := hR1.f1
  go_wp2_with fail
  refine bodyPost_ret (v := .tuple #[.agg #[.int .i64 0, .slice none 0 0], .int .i64 2]) (mat_results (p := 4) (u := 5) (fn := Tryd.f50) rfl _ rfl (two_setCell _ _ _ _ h0 h1).1 (two_setCell _ _ _ _ h0 h1).2) rfl ⟨_, rfl, ?_, .nil none 0⟩
  exact (only2 _ _ _ _).below hb1 (by simp)

set_option maxRecDepth 100000 in
set_option maxHeartbeats 3200000 in
theorem implColumnSupport_C (m P n : Nat) (hF : Fld m P n) (b len cap : Nat) (zs : List Int) (hok : okW n zs = true) (w : World) (hM : Mt w b len zs) (hT : Tab w) :
    Calls Tryd.prog 50 #[.agg #[.int .i64 m, .int .i64 P], .slice (some ⟨b, 0, none⟩) len cap] w fun e w' => ∃ v, e = .returned (.tuple #[.agg #[.int .i64 (((fun (m : Nat) (q : List Nat) => q.length) m (nats zs) : Nat) : Int), v], .int .i64 0]) ∧ Below w.heap.size w w' ∧ Res w' w.heap.size w'.heap.size v (ints ((fun (m : Nat) (q : List Nat) => joined [] (turnL q m)) m (nats zs))) := by
  have h32 := hF.n32
  have hm5 := hF.m5
  have hm1 := hF.m1
  have hn := hF.n
  have hlz := hM.len
  have hl5 := okW_len hok
  have hin := okW_in hok
  have hlt := nats_lt hin (by have := hF.n2; omega : 0 < n)
  have hlp := nats_length zs
  obtain ⟨q, hq⟩ : ∃ q, nats zs = q := ⟨_, rfl⟩
  have hzq : ints q = zs := by rw [← hq]; exact ints_nats hin
  have HO := Lib.hid hok
  rw [hq] at hlt hlp ⊢
  dsimp only
  have HT := Lib.hid hT
  clear hT
  have hR : MRoom ((w.alloc (.cells #[.int .i64 m, .int .i64 P] 44)).alloc (.cells #[.int .i64 0, .slice none 0 0] 28)) (w.heap.size + 1) := by simpa using MRoom.start (w.alloc (.cells #[.int .i64 m, .int .i64 P] 44)) (.int .i64 0) (.slice none 0 0) 28
  have hb0 := below_alloc2 w (.cells #[.int .i64 m, .int .i64 P] 44) (.cells #[.int .i64 0, .slice none 0 0] 28)
  have HM := Lib.hid (hM.below hb0)
  have HP := Lib.hid hlt
  have HQ := Lib.hid hq
  have hqm := lt_mem hlt
  rw [← hn] at hqm
  have hOK : OkM m q := ⟨hm1, by omega, by omega, hqm⟩
  have hTl : ∀ r ∈ turnL q m, r < 2 ^ q.length := fun r hr => by
    obtain ⟨c, _, rfl⟩ := List.mem_map.1 hr
    exact colm_lt q c q.length
  have hTn := turnL_len q m
  have HJ0 := (joined_spec (turnL q m) Ech.nil).1
  have HJl : ∀ r ∈ joined [] (turnL q m), r < 2 ^ q.length := joined_lt .nil (by simp) hTl
  have HJn : (joined [] (turnL q m)).length ≤ 10 := Nat.le_trans (HJ0.len HJl) (by omega)
  have HJ3 := lt32 (show q.length ≤ 20 by omega) HJl
  have HOK := Lib.hid hOK
  have HE := Lib.hid (fun (W : World) (hT : Tab W) => echelon_any q.length (turnL q m) (by omega) hTl (by omega) W hT)
  generalize joined [] (turnL q m) = J at HE HJn HJ3 ⊢
  have HJ3' := Lib.hid HJ3
  clear hqm hOK hTl HJ0 HJl HJ3
  have hq5 : len ≤ 5 := by omega
  have hq1 : 1 ≤ len := by omega
  have hqq : q.length ≤ 5 := by omega
  have HQL := Lib.hid (show q.length = len by omega)
  clear hM hok hin hlt hq hlp hlz hl5
  go_enter Tryd.func50, Tryd.ntmps50
  go_wp2_with fail
  refine (wordFor_C m P n hF b len cap zs _ HM.out HO.out).mono ?_
  rintro e w1 ⟨c, g, rfl, hb, hC, hRl⟩
  rw [HQ.out] at hRl
  have hD := hC.deg
  have hR1 := hR.below hb
  have hb1 := hb0.trans (hb.mono hb0.size)
  clear hb hR hb0
  go_wp2_with fail
  refine (gridW_any c m P n hF _ len len q HP.out (by omega) _ hD hRl).mono ?_
  rintro e w2 ⟨rfl, hb⟩
  have hR2 := hR1.below hb
  have hb2 := hb1.trans (hb.mono hb1.size)
  clear hb hR1 hb1 hD hRl hC
  go_wp2_with fail
  refine (turned_any m q HOK.out _).mono ?_
  rintro e w8 ⟨rfl, hb⟩
  have hR8 := hR2.below hb
  have hb8 := hb2.trans (hb.mono hb2.size)
  clear hb hR2 hb2
  go_wp2_with fail
  refine (HE.out _ (HT.out.below hb8)).mono ?_
  rintro e w3 ⟨rfl, hb⟩
  have hR3 := hR8.below hb
  have hb3 := hb8.trans (hb.mono hb8.size)
  clear hb hR8 hb8
  have HZ := Lib.hid (show w.heap.size + 1 < w3.heap.size from hR3.lt)
  go_wp2_with fail
  refine (matrix_any J q.length (HJn) (HJ3'.out) _).mono ?_
  rintro e wm ⟨v, rfl, hb, hV⟩
  obtain ⟨ao, mo, co, rfl⟩ := hV.form
  have hRr := hR3.below hb
  have hbr := hb3.trans (hb.mono hb3.size)
  clear hb hR3 hb3
  have hRz := hRr.lt
  obtain ⟨x, y, h0, h1⟩ := hRr.ex
  have f0 := hRr.f0
  have f1 := hRr.f1
  have HV := Lib.hid hV
  have HBr := Lib.hid hbr
  have HRz := Lib.hid hRz
  clear hV hbr hRr
  go_wp2_with fail
  refine bodyPost_ret (v := .tuple #[.agg #[.int .i64 (q.length), .slice ao mo co], .int .i64 0]) (mat_results (p := 4) (u := 5) (fn := Tryd.f50) rfl _ rfl (two_setCell _ _ _ _ h0 h1).1 (two_setCell _ _ _ _ h0 h1).2) rfl ⟨_, rfl, ?_, HV.out.fin (q := w.heap.size + 1) ?_ ?_ _ _⟩
  · exact (only2 _ _ _ _).below HBr.out (by simp)
  · exact HZ.out
  · have := HZ.out; omega

theorem specColumnSupport_any (d p : Int) (b len cap : Nat) (zs : List Int) (w : World) (hM : Mt w b len zs) :
    Calls Tryd.prog 49 #[.agg #[.int .i64 d, .int .i64 p], .slice (some ⟨b, 0, none⟩) len cap] w fun e w' => ∃ v, e = .returned (.tuple #[.agg #[.int .i64 (fColumnSupport d p zs).1, v], .int .i64 (fColumnSupport d p zs).2.2]) ∧ Below w.heap.size w w' ∧ Res w' w.heap.size w'.heap.size v (fColumnSupport d p zs).2.1 := by
  unfold fColumnSupport
  cases hf : fldI d p with
  | false => rw [fW_A hf]; exact specColumnSupport_A d p hf _ w
  | true =>
    obtain ⟨m, P, rfl, rfl, hF⟩ := fldI_nat hf
    have hF := Fld.of hF
    cases hok : okW (2 ^ m) zs with
    | false => rw [fW_B hF hok]; exact specColumnSupport_B m P _ hF b len cap zs hok w hM
    | true => rw [fW_C hF hok]; exact specColumnSupport_C m P _ hF b len cap zs hok w hM

theorem implColumnSupport_any (d p : Int) (b len cap : Nat) (zs : List Int) (w : World) (hl : -9223372036854775808 ≤ p) (hh : p ≤ 9223372036854775807) (hM : Mt w b len zs) (hT : Tab w) :
    Calls Tryd.prog 50 #[.agg #[.int .i64 d, .int .i64 p], .slice (some ⟨b, 0, none⟩) len cap] w fun e w' => ∃ v, e = .returned (.tuple #[.agg #[.int .i64 (fColumnSupport d p zs).1, v], .int .i64 (fColumnSupport d p zs).2.2]) ∧ Below w.heap.size w w' ∧ Res w' w.heap.size w'.heap.size v (fColumnSupport d p zs).2.1 := by
  unfold fColumnSupport
  cases hf : fldI d p with
  | false => rw [fW_A hf]; exact implColumnSupport_A d p hf hl hh _ w
  | true =>
    obtain ⟨m, P, rfl, rfl, hF⟩ := fldI_nat hf
    have hF := Fld.of hF
    cases hok : okW (2 ^ m) zs with
    | false => rw [fW_B hF hok]; exact implColumnSupport_B m P _ hF b len cap zs hok w hM
    | true => rw [fW_C hF hok]; exact implColumnSupport_C m P _ hF b len cap zs hok w hM hT

end Go.Proofs.YtfhalaohegdbhaaDoor
