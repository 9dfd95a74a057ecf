/- SquareGabidulin: where something is not well. · SquareGabidulin: the program, where all is well. · SquareGabidulin: the program and the model. -/
import Derived.Test.YtllojcndhkpfmaaDoorSgP
import Derived.Test.YtllojcndhkpfmaaDoorSgB
namespace Go.Proofs.YtllojcndhkpfmaaDoor
open Go.RowKit Go.Joins
set_option linter.unusedVariables false

set_option maxHeartbeats 1600000 in
theorem specSquareGabidulin_A (d p kd s : Int) (b len cap : Nat) (zs : List Int) (hg : gabF d p zs kd = false) (w : World) (hM : Mt w b len zs) :
    Calls Tryd.prog 5 #[.agg (gabC d p (.slice (some ⟨b, 0, none⟩) len cap) kd), .int .i64 s] w (POSTG w 0 0 [] 0 1) := by
  obtain ⟨hR, hA⟩ := sg_start w d p kd (.slice (some ⟨b, 0, none⟩) len cap) _ rfl
  have HS := Lib.hid (l05Ok_any d p w.heap.size b len cap kd zs _ hA.x (hM.below hA.b) false hg)
  clear hg
  go_enter Tryd.func5, Tryd.ntmps5
  go_wp2_with fail
  refine HS.out.mono ?_
  rintro e w1 ⟨rfl, hb⟩
  have hR1 := hR.below hb
  have hA1 := hA.next hb
  have r0 := hR1.cell 0 _ rfl; have r1 := hR1.cell 1 _ rfl; have r2 := hR1.cell 2 _ rfl; have r3 := hR1.cell 3 _ rfl
  have g0 := hR1.free 0 (by simp); have g1 := hR1.free 1 (by simp); have g2 := hR1.free 2 (by simp); have g3 := hR1.free 3 (by simp)
  have HR1 := Lib.hid hR1
  have HB1 := Lib.hid hA1.b
  clear hb hR hA hR1 hA1
  go_wp2_with fail
  exact bodyPost_ret (v := .tuple #[.agg (gabC 0 0 (.slice none 0 0) 0), .int .i64 1]) (gab_results (p := 4) (u := 5) (fn := Tryd.f5) rfl _ rfl (HR1.out.four _ _ _ _)) rfl ⟨_, rfl, below_four HB1.out (by omega) _ _ _ _, .nil none 0⟩
set_option maxHeartbeats 1600000 in
theorem specSquareGabidulin_B (d p kd s : Int) (b len cap : Nat) (zs : List Int) (hg : gabF d p zs kd = true) (hs : ¬ (0 ≤ s ∧ s ≤ 1000)) (w : World) (hM : Mt w b len zs) :
    Calls Tryd.prog 5 #[.agg (gabC d p (.slice (some ⟨b, 0, none⟩) len cap) kd), .int .i64 s] w (POSTG w 0 0 [] 0 2) := by
  obtain ⟨hR, hA⟩ := sg_start w d p kd (.slice (some ⟨b, 0, none⟩) len cap) _ rfl
  have HS := Lib.hid (l05Ok_any d p w.heap.size b len cap kd zs _ hA.x (hM.below hA.b) true hg)
  have hs' : s < 0 ∨ 1000 < s := by omega
  have HK := Lib.hid (fun w => l00In_no s 0 1000 hs' w)
  clear hg hs hs'
  go_enter Tryd.func5, Tryd.ntmps5
  go_wp2_with fail
  refine HS.out.mono ?_
  rintro e w1 ⟨rfl, hb⟩
  have hR1 := hR.below hb
  have hA1 := hA.next hb
  have r0 := hR1.cell 0 _ rfl; have r1 := hR1.cell 1 _ rfl; have r2 := hR1.cell 2 _ rfl; have r3 := hR1.cell 3 _ rfl
  have g0 := hR1.free 0 (by simp); have g1 := hR1.free 1 (by simp); have g2 := hR1.free 2 (by simp); have g3 := hR1.free 3 (by simp)
  have HR1 := Lib.hid hR1
  have HB1 := Lib.hid hA1.b
  clear hb hR hA hR1 hA1
  go_wp2_with (go_at_call 13; refine (HK.out _).mono ?_; rintro e w' ⟨rfl, rfl⟩)
  exact bodyPost_ret (v := .tuple #[.agg (gabC 0 0 (.slice none 0 0) 0), .int .i64 2]) (gab_results (p := 4) (u := 5) (fn := Tryd.f5) rfl _ rfl (HR1.out.four _ _ _ _)) rfl ⟨_, rfl, below_four HB1.out (by omega) _ _ _ _, .nil none 0⟩
set_option maxHeartbeats 1600000 in
theorem implSquareGabidulin_A (d p kd s : Int) (b len cap : Nat) (zs : List Int) (hg : gabF d p zs kd = false) (hl : -9223372036854775808 ≤ p) (hh : p ≤ 9223372036854775807) (w : World) (hM : Mt w b len zs) (hT : Tab w) :
    Calls Tryd.prog 7 #[.agg (gabC d p (.slice (some ⟨b, 0, none⟩) len cap) kd), .int .i64 s] w (POSTG w 0 0 [] 0 1) := by
  obtain ⟨hR, hA⟩ := sg_start w d p kd (.slice (some ⟨b, 0, none⟩) len cap) _ rfl
  have HM := Lib.hid (hM.below hA.b)
  have HT := Lib.hid (hT.below hA.b)
  have HS := Lib.hid (fun w hM hT => pointCoderFor_no d p b len cap zs kd hg hl hh w hM hT)
  clear hg hM hT
  go_enter Tryd.func7, Tryd.ntmps7
  go_wp2_with fail
  refine (HS.out _ HM.out HT.out).mono ?_
  rintro e w1 ⟨rfl, hb⟩
  have hR1 := hR.below hb
  have hA1 := hA.next hb
  have r0 := hR1.cell 0 _ rfl; have r1 := hR1.cell 1 _ rfl; have r2 := hR1.cell 2 _ rfl; have r3 := hR1.cell 3 _ rfl
  have g0 := hR1.free 0 (by simp); have g1 := hR1.free 1 (by simp); have g2 := hR1.free 2 (by simp); have g3 := hR1.free 3 (by simp)
  have HR1 := Lib.hid hR1
  have HB1 := Lib.hid hA1.b
  clear hb hR hA hR1 hA1
  go_wp2_with fail
  exact bodyPost_ret (v := .tuple #[.agg (gabC 0 0 (.slice none 0 0) 0), .int .i64 1]) (gab_results (p := 4) (u := 5) (fn := Tryd.f7) rfl _ rfl (HR1.out.four _ _ _ _)) rfl ⟨_, rfl, below_four HB1.out (by omega) _ _ _ _, .nil none 0⟩
set_option maxHeartbeats 1600000 in
theorem implSquareGabidulin_B (m P n : Nat) (hF : Fld m P n) (kd s : Int) (b len cap : Nat) (zs : List Int) (hg : gabB n zs kd = true) (hs : ¬ (0 ≤ s ∧ s ≤ 1000)) (w : World) (hM : Mt w b len zs) (hT : Tab w) :
    Calls Tryd.prog 7 #[.agg (gabC m P (.slice (some ⟨b, 0, none⟩) len cap) kd), .int .i64 s] w (POSTG w 0 0 [] 0 2) := by
  obtain ⟨hR, hA⟩ := sg_start w m P kd (.slice (some ⟨b, 0, none⟩) len cap) _ rfl
  have HM := Lib.hid (hM.below hA.b)
  have HT := Lib.hid (hT.below hA.b)
  have hs' : s < 0 ∨ 1000 < s := by omega
  have HK := Lib.hid (fun w => isTimes_no s hs' w)
  have HS := Lib.hid (fun w hM hT => pointCoderFor_yes m P n hF b len cap zs kd hg w hM hT)
  clear hg hM hT hs hs'
  go_enter Tryd.func7, Tryd.ntmps7
  go_wp2_with fail
  refine (HS.out _ HM.out HT.out).mono ?_
  rintro e w1 ⟨q, c, g, rfl, hb, hP⟩
  have hR1 := hR.below hb
  have hA1 := hA.next hb
  have r0 := hR1.cell 0 _ rfl; have r1 := hR1.cell 1 _ rfl; have r2 := hR1.cell 2 _ rfl; have r3 := hR1.cell 3 _ rfl
  have g0 := hR1.free 0 (by simp); have g1 := hR1.free 1 (by simp); have g2 := hR1.free 2 (by simp); have g3 := hR1.free 3 (by simp)
  have HR1 := Lib.hid hR1
  have HB1 := Lib.hid hA1.b
  clear hb hR hA hR1 hA1 hP
  go_wp2_with (go_at_call 18; refine (HK.out _).mono ?_; rintro e w' ⟨rfl, rfl⟩)
  exact bodyPost_ret (v := .tuple #[.agg (gabC 0 0 (.slice none 0 0) 0), .int .i64 2]) (gab_results (p := 4) (u := 5) (fn := Tryd.f7) rfl _ rfl (HR1.out.four _ _ _ _)) rfl ⟨_, rfl, below_four HB1.out (by omega) _ _ _ _, .nil none 0⟩
end Go.Proofs.YtllojcndhkpfmaaDoor
namespace Go.Proofs.YtllojcndhkpfmaaDoor
open Go.RowKit Go.Joins
set_option linter.unusedVariables false
set_option linter.unusedSimpArgs false

/-- What holds all along: the code's copy and the coder lie where they lay. -/
structure SgH (w : World) (m P : Int) (v : Value) (kd : Int) (q c g len : Nat) (W : World) : Prop where
  a : G4 w m P v kd W
  p0 : W.cell? ⟨q, 0, none⟩ = some (.pointer (some ⟨c, 0, none⟩))
  p1 : W.cell? ⟨q, 1, none⟩ = some (.slice (some ⟨g, 0, none⟩) len len)
  lt : q < W.heap.size
theorem SgH.next {w : World} {m P : Int} {v : Value} {kd : Int} {q c g len : Nat} {W W' : World} (h : SgH w m P v kd q c g len W) (hb : Below W.heap.size W W') : SgH w m P v kd q c g len W' :=
  ⟨h.a.next hb, (hb.cell (p := ⟨q, 0, none⟩) h.lt).trans h.p0, (hb.cell (p := ⟨q, 1, none⟩) h.lt).trans h.p1, Nat.lt_of_lt_of_le h.lt hb.size⟩
theorem SgH.four {w : World} {m P : Int} {v : Value} {kd : Int} {q c g len : Nat} {W : World} (h : SgH w m P v kd q c g len W) (hq : w.heap.size + 1 ≠ q) (e0 e1 e2 e3 : Value) : SgH w m P v kd q c g len (four W (w.heap.size + 1) e0 e1 e2 e3) :=
  ⟨⟨below_four h.a.b (by omega) _ _ _ _, ⟨(cell_four _ _ _ _ _ _ _ (by simp)).trans h.a.x.c0, (cell_four _ _ _ _ _ _ _ (by simp)).trans h.a.x.c1, (cell_four _ _ _ _ _ _ _ (by simp)).trans h.a.x.c2, (cell_four _ _ _ _ _ _ _ (by simp)).trans h.a.x.c3, by simpa using h.a.x.lt⟩⟩, (cell_four _ _ _ _ _ _ _ hq).trans h.p0, (cell_four _ _ _ _ _ _ _ hq).trans h.p1, by simpa using h.lt⟩

set_option maxRecDepth 100000 in
set_option maxHeartbeats 6400000 in
theorem implSquareGabidulin_C (m P n : Nat) (hF : Fld m P n) (kd : Int) (s : Nat) (b len cap : Nat) (zs : List Int) (hg : gabB n zs kd = true) (hs : s ≤ 1000) (w : World) (hM : Mt w b len zs) (hT : Tab w) :
    Calls Tryd.prog 7 #[.agg (gabC m P (.slice (some ⟨b, 0, none⟩) len cap) kd), .int .i64 s] w (POSTG w m P (ints (sqW P (nats zs) s len)) kd 0) := by
  obtain ⟨hR, hA⟩ := sg_start w m P kd (.slice (some ⟨b, 0, none⟩) len cap) _ rfl
  have h32 := hF.n32
  have hn0 : 0 < n := by have := hF.n2; omega
  have hlen := hM.len
  obtain ⟨k1, k2, k3, k4⟩ := gabB_yes hg
  have h5 := okW_len k1
  have hL := nats_lt (okW_in k1) hn0
  have hlen5 : len ≤ 5 := by omega
  have HLT := Lib.hid hL
  have HM := Lib.hid (hM.below hA.b)
  have HT := Lib.hid (hT.below hA.b)
  have HK := Lib.hid (fun w => isTimes_yes s (by omega) (by omega) w)
  have HSQ := Lib.hid (fun c w hC => squarer_any c m P n hF s hs w hC)
  have HS := Lib.hid (fun w hM hT => pointCoderFor_yes m P n hF b len cap zs kd hg w hM hT)
  have HS1 := Lib.hid (fun q F g W (hFx : ∀ x, x < n → F x = sq P x s) hU hR => squarer1_any q F n h32 (fun x hx => by rw [hFx x hx]; exact sq_lt hF hx s) (some ⟨g, 0, none⟩) len len (nats zs) hL (by omega) W hU hR)
  have H256 := Lib.hid (fun j => show nth (sqW P (nats zs) s len) j < 256 by
    by_cases hj : j < len
    · rw [sqW, lst_nth _ hj]; have := sq_lt hF (hL j) s; omega
    · rw [nth_ge (by rw [sqW_len]; omega)]; omega)
  have HNU := Lib.hid (fun G W hR => numbersOf_any (some ⟨G, 0, none⟩) len len (sqW P (nats zs) s len) (by omega) H256.out W hR)
  have HE3 := Lib.hid (fun (F : Nat → Nat) (hFx : ∀ x, x < n → F x = sq P x s) => (show lst (fun j => F (nth (nats zs) j)) len = sqW P (nats zs) s len from lst_congr fun j hj => hFx _ (hL j)))
  clear hg hM hT k1 k2 hL
  go_enter Tryd.func7, Tryd.ntmps7
  go_wp2_with fail
  refine (HS.out _ HM.out HT.out).mono ?_
  rintro e w1 ⟨q, c, g, rfl, hb, hP⟩
  have hR1 := hR.below hb
  have hA1 := hA.next hb
  have HRD := Lib.hid (hR1.below (Below.refl _ w1).drew)
  have HAD := Lib.hid hA1.drew
  have HPD := Lib.hid (hP.next (Below.refl _ w1).drew)
  have HZ1 := Lib.hid (show w.heap.size + 1 < w1.drew.heap.size from hR1.lt)
  have HQN : Hid (w.heap.size + 1 ≠ q) := Lib.hid (fun e => by have h1 := hR1.cell 0 _ rfl; have h2 := hP.c0; rw [← e] at h2; rw [h1] at h2; cases h2)
  have x0 := hA1.x.c0; have x1 := hA1.x.c1; have x3 := hA1.x.c3
  have p0 := hP.c0; have p1 := hP.c1
  clear hb hR hA hR1 hA1 hP
  go_wp2_with (go_at_call 18; refine (HK.out _).mono ?_; rintro e w' ⟨rfl, rfl⟩)
  have F0 : SgH w m P (.slice (some ⟨b, 0, none⟩) len cap) kd q c g len w1.drew := ⟨HAD.out, HPD.out.c0, HPD.out.c1, HPD.out.lt⟩
  have HQ := Lib.hid (show w.heap.size + 1 ≠ q from HQN.out)
  refine wp_region_S (n := 18) (S := SgH w m P (.slice (some ⟨b, 0, none⟩) len cap) kd q c g len) (by kernel_rfl) (by kernel_rfl) (by exact F0) (fun G inv hS => ?_)
  clear x0 x1 x3 p0 p1 F0
  refine wpAnyS_take (i := 0) (v := ?_) G inv hS (by decide) rfl (by kernel_rfl) (by kernel_rfl) (fun _ _ _ h => h) (Or.inl ⟨by kernel_rfl, fun W hW => ?_⟩) (fun inv => ?_)
  rotate_left
  · have z0 := hW.a.x.c0
    have z1 := hW.a.x.c1
    have z3 := hW.a.x.c3
    have z4 := hW.p0
    have z5 := hW.p1
    go_simp
    try with_reducible rfl
  try simp only [Act.put, List.setIfInBounds_toArray, List.set_cons_zero, List.set_cons_succ]
  refine wpAnyS_take (i := 1) (v := ?_) G inv hS (by decide) rfl (by kernel_rfl) (by kernel_rfl) (fun _ _ _ h => h) (Or.inl ⟨by kernel_rfl, fun W hW => ?_⟩) (fun inv => ?_)
  rotate_left
  · have z0 := hW.a.x.c0
    have z1 := hW.a.x.c1
    have z3 := hW.a.x.c3
    have z4 := hW.p0
    have z5 := hW.p1
    go_simp
    try with_reducible rfl
  try simp only [Act.put, List.setIfInBounds_toArray, List.set_cons_zero, List.set_cons_succ]
  refine wpAnyS_take (i := 2) (v := ?_) G inv hS (by decide) rfl (by kernel_rfl) (by kernel_rfl) (fun _ _ _ h => h) (Or.inl ⟨by kernel_rfl, fun W hW => ?_⟩) (fun inv => ?_)
  rotate_left
  · have z0 := hW.a.x.c0
    have z1 := hW.a.x.c1
    have z3 := hW.a.x.c3
    have z4 := hW.p0
    have z5 := hW.p1
    go_simp
    try with_reducible rfl
  try simp only [Act.put, List.setIfInBounds_toArray, List.set_cons_zero, List.set_cons_succ]
  refine wpAnyS_take (i := 3) (v := ?_) G inv hS (by decide) rfl (by kernel_rfl) (by kernel_rfl) (fun _ _ _ h => h) (Or.inl ⟨by kernel_rfl, fun W hW => ?_⟩) (fun inv => ?_)
  rotate_left
  · have z0 := hW.a.x.c0
    have z1 := hW.a.x.c1
    have z3 := hW.a.x.c3
    have z4 := hW.p0
    have z5 := hW.p1
    go_simp
    try with_reducible rfl
  try simp only [Act.put, List.setIfInBounds_toArray, List.set_cons_zero, List.set_cons_succ]
  refine wpAnyS_take (i := 4) (v := ?_) G inv hS (by decide) rfl (by kernel_rfl) (by kernel_rfl) (fun _ _ _ h => h) (Or.inl ⟨by kernel_rfl, fun W hW => ?_⟩) (fun inv => ?_)
  rotate_left
  · have z0 := hW.a.x.c0
    have z1 := hW.a.x.c1
    have z3 := hW.a.x.c3
    have z4 := hW.p0
    have z5 := hW.p1
    go_simp
    try with_reducible rfl
  try simp only [Act.put, List.setIfInBounds_toArray, List.set_cons_zero, List.set_cons_succ]
  refine wpAnyS_take (i := 5) (v := ?_) G inv hS (by decide) rfl (by kernel_rfl) (by kernel_rfl) (fun _ _ _ h => h) (Or.inl ⟨by kernel_rfl, fun W hW => ?_⟩) (fun inv => ?_)
  rotate_left
  · have z0 := hW.a.x.c0
    have z1 := hW.a.x.c1
    have z3 := hW.a.x.c3
    have z4 := hW.p0
    have z5 := hW.p1
    go_simp
    try with_reducible rfl
  try simp only [Act.put, List.setIfInBounds_toArray, List.set_cons_zero, List.set_cons_succ]
  refine wpAnyS_take (i := 6) (v := ?_) G inv hS (by decide) rfl (by kernel_rfl) (by kernel_rfl) (fun _ _ _ h => h) (Or.inl ⟨by kernel_rfl, fun W hW => ?_⟩) (fun inv => ?_)
  rotate_left
  · have z0 := hW.a.x.c0
    have z1 := hW.a.x.c1
    have z3 := hW.a.x.c3
    have z4 := hW.p0
    have z5 := hW.p1
    go_simp
    try with_reducible rfl
  try simp only [Act.put, List.setIfInBounds_toArray, List.set_cons_zero, List.set_cons_succ]
  refine wpAnyS_take (i := 8) (v := ?_) G inv hS (by decide) rfl (by kernel_rfl) (by kernel_rfl) (fun _ _ _ h => h) (Or.inl ⟨by kernel_rfl, fun W hW => ?_⟩) (fun inv => ?_)
  rotate_left
  · have z0 := hW.a.x.c0
    have z1 := hW.a.x.c1
    have z3 := hW.a.x.c3
    have z4 := hW.p0
    have z5 := hW.p1
    go_simp
    try with_reducible rfl
  try simp only [Act.put, List.setIfInBounds_toArray, List.set_cons_zero, List.set_cons_succ]
  refine wpAnyS_take (i := 9) (v := ?_) G inv hS (by decide) rfl (by kernel_rfl) (by kernel_rfl) (fun _ _ _ h => h) (Or.inl ⟨by kernel_rfl, fun W hW => ?_⟩) (fun inv => ?_)
  rotate_left
  · have z0 := hW.a.x.c0
    have z1 := hW.a.x.c1
    have z3 := hW.a.x.c3
    have z4 := hW.p0
    have z5 := hW.p1
    go_simp
    try with_reducible rfl
  try simp only [Act.put, List.setIfInBounds_toArray, List.set_cons_zero, List.set_cons_succ]
  refine wpAnyS_take (i := 10) (v := ?_) G inv hS (by decide) rfl (by kernel_rfl) (by kernel_rfl) (fun _ _ _ h => h) (Or.inl ⟨by kernel_rfl, fun W hW => ?_⟩) (fun inv => ?_)
  rotate_left
  · have z0 := hW.a.x.c0
    have z1 := hW.a.x.c1
    have z3 := hW.a.x.c3
    have z4 := hW.p0
    have z5 := hW.p1
    go_simp
    try with_reducible rfl
  try simp only [Act.put, List.setIfInBounds_toArray, List.set_cons_zero, List.set_cons_succ]
  refine wpAnyS_take (i := 11) (v := ?_) G inv hS (by decide) rfl (by kernel_rfl) (by kernel_rfl) (fun _ _ _ h => h) (Or.inl ⟨by kernel_rfl, fun W hW => ?_⟩) (fun inv => ?_)
  rotate_left
  · have z0 := hW.a.x.c0
    have z1 := hW.a.x.c1
    have z3 := hW.a.x.c3
    have z4 := hW.p0
    have z5 := hW.p1
    go_simp
    try with_reducible rfl
  try simp only [Act.put, List.setIfInBounds_toArray, List.set_cons_zero, List.set_cons_succ]
  refine wpAnyS_take (i := 14) (v := ?_) G inv hS (by decide) rfl (by kernel_rfl) (by kernel_rfl) (fun _ _ _ h => h) (Or.inl ⟨by kernel_rfl, fun W hW => ?_⟩) (fun inv => ?_)
  rotate_left
  · have z0 := hW.a.x.c0
    have z1 := hW.a.x.c1
    have z3 := hW.a.x.c3
    have z4 := hW.p0
    have z5 := hW.p1
    go_simp
    try with_reducible rfl
  try simp only [Act.put, List.setIfInBounds_toArray, List.set_cons_zero, List.set_cons_succ]
  refine wpAnyS_take (i := 15) (v := ?_) G inv hS (by decide) rfl (by kernel_rfl) (by kernel_rfl) (fun _ _ _ h => h) (Or.inl ⟨by kernel_rfl, fun W hW => ?_⟩) (fun inv => ?_)
  rotate_left
  · have z0 := hW.a.x.c0
    have z1 := hW.a.x.c1
    have z3 := hW.a.x.c3
    have z4 := hW.p0
    have z5 := hW.p1
    go_simp
    try with_reducible rfl
  try simp only [Act.put, List.setIfInBounds_toArray, List.set_cons_zero, List.set_cons_succ]
  refine wpAnyS_step (i := 7) (by kernel_rfl) rfl ?_
  go_wp2_with (go_at_call 20; refine (HSQ.out c _ HPD.out.cal).mono ?_; rintro e w2 ⟨aq, F, rfl, hb, hU, hFx⟩)
  have hS := hS.next hb
  have HR2 := Lib.hid (HRD.out.below hb)
  have HP2 := Lib.hid (HPD.out.next hb)
  have HU2 := Lib.hid hU
  have HFX := Lib.hid hFx
  clear hb hU hFx
  change (7 ≠ 18 → SgH w m P (.slice (some ⟨b, 0, none⟩) len cap) kd q c g len _) ∧ _
  refine ⟨fun _ => hS, ?_⟩
  have inv := HeadInv.setC (i := 7) inv (by kernel_rfl) (by decide)
  refine wpAnyS_step (i := 12) (by kernel_rfl) rfl ?_
  go_wp2_with (go_at_call 34; refine (HS1.out aq F g _ HFX.out HU2.out HP2.out.row).mono ?_; rintro e w3 ⟨b3, rfl, hb, hR3⟩)
  have hS := hS.next hb
  have HR3 := Lib.hid (HR2.out.below hb)
  have HRR := Lib.hid hR3
  clear hb hR3
  change (12 ≠ 18 → SgH w m P (.slice (some ⟨b, 0, none⟩) len cap) kd q c g len _) ∧ _
  refine ⟨fun _ => hS, ?_⟩
  have inv := HeadInv.setC (i := 12) inv (by kernel_rfl) (by decide)
  refine wpAnyS_step (i := 13) (by kernel_rfl) rfl ?_
  go_wp2_with (go_at_call 19; refine (HNU.out b3 _ (by have h := HRR.out; rw [HE3.out F HFX.out] at h; exact h)).mono ?_; rintro e w4 ⟨bn, rfl, hge, hb, hM4⟩)
  have hS := hS.next hb
  have HR4 := Lib.hid (HR3.out.below hb)
  have HM4 := Lib.hid hM4
  have HZ4 := Lib.hid (Nat.lt_of_lt_of_le HR3.out.lt hge)
  clear hb hM4 hge
  change (13 ≠ 18 → SgH w m P (.slice (some ⟨b, 0, none⟩) len cap) kd q c g len _) ∧ _
  refine ⟨fun _ => hS, ?_⟩
  have inv := HeadInv.setC (i := 13) inv (by kernel_rfl) (by decide)
  refine wpAnyS_step (i := 16) (by kernel_rfl) rfl ?_
  go_wp2
  change (16 ≠ 18 → SgH w m P (.slice (some ⟨b, 0, none⟩) len cap) kd q c g len _) ∧ _
  refine ⟨fun _ => hS, ?_⟩
  have inv := HeadInv.setC (i := 16) inv (by kernel_rfl) (by decide)
  refine wpAnyS_step (i := 17) (by kernel_rfl) rfl ?_
  have r0 := HR4.out.cell 0 _ rfl; have r1 := HR4.out.cell 1 _ rfl; have r2 := HR4.out.cell 2 _ rfl; have r3 := HR4.out.cell 3 _ rfl
  have g0 := HR4.out.free 0 (by simp); have g1 := HR4.out.free 1 (by simp); have g2 := HR4.out.free 2 (by simp); have g3 := HR4.out.free 3 (by simp)
  go_wp2
  have hS4 := hS.four HQ.out (.int .i64 m) (.int .i64 P) (.slice (some ⟨bn, 0, none⟩) len len) (.int .i64 kd)
  refine ⟨fun _ => hS4, ?_⟩
  clear r0 r1 r2 r3 g0 g1 g2 g3
  refine wpAnyS_step (i := 18) (by kernel_rfl) rfl ?_
  go_wp2
  refine ⟨fun h => absurd rfl h, ?_⟩
  refine wpAnyS_done (by kernel_rfl) ?_ _
  have hz := HZ4.out
  go_wp2
  exact bodyPost_ret (v := .tuple #[.agg (gabC m P (.slice (some ⟨bn, 0, none⟩) len len) kd), .int .i64 0]) (gab_results (p := 4) (u := 5) (fn := Tryd.f7) rfl _ rfl (HR4.out.four _ _ _ _)) rfl ⟨_, rfl, below_four hS.a.b (by omega) _ _ _ _, (HM4.out.four (by omega) _ _ _ _).res (by have := hS.a.z; omega)⟩
end Go.Proofs.YtllojcndhkpfmaaDoor
namespace Go.Proofs.YtllojcndhkpfmaaDoor
open Go.RowKit Go.Joins
set_option linter.unusedVariables false

theorem specSquareGabidulin_any (d p kd : Int) (b len cap : Nat) (zs : List Int) (s : Int) (w : World) (hM : Mt w b len zs) :
    Calls Tryd.prog 5 #[.agg (gabC d p (.slice (some ⟨b, 0, none⟩) len cap) kd), .int .i64 s] w (POSTG w (fSquareGabidulin d p zs kd s).1 (fSquareGabidulin d p zs kd s).2.1 (fSquareGabidulin d p zs kd s).2.2.1 (fSquareGabidulin d p zs kd s).2.2.2.1 (fSquareGabidulin d p zs kd s).2.2.2.2) := by
  have hl := hM.len
  cases hg : gabF d p zs kd with
  | false => rw [fSG_A hg]; exact specSquareGabidulin_A d p kd s b len cap zs hg w hM
  | true =>
    by_cases hs : 0 ≤ s ∧ s ≤ 1000
    · obtain ⟨s, rfl⟩ := Int.eq_ofNat_of_zero_le hs.1
      have hf : fldI d p = true := by cases h : fldI d p with | true => rfl | false => rw [gabF_no h] at hg; cases hg
      obtain ⟨m, P, rfl, rfl, hF⟩ := fldI_nat hf
      have hF := Fld.of hF
      rw [fSG_C hF hg (by omega), hl]
      exact specSquareGabidulin_C m P _ hF kd s b len cap zs (by rw [gabF_yes hF] at hg; exact hg) (by omega) w hM
    · rw [fSG_B hg hs]; exact specSquareGabidulin_B d p kd s b len cap zs hg hs w hM
theorem implSquareGabidulin_any (d p kd : Int) (b len cap : Nat) (zs : List Int) (s : Int) (w : World) (hlo : -9223372036854775808 ≤ p) (hh : p ≤ 9223372036854775807) (hM : Mt w b len zs) (hT : Tab w) :
    Calls Tryd.prog 7 #[.agg (gabC d p (.slice (some ⟨b, 0, none⟩) len cap) kd), .int .i64 s] w (POSTG w (fSquareGabidulin d p zs kd s).1 (fSquareGabidulin d p zs kd s).2.1 (fSquareGabidulin d p zs kd s).2.2.1 (fSquareGabidulin d p zs kd s).2.2.2.1 (fSquareGabidulin d p zs kd s).2.2.2.2) := by
  have hl := hM.len
  cases hg : gabF d p zs kd with
  | false => rw [fSG_A hg]; exact implSquareGabidulin_A d p kd s b len cap zs hg hlo hh w hM hT
  | true =>
    have hf : fldI d p = true := by cases h : fldI d p with | true => rfl | false => rw [gabF_no h] at hg; cases hg
    obtain ⟨m, P, rfl, rfl, hF⟩ := fldI_nat hf
    have hF := Fld.of hF
    have hg' : gabB (2 ^ m) zs kd = true := by rw [gabF_yes hF] at hg; exact hg
    by_cases hs : 0 ≤ s ∧ s ≤ 1000
    · obtain ⟨s, rfl⟩ := Int.eq_ofNat_of_zero_le hs.1
      rw [fSG_C hF hg (by omega), hl]
      exact implSquareGabidulin_C m P _ hF kd s b len cap zs hg' (by omega) w hM hT
    · rw [fSG_B hg hs]; exact implSquareGabidulin_B m P _ hF kd s b len cap zs hg' hs w hM hT
end Go.Proofs.YtllojcndhkpfmaaDoor
