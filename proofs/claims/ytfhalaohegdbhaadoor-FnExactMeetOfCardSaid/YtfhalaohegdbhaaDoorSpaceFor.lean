/- The grid of a space: the program's. -/
import Derived.Test.YtfhalaohegdbhaaDoorGridFor
import Derived.Test.YtfhalaohegdbhaaDoorEchelonOf
import Derived.Test.YtfhalaohegdbhaaDoorGridEq
namespace Go.Proofs.YtfhalaohegdbhaaDoor
open Go.RowKit Go.Joins
set_option linter.unusedVariables false

/-- Whether numbers are the columns and rows of a space. -/
def isSp (c : Int) (zs : List Int) : Bool := okM c zs && decide (joined [] (zs.map Int.toNat) = zs.map Int.toNat)
theorem isSp_yes {c : Int} {zs : List Int} (h : isSp c zs = true) : ∃ (C : Nat) (L : List Nat), c = C ∧ zs = ints L ∧ OkM C L ∧ joined [] L = L := by
  simp only [isSp, Bool.and_eq_true, decide_eq_true_eq] at h
  obtain ⟨C, L, rfl, rfl, hO⟩ := okM_nat h.1
  rw [toNats_ints] at h
  exact ⟨C, L, rfl, rfl, hO, h.2⟩
theorem isSp_mk {C : Nat} {L : List Nat} (hO : OkM C L) : isSp C (ints L) = decide (joined [] L = L) := by
  rw [isSp, okM_ints hO, toNats_ints, Bool.true_and]
theorem isSp_no {c : Int} {zs : List Int} (h : isSp c zs = false) : okM c zs = false ∨ ∃ (C : Nat) (L : List Nat), c = C ∧ zs = ints L ∧ OkM C L ∧ joined [] L ≠ L := by
  cases hk : okM c zs with
  | false => exact .inl rfl
  | true =>
    obtain ⟨C, L, rfl, rfl, hO⟩ := okM_nat hk
    rw [isSp_mk hO] at h
    exact .inr ⟨C, L, rfl, rfl, hO, by simpa using h⟩

set_option maxRecDepth 100000 in
set_option maxHeartbeats 3200000 in
theorem spaceFor_yes (C : Nat) (L : List Nat) (hO : OkM C L) (hJ : joined [] L = L) (b n cap : Nat) (w : World) (hM : Mt w b n (ints L)) (hT : Tab w) :
    Calls Tryd.prog 62 #[.agg #[.int .i64 C, .slice (some ⟨b, 0, none⟩) n cap]] w fun e w' => e = .returned (.tuple #[.agg (gridC L C), .int .i64 0]) ∧ Below w.heap.size w w' := by
  have hn10 := hO.n10
  have hc10 := hO.c10
  have hR : Room ((w.alloc (.cells #[.int .i64 C, .slice (some ⟨b, 0, none⟩) n cap] 28)).alloc (.cells (gridC [] 0) 59)) (w.heap.size + 1) := by
    have := (GAt.start (w.alloc (.cells #[.int .i64 C, .slice (some ⟨b, 0, none⟩) n cap] 28)) [] 0 59 (by simp) (by intro j; simp [nth])).room
    simpa using this
  have hb0 := below_alloc2 w (.cells #[.int .i64 C, .slice (some ⟨b, 0, none⟩) n cap] 28) (.cells (gridC [] 0) 59)
  have hM0 := hM.below hb0
  have E := fun w hT => echelon_any C L hc10 hO.lt hn10 w hT
  rw [hJ] at E
  have hne : ∀ w, (binOp .neq 59 (.agg (gridC L C)) (.agg #[.int .i64 (L.length : Nat), .int .u32 (nth L 0 : Nat), .int .u32 (nth L 1 : Nat), .int .u32 (nth L 2 : Nat), .int .u32 (nth L 3 : Nat), .int .u32 (nth L 4 : Nat), .int .u32 (nth L 5 : Nat), .int .u32 (nth L 6 : Nat), .int .u32 (nth L 7 : Nat), .int .u32 (nth L 8 : Nat), .int .u32 (nth L 9 : Nat), .int .i64 C])).run Tryd.prog w = .ok (.bool false) w := by
    intro w
    have := neq_grid L L C C hn10 w
    rw [show (!decide (L = L ∧ (C : Int) = C)) = false by simp] at this
    exact this
  have hgd := Tryd.guardG
  have HR := Lib.hid hR
  have EE := Lib.hid E
  clear hR E
  go_enter Tryd.func62, Tryd.ntmps62
  go_wp2_with fail
  refine (gridFor_yes C L hO b n cap _ hM0).mono ?_
  rintro e w1 ⟨rfl, hb⟩
  have hR1 := HR.out.below hb
  have hb1 := hb0.trans (hb.mono hb0.size)
  have hlt1 := hR1.lt
  clear hb hb0 HR
  obtain ⟨w2, hst, hG2, hb⟩ := grid_put w1 L C hO.n10 (fun j => Nat.lt_trans (hO.get' j) (by omega))
  have hR2 := hR1.below hb
  have hb2 := hb1.trans (hb.mono hb1.size)
  have HT2 := Lib.hid (hT.below hb2)
  have HG2 := Lib.hid hG2
  have HR2 := Lib.hid hR2
  have HB2 := Lib.hid hb2
  obtain ⟨g0, g1, g2, g3, g4, g5, g6, g7, g8, g9, g10, g11⟩ := hG2.facts
  clear hb hb1 hR1 hR2 hb2 hG2 hT hM hM0
  go_wp2_with fail
  go_region_held3 (fun w' => w'.cell? ⟨w1.heap.size, 0, none⟩ = some (.int .i64 (L.length : Nat)) ∧ w'.cell? ⟨w1.heap.size, 1, none⟩ = some (.int .u32 (nth L 0 : Nat)) ∧ w'.cell? ⟨w1.heap.size, 2, none⟩ = some (.int .u32 (nth L 1 : Nat)) ∧ w'.cell? ⟨w1.heap.size, 3, none⟩ = some (.int .u32 (nth L 2 : Nat)) ∧ w'.cell? ⟨w1.heap.size, 4, none⟩ = some (.int .u32 (nth L 3 : Nat)) ∧ w'.cell? ⟨w1.heap.size, 5, none⟩ = some (.int .u32 (nth L 4 : Nat)) ∧ w'.cell? ⟨w1.heap.size, 6, none⟩ = some (.int .u32 (nth L 5 : Nat)) ∧ w'.cell? ⟨w1.heap.size, 7, none⟩ = some (.int .u32 (nth L 6 : Nat)) ∧ w'.cell? ⟨w1.heap.size, 8, none⟩ = some (.int .u32 (nth L 7 : Nat)) ∧ w'.cell? ⟨w1.heap.size, 9, none⟩ = some (.int .u32 (nth L 8 : Nat)) ∧ w'.cell? ⟨w1.heap.size, 10, none⟩ = some (.int .u32 (nth L 9 : Nat)) ∧ w'.cell? ⟨w1.heap.size, 11, none⟩ = some (.int .i64 C)) (first | exact ⟨g0, g1, g2, g3, g4, g5, g6, g7, g8, g9, g10, g11⟩ | exact ⟨by assumption, by assumption, by assumption, by assumption, by assumption, by assumption, by assumption, by assumption, by assumption, by assumption, by assumption, by assumption⟩) (first | (go_at_call 55; refine (EE.out _ (HT2.out.drewN 1)).mono ?_; rintro e w3 ⟨rfl, hb3⟩; have hG3 := (HG2.out.drewN 1).below hb3; have HR3 := Lib.hid ((show Room w2.drew (w.heap.size + 1) from HR2.out.drewN 1).below hb3); have HB3 := Lib.hid ((HB2.out.trans ((Below.refl _ _).drew)).trans (hb3.mono HB2.out.size)); obtain ⟨t0, t1, t2, t3, t4, t5, t6, t7, t8, t9, t10, t11⟩ := hG3.facts; clear hb3 hG3))
  obtain ⟨⟨u0, u1, u2, u3, u4, u5, u6, u7, u8, u9, u10, u11, d0, d1, d2, d3, d4, d5, d6, d7, d8, d9, d10, d11⟩, f0, f1, f2, f3, f4, f5, f6, f7, f8, f9, f10, f11⟩ := HR3.out.facts
  have HFIN := Lib.hid (GAt.store12 HR3.out L C hn10 HG2.out.r32)
  go_wp2_with fail
  refine bodyPost_ret (v := .tuple #[.agg (gridC L C), .int .i64 0]) (grid_results (p := 2) (u := 3) (fn := Tryd.f62) rfl _ rfl HFIN.out) rfl ⟨rfl, ?_⟩
  exact (only12 w3 _ _ _ _ _ _ _ _ _ _ _ _ _).below HB3.out (by omega)

set_option maxRecDepth 100000 in
set_option maxHeartbeats 3200000 in
theorem spaceFor_other (C : Nat) (L : List Nat) (hO : OkM C L) (hJ : joined [] L ≠ L) (b n cap : Nat) (w : World) (hM : Mt w b n (ints L)) (hT : Tab w) :
    Calls Tryd.prog 62 #[.agg #[.int .i64 C, .slice (some ⟨b, 0, none⟩) n cap]] w fun e w' => e = .returned (.tuple #[.agg (gridC [] 0), .int .i64 1]) ∧ Below w.heap.size w w' := by
  have hn10 := hO.n10
  have hc10 := hO.c10
  have hR : Room ((w.alloc (.cells #[.int .i64 C, .slice (some ⟨b, 0, none⟩) n cap] 28)).alloc (.cells (gridC [] 0) 59)) (w.heap.size + 1) := by
    have := (GAt.start (w.alloc (.cells #[.int .i64 C, .slice (some ⟨b, 0, none⟩) n cap] 28)) [] 0 59 (by simp) (by intro j; simp [nth])).room
    simpa using this
  have hb0 := below_alloc2 w (.cells #[.int .i64 C, .slice (some ⟨b, 0, none⟩) n cap] 28) (.cells (gridC [] 0) 59)
  have hM0 := hM.below hb0
  have E := fun w hT => echelon_any C L hc10 hO.lt hn10 w hT
  have hJl := joined_len hc10 hO.lt
  obtain ⟨J, hJ0⟩ : ∃ J, joined [] L = J := ⟨_, rfl⟩
  rw [hJ0] at E hJ hJl
  clear hJ0
  have hne : ∀ w, (binOp .neq 59 (.agg (gridC J C)) (.agg #[.int .i64 (L.length : Nat), .int .u32 (nth L 0 : Nat), .int .u32 (nth L 1 : Nat), .int .u32 (nth L 2 : Nat), .int .u32 (nth L 3 : Nat), .int .u32 (nth L 4 : Nat), .int .u32 (nth L 5 : Nat), .int .u32 (nth L 6 : Nat), .int .u32 (nth L 7 : Nat), .int .u32 (nth L 8 : Nat), .int .u32 (nth L 9 : Nat), .int .i64 C])).run Tryd.prog w = .ok (.bool true) w := by
    intro w
    have := neq_grid J L C C hJl w
    rw [show (!decide (J = L ∧ (C : Int) = C)) = true by simp [hJ]] at this
    exact this
  have hgd := Tryd.guardG
  have HR := Lib.hid hR
  have EE := Lib.hid E
  clear hR E
  go_enter Tryd.func62, Tryd.ntmps62
  go_wp2_with fail
  refine (gridFor_yes C L hO b n cap _ hM0).mono ?_
  rintro e w1 ⟨rfl, hb⟩
  have hR1 := HR.out.below hb
  have hb1 := hb0.trans (hb.mono hb0.size)
  have hlt1 := hR1.lt
  clear hb hb0 HR
  obtain ⟨w2, hst, hG2, hb⟩ := grid_put w1 L C hO.n10 (fun j => Nat.lt_trans (hO.get' j) (by omega))
  have hR2 := hR1.below hb
  have hb2 := hb1.trans (hb.mono hb1.size)
  have HT2 := Lib.hid (hT.below hb2)
  have HG2 := Lib.hid hG2
  have HR2 := Lib.hid hR2
  have HB2 := Lib.hid hb2
  obtain ⟨g0, g1, g2, g3, g4, g5, g6, g7, g8, g9, g10, g11⟩ := hG2.facts
  clear hb hb1 hR1 hR2 hb2 hG2 hT hM hM0
  go_wp2_with fail
  go_region_held3 (fun w' => w'.cell? ⟨w1.heap.size, 0, none⟩ = some (.int .i64 (L.length : Nat)) ∧ w'.cell? ⟨w1.heap.size, 1, none⟩ = some (.int .u32 (nth L 0 : Nat)) ∧ w'.cell? ⟨w1.heap.size, 2, none⟩ = some (.int .u32 (nth L 1 : Nat)) ∧ w'.cell? ⟨w1.heap.size, 3, none⟩ = some (.int .u32 (nth L 2 : Nat)) ∧ w'.cell? ⟨w1.heap.size, 4, none⟩ = some (.int .u32 (nth L 3 : Nat)) ∧ w'.cell? ⟨w1.heap.size, 5, none⟩ = some (.int .u32 (nth L 4 : Nat)) ∧ w'.cell? ⟨w1.heap.size, 6, none⟩ = some (.int .u32 (nth L 5 : Nat)) ∧ w'.cell? ⟨w1.heap.size, 7, none⟩ = some (.int .u32 (nth L 6 : Nat)) ∧ w'.cell? ⟨w1.heap.size, 8, none⟩ = some (.int .u32 (nth L 7 : Nat)) ∧ w'.cell? ⟨w1.heap.size, 9, none⟩ = some (.int .u32 (nth L 8 : Nat)) ∧ w'.cell? ⟨w1.heap.size, 10, none⟩ = some (.int .u32 (nth L 9 : Nat)) ∧ w'.cell? ⟨w1.heap.size, 11, none⟩ = some (.int .i64 C)) (first | exact ⟨g0, g1, g2, g3, g4, g5, g6, g7, g8, g9, g10, g11⟩ | exact ⟨by assumption, by assumption, by assumption, by assumption, by assumption, by assumption, by assumption, by assumption, by assumption, by assumption, by assumption, by assumption⟩) (first | (go_at_call 55; refine (EE.out _ (HT2.out.drewN 1)).mono ?_; rintro e w3 ⟨rfl, hb3⟩; have hG3 := (HG2.out.drewN 1).below hb3; have HR3 := Lib.hid ((show Room w2.drew (w.heap.size + 1) from HR2.out.drewN 1).below hb3); have HB3 := Lib.hid ((HB2.out.trans ((Below.refl _ _).drew)).trans (hb3.mono HB2.out.size)); obtain ⟨t0, t1, t2, t3, t4, t5, t6, t7, t8, t9, t10, t11⟩ := hG3.facts; clear hb3 hG3))
  obtain ⟨⟨u0, u1, u2, u3, u4, u5, u6, u7, u8, u9, u10, u11, d0, d1, d2, d3, d4, d5, d6, d7, d8, d9, d10, d11⟩, f0, f1, f2, f3, f4, f5, f6, f7, f8, f9, f10, f11⟩ := HR3.out.facts
  have HFIN := Lib.hid (GAt.store12 HR3.out [] 0 (by simp) (by intro j; simp [nth]))
  go_wp2_with fail
  refine bodyPost_ret (v := .tuple #[.agg (gridC [] 0), .int .i64 1]) (grid_results (p := 2) (u := 3) (fn := Tryd.f62) rfl _ rfl HFIN.out) rfl ⟨rfl, ?_⟩
  exact (only12 w3 _ _ _ _ _ _ _ _ _ _ _ _ _).below HB3.out (by omega)

set_option maxRecDepth 100000 in
set_option maxHeartbeats 3200000 in
theorem spaceFor_invalid (c : Int) (b n cap : Nat) (xs : List Int) (hk : okM c xs = false) (w : World) (hM : Mt w b n xs) :
    Calls Tryd.prog 62 #[.agg #[.int .i64 c, .slice (some ⟨b, 0, none⟩) n cap]] w fun e w' => e = .returned (.tuple #[.agg (gridC [] 0), .int .i64 1]) ∧ Below w.heap.size w w' := by
  have hR : Room ((w.alloc (.cells #[.int .i64 c, .slice (some ⟨b, 0, none⟩) n cap] 28)).alloc (.cells (gridC [] 0) 59)) (w.heap.size + 1) := by
    have := (GAt.start (w.alloc (.cells #[.int .i64 c, .slice (some ⟨b, 0, none⟩) n cap] 28)) [] 0 59 (by simp) (by intro j; simp [nth])).room
    simpa using this
  have hb0 := below_alloc2 w (.cells #[.int .i64 c, .slice (some ⟨b, 0, none⟩) n cap] 28) (.cells (gridC [] 0) 59)
  have hM0 := hM.below hb0
  have HR := Lib.hid hR
  clear hR
  go_enter Tryd.func62, Tryd.ntmps62
  go_wp2_with fail
  refine (gridFor_no c b n cap xs _ hM0 hk).mono ?_
  rintro e w1 ⟨rfl, hb⟩
  have hR1 := HR.out.below hb
  have hb1 := hb0.trans (hb.mono hb0.size)
  have hlt1 := hR1.lt
  clear hb hb0 HR
  obtain ⟨w2, hst, hG2, hb⟩ := grid_put w1 [] 0 (by simp) (by intro j; simp [nth])
  have hR2 := hR1.below hb
  have HR2 := Lib.hid hR2
  have HB2 := Lib.hid (hb1.trans (hb.mono hb1.size))
  clear hb hb1 hR1 hR2 hM hM0 hG2
  go_wp2_with fail
  go_quiet (fail)
  generalize hw3 : World.drewN w2 _ = w3
  have HR3 := Lib.hid (show Room w3 (w.heap.size + 1) by rw [← hw3]; exact HR2.out.drewN _)
  have HB3 := Lib.hid (show Below w.heap.size w w3 by rw [← hw3]; exact HB2.out.trans (below_draws _ _ _))
  clear hw3
  obtain ⟨⟨u0, u1, u2, u3, u4, u5, u6, u7, u8, u9, u10, u11, d0, d1, d2, d3, d4, d5, d6, d7, d8, d9, d10, d11⟩, f0, f1, f2, f3, f4, f5, f6, f7, f8, f9, f10, f11⟩ := HR3.out.facts
  have HFIN := Lib.hid (GAt.store12 HR3.out [] 0 (by simp) (by intro j; simp [nth]))
  go_wp2_with fail
  refine bodyPost_ret (v := .tuple #[.agg (gridC [] 0), .int .i64 1]) (grid_results (p := 2) (u := 3) (fn := Tryd.f62) rfl _ rfl HFIN.out) rfl ⟨rfl, ?_⟩
  exact (only12 w3 _ _ _ _ _ _ _ _ _ _ _ _ _).below HB3.out (by omega)

theorem spaceFor_no (c : Int) (b n cap : Nat) (xs : List Int) (hk : isSp c xs = false) (w : World) (hM : Mt w b n xs) (hT : Tab w) :
    Calls Tryd.prog 62 #[.agg #[.int .i64 c, .slice (some ⟨b, 0, none⟩) n cap]] w fun e w' => e = .returned (.tuple #[.agg (gridC [] 0), .int .i64 1]) ∧ Below w.heap.size w w' := by
  rcases isSp_no hk with h | ⟨C, L, rfl, rfl, hO, hJ⟩
  · exact spaceFor_invalid c b n cap xs h w hM
  · exact spaceFor_other C L hO hJ b n cap w hM hT
end Go.Proofs.YtfhalaohegdbhaaDoor
