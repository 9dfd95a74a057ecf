/- The inverse: the program's. -/
import Derived.Test.YtilghmfffdmnjaaDoorValid
import Derived.Test.YtilghmfffdmnjaaDoorJoined
import Derived.Test.YtilghmfffdmnjaaDoorDim2
namespace Go.Proofs.YtilghmfffdmnjaaDoor
open Go.RowKit Go.Joins
set_option linter.unusedVariables false

/-- The first k rows of the inverse. -/
def invT (n : Nat) (A : List Nat) (k : Nat) : List Nat := (List.range k).map fun i => nth (mkd n A n) i / 2 ^ n
theorem invT_succ (n : Nat) (A : List Nat) (k : Nat) : invT n A (k + 1) = invT n A k ++ [nth (mkd n A n) k / 2 ^ n] := range_succ_map _ _
theorem invT_len (n : Nat) (A : List Nat) (k : Nat) : (invT n A k).length = k := by simp [invT]
/-- Whether there is an inverse, as the program sees it. -/
def goodI (n : Nat) (A : List Nat) : Prop := ∀ i, i < n → ld (nth (mkd n A n) i) = i

set_option maxRecDepth 100000 in
set_option maxHeartbeats 6400000 in
theorem inverse_any (n : Nat) (A : List Nat) (hn : n ≤ 10) (hl : A.length = n) (hA : ∀ r ∈ A, r < 2 ^ n) (w : World) (hT : Tab w) :
    Calls Tryd.prog 78 #[.agg (gridC A n)] w fun e w' => ((goodI n A ∧ e = .returned (.tuple #[.agg (gridC (invT n A n) n), .bool true])) ∨ (¬ goodI n A ∧ e = .returned (.tuple #[.agg (gridC [] 0), .bool false]))) ∧ Below w.heap.size w w' := by
  have hl10 : A.length ≤ 10 := by omega
  have hG : GAt (((w.alloc (.cells (gridC A n) 105)).alloc (.cells (gridC [] 0) 105)).alloc (.cells #[.int .i64 0, .int .u32 0, .int .u32 0, .int .u32 0, .int .u32 0, .int .u32 0, .int .u32 0, .int .u32 0, .int .u32 0, .int .u32 0, .int .u32 0] 103)) w.heap.size A n :=
    (GAt.start w A n 105 hl10 (lt32 (by omega) hA)).below (below_alloc2 _ _ _)
  have hR : Room (((w.alloc (.cells (gridC A n) 105)).alloc (.cells (gridC [] 0) 105)).alloc (.cells #[.int .i64 0, .int .u32 0, .int .u32 0, .int .u32 0, .int .u32 0, .int .u32 0, .int .u32 0, .int .u32 0, .int .u32 0, .int .u32 0, .int .u32 0] 103)) (w.heap.size + 1) := by
    have := (GAt.start (w.alloc (.cells (gridC A n) 105)) [] 0 105 (by simp) (by intro j; simp [nth])).room.below (below_alloc1 _ (.cells #[.int .i64 0, .int .u32 0, .int .u32 0, .int .u32 0, .int .u32 0, .int .u32 0, .int .u32 0, .int .u32 0, .int .u32 0, .int .u32 0, .int .u32 0] 103))
    simpa using this
  have hK : RAt (((w.alloc (.cells (gridC A n) 105)).alloc (.cells (gridC [] 0) 105)).alloc (.cells #[.int .i64 0, .int .u32 0, .int .u32 0, .int .u32 0, .int .u32 0, .int .u32 0, .int .u32 0, .int .u32 0, .int .u32 0, .int .u32 0, .int .u32 0] 103)) (w.heap.size + 1 + 1) (mkd n A 0) := by
    have h := RAt.start ((w.alloc (.cells (gridC A n) 105)).alloc (.cells (gridC [] 0) 105)) 103
    show RAt _ (w.heap.size + 1 + 1) []
    simpa using h
  have hb := below_alloc3 w (.cells (gridC A n) 105) (.cells (gridC [] 0) 105) (.cells #[.int .i64 0, .int .u32 0, .int .u32 0, .int .u32 0, .int .u32 0, .int .u32 0, .int .u32 0, .int .u32 0, .int .u32 0, .int .u32 0, .int .u32 0] 103)
  have HG := Lib.hid hG
  have HR := Lib.hid hR
  have HK := Lib.hid hK
  have HB := Lib.hid hb
  have HL := Lib.hid hl
  clear hR hK hb hl
  go_enter Tryd.func78, Tryd.ntmps78
  go_wp2_with (go_at_call 90; refine (all_any w.heap.size A n _ hG).mono ?_; rintro e w1 ⟨rfl, q0, rfl⟩)
  clear hG
  go_loopw [13] (fun i wr => ∃ k : Nat, k ≤ A.length ∧ i = .int .i64 k ∧ GAt wr w.heap.size A n ∧ Room wr (w.heap.size + 1) ∧ RAt wr (w.heap.size + 1 + 1) (mkd n A k) ∧ Below w.heap.size w wr) (fun i _ => A.length - (intOf i).toNat)
  case atStart => exact ⟨0, Nat.zero_le _, rfl, HG.out.drewN q0, HR.out.drewN q0, HK.out.drewN q0, HB.out.trans (below_draws _ _ _)⟩
  case round =>
    obtain ⟨k, hk, rfl, hG, hR, hK, hb⟩ := hrel
    clear HG HR HK HB
    by_cases hlt : k < A.length
    · have hrow := hG.row k (by omega)
      have g11 := hG.c11
      have hkn : k < n := by have := HL.out; omega
      have hx : nth A k < 2 ^ n := nth_bound hA k
      have hx20 := lt20 (show n ≤ 20 by omega) hA k
      have hy20 : nth A k ^^^ 2 ^ (n + k) < 2 ^ 20 := Nat.lt_of_lt_of_le (mk_lt hA (Nat.lt_succ_self k)) (Nat.pow_le_pow_right (n := 2) (by omega) (by omega))
      have S := span_r (w.heap.size + 1 + 1) (mkd n A k) (mkd_ech n A k) (lt20 (by omega) (mkd_lt hA k)) (nth A k ^^^ 2 ^ (n + k)) hy20 wr hK (hT.below hb) (by have := hT.2; omega) (fun _ => by rw [mkd_len hA]; omega)
      rw [← mkd_succ] at S
      obtain ⟨Q, hQ⟩ : ∃ Q : Nat, 2 ^ (n + k) = Q := ⟨_, rfl⟩
      have hq20 : Q ≤ 1048576 := by rw [← hQ]; exact Nat.pow_le_pow_right (n := 2) (by omega) (show n + k ≤ 20 by omega)
      rw [hQ] at S
      obtain ⟨x, hxx⟩ : ∃ x, nth A k = x := ⟨_, rfl⟩
      rw [hxx] at hrow S hx20
      have HS := Lib.hid S
      have HQ := Lib.hid hQ
      have HG := Lib.hid hG
      have HR := Lib.hid hR
      have HB := Lib.hid hb
      clear S hQ hG hR hK hb hxx hx hy20
      go_wp2_with (first | (go_at_call 86; (try rw [← Int.natCast_add]); refine (unit_any (n + k) (by omega) _).mono ?_; rw [HQ.out]; rintro e w4 ⟨rfl, rfl⟩) | (go_at_call 91; refine (plus_any x Q (by omega) (by omega) _).mono ?_; rintro e w4 ⟨rfl, rfl⟩) | (go_at_call 118; refine HS.out.mono ?_; rintro e w5 ⟨rfl, hK2, hO2⟩))
      go_roundw
      case rel => exact ⟨k + 1, by omega, by go_num, HG.out.only hO2 (by omega), HR.out.only hO2 (by omega), hK2, hO2.below HB.out (by omega)⟩
      case measure => simp [intOf]; omega
    · obtain rfl : k = A.length := by omega
      rw [HL.out] at hK
      have hEe := mkd_ech n A n
      have hElt := mkd_lt hA n
      have hElen := mkd_len hA n
      have hTr := hT.below hb
      have hts := invT_succ n A
      have hgd : goodI n A ↔ ∀ i, i < n → ld (nth (mkd n A n) i) = i := Iff.rfl
      obtain ⟨E, hE⟩ : ∃ E, mkd n A n = E := ⟨_, rfl⟩
      rw [hE] at hK hEe hElt hElen hts hgd
      obtain ⟨W1, hW1⟩ : ∃ W1, W1 = wr := ⟨_, rfl⟩
      subst hW1
      have hz : w.heap.size + 1 + 1 < W1.heap.size := hK.lt
      have hb2 := below_alloc1 W1 (.cells #[.int .i64 0, .int .u32 0, .int .u32 0, .int .u32 0, .int .u32 0, .int .u32 0, .int .u32 0, .int .u32 0, .int .u32 0, .int .u32 0, .int .u32 0, .int .i64 n] 105)
      have hV : GAt (W1.alloc (.cells #[.int .i64 0, .int .u32 0, .int .u32 0, .int .u32 0, .int .u32 0, .int .u32 0, .int .u32 0, .int .u32 0, .int .u32 0, .int .u32 0, .int .u32 0, .int .i64 n] 105)) W1.heap.size (invT n A 0) n := GAt.start W1 [] n 105 (by simp) (by intro j; simp [nth])
      have g11 := hG.c11
      have hK2 := hK.below hb2
      have HG := Lib.hid (hG.below hb2)
      have HR := Lib.hid (hR.below hb2)
      have HK := Lib.hid hK2
      have HV := Lib.hid hV
      have HB := Lib.hid (hb.trans (hb2.mono hb.size))
      have HT := Lib.hid hT
      clear hG hR hK hV hb hb2 hE hTr hT
      go_wp2_with (go_at_call 90; refine (all_r (w.heap.size + 1 + 1) E _ hK2).mono ?_; rintro e w1 ⟨rfl, q1, rfl⟩)
      clear hK2 g11
      go_loopw [32] (fun i wr => ∃ k : Nat, k ≤ E.length ∧ i = .int .i64 k ∧ RAt wr (w.heap.size + 1 + 1) E ∧ GAt wr W1.heap.size (invT n A k) n ∧ GAt wr w.heap.size A n ∧ Room wr (w.heap.size + 1) ∧ Below w.heap.size w wr ∧ ∀ j, j < k → ld (nth E j) = j) (fun i _ => E.length - (intOf i).toNat)
      case atStart => exact ⟨0, Nat.zero_le _, rfl, HK.out.drewN q1, HV.out.drewN q1, HG.out.drewN q1, HR.out.drewN q1, HB.out.trans (below_draws _ _ _), fun j hj => by omega⟩
      case round =>
        obtain ⟨k, hk, rfl, hK, hV, hG, hR, hb, hld⟩ := hrel
        clear HK HV HG HR HB
        have HLD := Lib.hid hld
        clear hld
        by_cases hkE : k < E.length
        · have hrow := hK.row k (by omega)
          have g11 := hG.c11
          have hs20 := lt20 (show n + n ≤ 20 by omega) hElt k
          have hne := nth_ne hEe hkE
          have hts := hts k
          obtain ⟨s, hs⟩ : ∃ s, nth E k = s := ⟨_, rfl⟩
          rw [hs] at hrow hs20 hne hts
          have LX := lead_any s hne (by omega) wr (HT.out.below hb)
          obtain ⟨l, hl0⟩ : ∃ l, ld s = l := ⟨_, rfl⟩
          have hl20 : l < 20 := by rw [← hl0]; exact ld_lt hs20 hne
          rw [hl0] at LX
          have HLX := Lib.hid LX
          have HSS := Lib.hid hs
          have HL0 := Lib.hid hl0
          clear LX hs hl0
          by_cases hlk : l = k
          · obtain ⟨x, hx⟩ : ∃ x, s / 2 ^ n = x := ⟨_, rfl⟩
            have hsh : (s : Int) / 2 ^ n = (x : Int) := by rw [div_nat, hx]
            have hmin : min n 32 = n := by omega
            have hx20 : x < 4294967296 := by rw [← hx]; exact Nat.lt_of_le_of_lt (Nat.div_le_self _ _) (by omega)
            rw [hx] at hts
            have HTS := Lib.hid hts
            have HK := Lib.hid hK
            have HG := Lib.hid hG
            have HR := Lib.hid hR
            have HB := Lib.hid hb
            have HV := Lib.hid hV
            have HE2 := Lib.hid (show ∀ j, j < k + 1 → ld (nth E j) = j from fun j hj => by
              by_cases e : j = k
              · subst e; rw [HSS.out, HL0.out]; exact hlk
              · exact HLD.out j (by omega))
            clear hts hK hG hR hb hV hx
            subst hlk
            go_wp2_with (first | (go_at_call 119; refine HLX.out.mono ?_; rintro e w4 ⟨rfl, rfl⟩) | (go_at_call 116; refine (push_any W1.heap.size (invT n A l) n x hx20 _ HV.out (by rw [invT_len]; omega)).mono ?_; rintro e w5 ⟨rfl, hV2, hO2⟩))
            go_roundw
            case rel => exact ⟨l + 1, by omega, by go_num, HK.out.only hO2 (by omega), by rw [HTS.out]; exact hV2, HG.out.only hO2 (by omega), HR.out.only hO2 (by omega), hO2.below HB.out (by omega), HE2.out⟩
            case measure => simp [intOf]; omega
          · have hlki : ¬ (l : Int) = (k : Int) := by omega
            have hbad : ¬ goodI n A := by
              rw [hgd]
              intro h
              have := h k (by omega)
              rw [HSS.out, HL0.out] at this
              exact hlk this
            have HBAD := Lib.hid hbad
            obtain ⟨⟨u0, u1, u2, u3, u4, u5, u6, u7, u8, u9, u10, u11, d0, d1, d2, d3, d4, d5, d6, d7, d8, d9, d10, d11⟩, f0, f1, f2, f3, f4, f5, f6, f7, f8, f9, f10, f11⟩ := hR.facts
            have HFIN := Lib.hid (GAt.store12 hR [] 0 (by simp) (by intro j; simp [nth]))
            have HB := Lib.hid hb
            clear hbad hgd hK hG hR hb hV
            go_wp2_with (go_at_call 119; refine HLX.out.mono ?_; rintro e w4 ⟨rfl, rfl⟩)
            refine bodyPost_ret (v := .tuple #[.agg (gridC [] 0), .bool false]) (grid_results (p := 2) (u := 3) (fn := Tryd.f78) rfl _ rfl HFIN.out) rfl ⟨.inr ⟨HBAD.out, rfl⟩, ?_⟩
            exact (only12 _ _ _ _ _ _ _ _ _ _ _ _ _ _).below HB.out (by omega)
        · obtain rfl : k = E.length := by omega
          rw [hElen] at hV
          have HGD := Lib.hid (hgd.2 (fun i hi => HLD.out i (by omega)))
          obtain ⟨g0, g1, g2, g3, g4, g5, g6, g7, g8, g9, g10, g11⟩ := hV.facts
          obtain ⟨⟨u0, u1, u2, u3, u4, u5, u6, u7, u8, u9, u10, u11, d0, d1, d2, d3, d4, d5, d6, d7, d8, d9, d10, d11⟩, f0, f1, f2, f3, f4, f5, f6, f7, f8, f9, f10, f11⟩ := hR.facts
          have HFIN := Lib.hid (GAt.store12 hR (invT n A n) n hV.len hV.r32)
          have HB := Lib.hid hb
          clear hgd hK hG hR hb hV hts
          go_wp2_with fail
          refine bodyPost_ret (v := .tuple #[.agg (gridC (invT n A n) n), .bool true]) (grid_results (p := 2) (u := 3) (fn := Tryd.f78) rfl _ rfl HFIN.out) rfl ⟨.inl ⟨HGD.out, rfl⟩, ?_⟩
          exact (only12 _ _ _ _ _ _ _ _ _ _ _ _ _ _).below HB.out (by omega)
end Go.Proofs.YtilghmfffdmnjaaDoor
