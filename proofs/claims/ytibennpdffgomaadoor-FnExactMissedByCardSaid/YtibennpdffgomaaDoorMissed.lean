/- What packets miss by supposed data: the program's method and the model's function. -/
import Derived.Test.YtibennpdffgomaaDoorSum
import Derived.Test.YtibennpdffgomaaDoorJoined
import Derived.Test.YtibennpdffgomaaDoorRowsFor
import Derived.Test.YtibennpdffgomaaDoorValidGather
import Derived.Test.YtibennpdffgomaaDoorRankS
import Derived.Test.YtibennpdffgomaaDoorStep
import Derived.Test.YtibennpdffgomaaDoorOwn2
import Derived.Test.YtibennpdffgomaaDoorKernelS
namespace Go.Proofs.YtibennpdffgomaaDoor
open Go.RowKit Go.Joins Go.ChangeShapes Go.WideShapes Go.Deep
set_option linter.unusedVariables false
set_option linter.unusedSimpArgs false

/-- What a packet misses: the sum of data that its first P bits tell, and its other bits. -/
def missX (P : Nat) (D : List Nat) (r : Nat) : Nat := tms r D D.length ^^^ r / 2 ^ P
theorem tms_mod (P : Nat) (D : List Nat) (r : Nat) : ∀ k, k ≤ P → tms (r % 2 ^ P) D k = tms r D k
  | 0, _ => rfl
  | k + 1, h => by
    simp only [tms, tms_mod P D r k (by omega), Nat.testBit_mod_two_pow]
    simp [show k < P by omega]
theorem nth_lt_of {C : Nat} {L : List Nat} (h : ∀ r ∈ L, r < 2 ^ C) (j : Nat) : nth L j < 2 ^ C := nth_bound h j
theorem missX_lt {P Y : Nat} {D : List Nat} {r : Nat} (hD : ∀ s ∈ D, s < 2 ^ Y) (hr : r < 2 ^ (P + Y)) : missX P D r < 2 ^ Y :=
  Nat.xor_lt_two_pow (tms_lt (fun j => nth_bound hD j) r _) (by rw [Nat.div_lt_iff_lt_mul (Nat.two_pow_pos P), ← Nat.pow_add, Nat.add_comm]; exact hr)
theorem RAt.boxed (w : World) (L : List Nat) (hl : L.length ≤ 10) (hr : ∀ j, nth L j < 4294967296) (T : TypeId) : RAt (w.alloc (.cells (rowsC L) T)) w.heap.size L := by
  refine ⟨by rw [World.cell?_alloc_at _ _ _ _ rfl]; rfl, fun j hj => ?_, fun j hj => by rw [World.frozen?_alloc_at _ _ _ _ rfl], by simp, hl, hr⟩
  rw [World.cell?_alloc_at _ _ _ _ rfl]
  exact rowsC_row L j hj

set_option maxRecDepth 100000 in
set_option maxHeartbeats 6400000 in
theorem missed_any (B q b P Y N : Nat) (S L D : List Nat) (hP : P ≤ 4) (hY : Y ≤ 6) (hD : D.length = P) (hDl : ∀ r ∈ D, r < 2 ^ Y) (hL : ∀ r ∈ L, r < 2 ^ (P + Y)) (hLl : L.length ≤ 10) (w : World) (hW : WK w B q b P Y N S) (hT : Tab w) :
    Calls Tryd.prog 65 #[.pointer (some ⟨q, 0, none⟩), .agg (rowsC L), .agg (rowsC D)] w fun e w' => e = .returned (.int .i64 ((joined [] (L.map (missX P D))).length : Nat)) ∧ Below w.heap.size w w' := by
  have hY6 : 2 ^ Y ≤ 2 ^ 6 := Nat.pow_le_pow_right (by omega) hY
  have hPY : 2 ^ (P + Y) ≤ 2 ^ 10 := Nat.pow_le_pow_right (by omega) (by omega)
  have hD10 : ∀ j, nth D j < 1024 := fun j => Nat.lt_of_lt_of_le (nth_bound hDl j) (by omega)
  have hL10 : ∀ j, nth L j < 1024 := fun j => Nat.lt_of_lt_of_le (nth_bound hL j) hPY
  have r1 := RAt.boxed w L hLl (fun j => by have := hL10 j; omega) 101
  have r2 := RAt.boxed (w.alloc (.cells (rowsC L) 101)) D (by omega) (fun j => by have := hD10 j; omega) 101
  have r3 := RAt.start ((w.alloc (.cells (rowsC L) 101)).alloc (.cells (rowsC D) 101)) 101
  have b1 := below_alloc1 w (.cells (rowsC L) 101)
  have b2 := below_alloc1 (w.alloc (.cells (rowsC L) 101)) (.cells (rowsC D) 101)
  have b3 := below_alloc1 ((w.alloc (.cells (rowsC L) 101)).alloc (.cells (rowsC D) 101)) (.cells #[.int .i64 0, .int .u32 0, .int .u32 0, .int .u32 0, .int .u32 0, .int .u32 0, .int .u32 0, .int .u32 0, .int .u32 0, .int .u32 0, .int .u32 0] 101)
  have R1 := (r1.below b2).below b3
  have R2 := r2.below b3
  have BB := (b1.trans (b2.mono b1.size)).trans (b3.mono (Nat.le_trans b1.size b2.size))
  rw [World.size_alloc] at R2
  rw [World.size_alloc, World.size_alloc] at r3
  have HR1 := Lib.hid R1
  have HR2 := Lib.hid R2
  have HR3 := Lib.hid r3
  have HB := Lib.hid BB
  have HW := Lib.hid hW
  have hqlt := hW.lt
  clear r1 r2 r3 b1 b2 b3 R1 R2 BB hW
  go_enter Tryd.func65, Tryd.ntmps65
  go_wp2_with (go_at_call 56; refine (all_r w.heap.size L _ HR1.out).mono ?_; rintro e w1 ⟨rfl, q0, rfl⟩)
  go_loopw [12] (fun i wr => ∃ k : Nat, k ≤ L.length ∧ i = .int .i64 k ∧ RAt wr (w.heap.size + 1 + 1) (joined [] ((L.map (missX P D)).take k)) ∧ RAt wr w.heap.size L ∧ RAt wr (w.heap.size + 1) D ∧ Below w.heap.size w wr) (fun i _ => L.length - (intOf i).toNat)
  case atStart => exact ⟨0, Nat.zero_le _, rfl, HR3.out.drewN q0, HR1.out.drewN q0, HR2.out.drewN q0, HB.out.trans (below_draws _ _ _)⟩
  case round =>
    obtain ⟨k, hk, rfl, hS, hG, hD2, hb⟩ := hrel
    clear HR1 HR2 HR3 HB
    by_cases hlt : k < L.length
    · have hrow := hG.row k (by omega)
      have hM : ∀ r ∈ L.map (missX P D), r < 2 ^ Y := fun r hr => by
        obtain ⟨s, hs, rfl⟩ := List.mem_map.1 hr
        exact missX_lt hDl (hL s hs)
      have hml : k < (L.map (missX P D)).length := by simpa using hlt
      have hJ := joined_spec ((L.map (missX P D)).take k) Ech.nil
      have hJl := joined_lt (L := []) Ech.nil (by simp) (take_lt hM k)
      have hx : nth (L.map (missX P D)) k < 2 ^ Y := nth_bound hM k
      have hxe : nth (L.map (missX P D)) k = missX P D (nth L k) := by simp [nth, List.getD_eq_getElem?_getD, hlt]
      have hjt := joined_take (L := []) hml
      rw [hxe] at hx hjt
      have hTr := hT.below hb
      have Sp := fun (W : World) (hS : RAt W (w.heap.size + 1 + 1) (joined [] ((L.map (missX P D)).take k))) (hTr : Tab W) => span_r (w.heap.size + 1 + 1) (joined [] ((L.map (missX P D)).take k)) hJ.1 (lt20 (by omega) hJl) (missX P D (nth L k)) (by omega) W hS hTr (by have := hT.2; omega) (fun h => Nat.lt_of_lt_of_le (span_len hJ.1 hJl hx h) (by omega))
      rw [← hjt] at Sp
      have Sm := fun (W : World) (hG : RAt W (w.heap.size + 1) D) => sum_r (w.heap.size + 1) D hD10 (nth L k) (by have := hL10 k; omega) W hG
      have htl := tms_lt (C := 10) hD10 (nth L k) D.length
      have hx10 := hL10 k
      have hmx : missX P D (nth L k) = tms (nth L k) D D.length ^^^ nth L k / 2 ^ P := rfl
      generalize nth L k = x at hrow Sp Sm htl hx10 hmx
      generalize missX P D x = y at Sp hmx
      generalize tms x D D.length = t at Sm htl hmx
      have HSp := Lib.hid Sp
      have HSm := Lib.hid Sm
      have HS := Lib.hid hS
      have HG := Lib.hid hG
      have HD := Lib.hid hD2
      have HB := Lib.hid hb
      have HTr : Hid (∀ j, Tab (wr.drewN j)) := Lib.hid fun j => hTr.below (below_draws _ _ _)
      have HPl : Hid (∀ W : World, Calls Tryd.prog 95 #[.int .u32 (t : Nat), .int .u32 ((x : Int) / 2 ^ P)] W fun e w' => e = .returned (.int .u32 (y : Nat)) ∧ W = w') := Lib.hid fun W => by
        have h1 : x / 2 ^ P ≤ x := Nat.div_le_self _ _
        have S := plus_any t (x / 2 ^ P) (by omega) (by omega) W
        rw [← hmx, ← div_nat] at S
        exact S
      have HMX := Lib.hid hmx
      have cP : wr.cell? ⟨q, 0, none⟩ = some (.int .i64 P) := (hb.cell (p := ⟨q, 0, none⟩) hqlt).trans HW.out.c0
      clear Sp Sm hS hG hD2 hb hTr hmx hJ hJl hjt hxe hx hml hM
      go_wp2_with fail
      go_region_law (go_simp; go_wp2_with (first
        | (go_at_call 99; refine (HSm.out _ (HD.out.drewN _)).mono ?_; rintro e w3 ⟨rfl, q3, rfl⟩)
        | (go_at_call 95; refine (HPl.out _).mono ?_; rintro e w3 ⟨rfl, rfl⟩)
        | (go_at_call 98; refine (HSp.out _ (HS.out.drewN _) (HTr.out _)).mono ?_; rintro e w4 ⟨rfl, hG4, hO4⟩; have HG4 := Lib.hid hG4; have HO4 := Lib.hid hO4.drewL; clear hG4 hO4)))
      all_goals
        go_wp2_with fail
        go_roundw
        case rel => exact ⟨k + 1, by omega, by go_num, HG4.out, HG.out.only HO4.out (by omega), HD.out.only HO4.out (by omega), HO4.out.below HB.out (by omega)⟩
        case measure => simp [intOf]; omega
    · obtain rfl : k = L.length := by omega
      have hc0 := hS.c0
      rw [List.take_of_length_le (by simp)] at hc0
      have HB := Lib.hid hb
      clear hS hG hD2 hb
      go_wp2_with fail
      go_ret
      exact ⟨rfl, HB.out⟩

/-- A row of numbers that can be read, at the head of the block b. -/
structure Md (W : World) (b n : Nat) (xs : List Int) : Prop where
  len : xs.length = n
  lt : b < W.heap.size
  cell : ∀ j, j < n → W.cell? ⟨b, j, none⟩ = some (.int .i64 (xs[j]?.getD 0))
theorem Md.below {W W' : World} {b n : Nat} {xs : List Int} (h : Md W b n xs) (hb : Below W.heap.size W W') : Md W' b n xs :=
  ⟨h.len, Nat.lt_of_lt_of_le h.lt hb.size, fun j hj => (hb.cell (p := ⟨b, j, none⟩) h.lt).trans (h.cell j hj)⟩
theorem Md.drewN {W : World} {b n : Nat} {xs : List Int} (h : Md W b n xs) (q : Nat) : Md (W.drewN q) b n xs := ⟨h.len, h.lt, h.cell⟩

set_option maxHeartbeats 1600000 in
theorem l02Times_c (b n cap : Nat) (L : List Nat) (hL : ∀ j, nth L j < 1024) (hn : L.length ≤ 10) (r : Nat) (hr : r < 4294967296) (w : World) (hM : Md w b n (ints L)) :
    Calls Tryd.prog 96 #[.int .i64 r, .slice (some ⟨b, 0, none⟩) n cap] w fun e w' => e = .returned (.int .i64 (tms r L L.length : Nat)) ∧ w = w' := by
  have hll := hM.len
  rw [ints_length] at hll
  subst hll
  go_enter Tryd.func96, Tryd.ntmps96
  go_wp2_with fail
  go_loop [5, 6] (fun s i => ∃ j : Nat, j ≤ L.length ∧ i = .int .i64 j ∧ s = .int .i64 (tms r L j : Nat)) (fun _ i => L.length - (intOf i).toNat)
  case atStart => exact ⟨0, Nat.zero_le _, rfl, rfl⟩
  case round =>
    obtain ⟨j, hj, rfl, rfl⟩ := hrel
    by_cases hlj : j < L.length
    · have hrow := hM.cell j hlj
      rw [ints_get] at hrow
      have hx := hL j
      have hcs : tms r L (j + 1) = if r.testBit j then tms r L j ^^^ nth L j else tms r L j := rfl
      have hcl := nth_le hL r j
      generalize tms r L j = s at hcs hcl ⊢
      generalize nth L j = x at hrow hx hcs
      have hxor := i64_xor_nat s x (by omega) (by omega)
      by_cases hb : r.testBit j = true
      · rw [if_pos hb] at hcs
        have HB := Lib.hid (bitN_one hb)
        have HCS := Lib.hid hcs
        have HX := Lib.hid hxor
        clear hb hcs hxor
        go_wp2_with (go_at_call 122; refine (l02Bit_any r j (by omega) (by omega) _).mono ?_; rw [HB.out]; rintro e w1 ⟨rfl, rfl⟩)
        go_round
        case rel => exact ⟨j + 1, by omega, by go_num, by rw [HX.out, HCS.out]⟩
        case measure => simp [intOf]; omega
      · rw [if_neg hb] at hcs
        have HB := Lib.hid (bitN_zero hb)
        have HCS := Lib.hid hcs
        clear hb hcs hxor
        go_wp2_with (go_at_call 122; refine (l02Bit_any r j (by omega) (by omega) _).mono ?_; rw [HB.out]; rintro e w1 ⟨rfl, rfl⟩)
        go_round
        case rel => exact ⟨j + 1, by omega, by go_num, by rw [HCS.out]⟩
        case measure => simp [intOf]; omega
    · obtain rfl : j = L.length := by omega
      go_wp2_with fail
      go_ret
      exact ⟨rfl, rfl⟩
theorem and_mod (x N P : Nat) (hN : 2 ^ P = N) (hx : x < 4611686018427387904) (hp : N ≤ 4611686018427387904) : bits .and .i64 (x : Int) ((N : Int) - 1) = ((x % N : Nat) : Int) := by
  have h1 := Nat.two_pow_pos P
  have e : (N : Int) - 1 = ((N - 1 : Nat) : Int) := by omega
  rw [e, i64_and_nat x (N - 1) hx (by omega), ← hN, Nat.and_two_pow_sub_one_eq_mod]

set_option maxRecDepth 100000 in
set_option maxHeartbeats 6400000 in
theorem l08Missed_any (q P Y : Nat) (r c : Int) (vv : Value) (A : Option Addr) (n cap : Nat) (L : List Nat) (b2 n2 cap2 : Nat) (D : List Nat) (hP : P ≤ 4) (hY : Y ≤ 6) (hD : D.length = P) (hDl : ∀ r ∈ D, r < 2 ^ Y) (hL : ∀ r ∈ L, r < 2 ^ (P + Y)) (hLl : L.length ≤ 10) (hn : L.length = n) (w : World)
    (hX : LB w q (gatL P Y vv r c)) (hcell : 0 < n → ∃ g, A = some ⟨g, 0, none⟩ ∧ g < w.heap.size ∧ ∀ j, j < n → w.cell? ⟨g, j, none⟩ = some (.int .i64 (nth L j : Nat))) (hM : Md w b2 n2 (ints D)) :
    Calls Tryd.prog 62 #[.pointer (some ⟨q, 0, none⟩), .slice A n cap, .slice (some ⟨b2, 0, none⟩) n2 cap2] w fun e w' => e = .returned (.int .i64 ((joined [] (L.map (missX P D))).length : Nat)) ∧ Below w.heap.size w w' := by
  have hY6 : 2 ^ Y ≤ 2 ^ 6 := Nat.pow_le_pow_right (by omega) hY
  have hPY : 2 ^ (P + Y) ≤ 2 ^ 10 := Nat.pow_le_pow_right (by omega) (by omega)
  have hD10 : ∀ j, nth D j < 1024 := fun j => Nat.lt_of_lt_of_le (nth_bound hDl j) (by omega)
  have hL10 : ∀ j, nth L j < 1024 := fun j => Nat.lt_of_lt_of_le (nth_bound hL j) hPY
  have hMl : ∀ r ∈ L.map (missX P D), r < 2 ^ Y := fun r hr => by
    obtain ⟨s, hs, rfl⟩ := List.mem_map.1 hr
    exact missX_lt hDl (hL s hs)
  obtain ⟨N, hN⟩ : ∃ N, 2 ^ P = N := ⟨_, rfl⟩
  have hN16 : N ≤ 16 := by rw [← hN]; exact Nat.pow_le_pow_right (n := 2) (by omega) hP
  have hN1 : 1 ≤ N := by rw [← hN]; exact Nat.two_pow_pos P
  have hsh : (2 : Int) ^ P = (N : Int) := by rw [← hN]; simp
  obtain ⟨i0, hi, hz0, hz1, hz2⟩ := info_parts Tryd.infoI
  have hO0 := World.ownsRow_lit (base := w.heap.size) (e := 2) (size := 1) w #[] 0 (Nat.le_refl _) (by unfold maxLen; omega) rfl
  have HO0 := Lib.hid hO0
  have HB0 := Lib.hid (below_alloc1 w (.cells #[] 2))
  have HX := Lib.hid hX
  have HC := Lib.hid hcell
  have HM := Lib.hid hM
  have HN := Lib.hid hN
  have hqz := hX.lt
  clear hO0 hX hcell hM hN
  subst hn
  go_enter Tryd.func62, Tryd.ntmps62
  go_wp2_with fail
  go_loopw [7, 8] (fun u i wr => ∃ (k gb : Nat) (mo co : Nat), u = .slice (some ⟨gb, 0, none⟩) mo co ∧ k ≤ L.length ∧ i = .int .i64 k ∧ wr.ownsRow w.heap.size 2 1 (.slice (some ⟨gb, 0, none⟩) mo co) k ((ints ((L.take k).map (missX P D))).map (Value.int .i64)) ∧ Below w.heap.size w wr) (fun _ i _ => L.length - (intOf i).toNat)
  case atStart => exact ⟨0, _, _, _, rfl, Nat.zero_le _, rfl, HO0.out, HB0.out⟩
  case round =>
    obtain ⟨k, gb, mo, co, rfl, hk, rfl, hO, hB⟩ := hrel
    clear HO0 HB0
    have hX1 := HX.out.next hB
    have c0 := hX1.cell 0 _ rfl; have c1 := hX1.cell 1 _ rfl
    have HO := Lib.hid hO
    have HB := Lib.hid hB
    by_cases hlt : k < L.length
    · obtain ⟨g, rfl, hg, hcl⟩ := HC.out (by omega)
      have hrow := (hB.cell (p := ⟨g, k, none⟩) hg).trans (hcl k hlt)
      have hts : (L.take (k + 1)).map (missX P D) = (L.take k).map (missX P D) ++ [missX P D (nth L k)] := by rw [take_succ' hlt]; simp
      have hx10 := hL10 k
      have htm := tms_mod P D (nth L k) D.length (by omega)
      rw [HN.out] at htm
      have hmx : missX P D (nth L k) = tms (nth L k) D D.length ^^^ nth L k / N := by rw [← HN.out]; rfl
      have htl := tms_lt (C := 10) hD10 (nth L k) D.length
      have Sm := fun (W : World) (hG : Md W b2 n2 (ints D)) => l02Times_c b2 n2 cap2 D hD10 (by omega) (nth L k % N) (by have := Nat.mod_le (nth L k) N; omega) W hG
      rw [htm] at Sm
      generalize nth L k = x at hrow hts hx10 hmx htl Sm htm
      rw [← and_mod x N P HN.out (by omega) (by omega)] at Sm
      generalize tms x D D.length = t at Sm htl hmx
      have hxo : bits .xor .i64 ((x : Int) / 2 ^ min (IntKind.u64.wrap (P : Int)).toNat 64) (t : Int) = ((missX P D x : Nat) : Int) := by
        have e1 : (IntKind.u64.wrap (P : Int)).toNat = P := by rw [IntKind.wrap_u64]; omega
        have e : (x : Int) / 2 ^ P = ((x / N : Nat) : Int) := by rw [hsh]; simp
        have h1 : x / N ≤ x := Nat.div_le_self _ _
        rw [e1, Nat.min_eq_left (by omega), e, i64_xor_nat _ _ (by omega) (by omega), hmx, Nat.xor_comm]
      generalize missX P D x = y at hts hxo
      have HTS := Lib.hid hts
      have HXO := Lib.hid hxo
      have HSm := Lib.hid Sm
      have HMB := Lib.hid (HM.out.below hB)
      have hgz : g < wr.heap.size := Nat.lt_of_lt_of_le hg hB.size
      clear hts hxo Sm hO hB hX1 hcl hmx htm
      go_wp2_with fail
      go_quiet (fail)
      go_wp2_with fail
      have HOD : Hid (∀ j, (wr.drewN j).ownsRow w.heap.size 2 1 (.slice (some ⟨gb, 0, none⟩) mo co) k ((ints ((L.take k).map (missX P D))).map (Value.int .i64))) := Lib.hid fun _ => HO.out
      go_region_law (first
        | (refine step_append_own rfl (.tmp 29) (.tmp 44) 24 rfl w.heap.size 2 i0 (.int .i64 0) 1 8 Tryd.underlying24 hi hz0 hz1 hz2 rfl (by decide) (.slice (some ⟨gb, 0, none⟩) mo co) k _ (by simp [Act.eval]) ((HOD.out _).alloc _) ⟨wr.heap.size, 0, none⟩ 1 1 [.int .i64 (bits .xor .i64 ((x : Int) / 2 ^ min (IntKind.u64.wrap (P : Int)).toNat 64) (t : Int))] (by simp [Act.eval]) rfl (one_new (wr.drewN _) _ _) (one_one _ _) (by unfold maxLen; omega) (by omega) (by have := HB.out.size; simp; omega) ?_; intro v' w4 hown' hgrow; rw [HXO.out] at hown'; obtain ⟨g4, cp4, rfl⟩ : ∃ g cp, v' = .slice (some ⟨g, 0, none⟩) (k + 1) cp := (ownsRow_forms hown').resolve_left (fun h => by have := h.2; omega); have hb4 : Below w.heap.size (wr.drewN (nq + 1)) w4 := ((Below.refl _ (wr.drewN (nq + 1))).alloc HB.out.size _).grown hgrow (by have := HB.out.size; simp; omega) (fun g hg => (HO.out.lt g hg).1); have HN4 := Lib.hid hown'; have HB4 := Lib.hid (HB.out.trans ((below_draws _ _ (nq + 1)).trans hb4)); clear hown' hgrow hb4)
        | (go_simp; go_wp2_with (go_at_call 96; refine (HSm.out _ (HMB.out.drewN _)).mono ?_; rintro e w3 ⟨rfl, rfl⟩)))
      all_goals
        clear hrow c0 c1
        go_wp2_with fail
        go_roundw
        case rel => exact ⟨k + 1, _, _, _, rfl, by omega, by go_num, by rw [HTS.out, ints, List.map_append, List.map_append]; exact HN4.out, HB4.out⟩
        case measure => simp [intOf]; omega
    · obtain rfl : k = L.length := by omega
      clear hX1
      rw [List.take_of_length_le (Nat.le_refl _)] at hO
      have hml : (L.map (missX P D)).length = L.length := by simp
      obtain ⟨gg, cc, ee, hOR⟩ := OR.mk2 (A := L.map (missX P D)) hO (by simp)
      have hM1 := hOR.mt (by omega)
      have HB := Lib.hid hB
      injection ee with e1 e2 e3
      obtain rfl : gb = gg := by simpa using e1
      have HR := Lib.hid (l02Rank_any Y gb L.length cc (L.map (missX P D)) (by omega) hMl (by omega) wr (by rw [hml] at hM1; exact hM1))
      clear hO hB hOR hM1 hml
      go_wp2_with fail
      refine HR.out.mono ?_
      rintro e w3 ⟨rfl, hb3⟩
      have HB3 := Lib.hid (HB.out.trans (hb3.mono HB.out.size))
      clear hb3 HB
      go_wp2_with fail
      go_ret
      exact ⟨rfl, HB3.out⟩
end Go.Proofs.YtibennpdffgomaaDoor
