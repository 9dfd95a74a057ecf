/- Words lifted to spaces: the model's and the program's. -/
import Derived.Test.YtfhalaohegdbhaaSupp
import Derived.Test.YtfhalaohegdbhaaValid
import Derived.Test.YtfhalaohegdbhaaOut
import Derived.Test.YtfhalaohegdbhaaSp1
import Derived.Test.YtfhalaohegdbhaaStep
namespace Go.Proofs.Ytfhalaohegdbhaa
open Go.RowKit Go.Joins
set_option linter.unusedVariables false

/-- The rows to which the elements of a word are lifted. -/
def liftL (q : List Nat) (k j : Nat) : List Nat := lst (fun i => 2 ^ i + nth q i * 2 ^ k) j
theorem liftL_len (q : List Nat) (k j : Nat) : (liftL q k j).length = j := lst_length _ _
theorem liftL_succ (q : List Nat) (k j : Nat) : liftL q k (j + 1) = liftL q k j ++ [2 ^ j + nth q j * 2 ^ k] := by simp [liftL, lst, List.range_succ]
theorem lift_all : ∀ k j : Fin 6, ∀ x : Fin 32, j.val < k.val → 2 ^ j.val ^^^ (x.val * 2 ^ k.val) = 2 ^ j.val + x.val * 2 ^ k.val ∧ 2 ^ j.val ||| (x.val * 2 ^ k.val) = 2 ^ j.val + x.val * 2 ^ k.val ∧ 2 ^ j.val + x.val * 2 ^ k.val < 1024 ∧ x.val * 2 ^ k.val < 1024 ∧ 2 ^ j.val < 1024 := by decide +kernel
theorem lift_at {k j x : Nat} (hk : k ≤ 5) (hj : j < k) (hx : x < 32) : 2 ^ j ^^^ (x * 2 ^ k) = 2 ^ j + x * 2 ^ k ∧ 2 ^ j ||| (x * 2 ^ k) = 2 ^ j + x * 2 ^ k ∧ 2 ^ j + x * 2 ^ k < 1024 ∧ x * 2 ^ k < 1024 ∧ 2 ^ j < 1024 :=
  lift_all ⟨k, by omega⟩ ⟨j, by omega⟩ ⟨x, hx⟩ hj
theorem lift_or {k j x s : Nat} (hk : k ≤ 5) (hj : j < k) (hx : x < 32) (hs : 2 ^ j + x * 2 ^ k = s) : bits .or .i64 (IntKind.i64.wrap (2 ^ j)) (IntKind.i64.wrap ((x : Int) * 2 ^ k)) = (s : Int) := by
  obtain ⟨h1, h2, h3, h4, h5⟩ := lift_at hk hj hx
  have e1 : (2 : Int) ^ j = ((2 ^ j : Nat) : Int) := by simp
  have e2 : ((x : Int) * 2 ^ k) = ((x * 2 ^ k : Nat) : Int) := by simp
  rw [e1, e2, wrapNat _ (by omega), wrapNat _ (by omega), i64_or_nat _ _ (by omega) (by omega), h2, hs]

set_option maxHeartbeats 1600000 in
theorem l06Lift_any (m P : Nat) (hm5 : m ≤ 5) (b k cap : Nat) (q : List Nat) (hq : ∀ j, nth q j < 32) (hk : k ≤ 5) (w : World) (hM : Mt w b k (ints q)) :
    Calls Try.prog 32 #[.agg #[.int .i64 m, .int .i64 P], .slice (some ⟨b, 0, none⟩) k cap] w fun e w' => ∃ v, e = .returned (.agg #[.int .i64 ((m + k : Nat) : Int), v]) ∧ Below w.heap.size w w' ∧ Res w' w.heap.size w'.heap.size v (ints (liftL q k k)) := by
  obtain ⟨i0, hi, hz0, hz1, hz2⟩ := info_parts Try.infoI
  have hbz : b < w.heap.size := hM.lt
  have hb0 := below_alloc1 w (.cells #[.int .i64 m, .int .i64 P] 36)
  have hb1 := below_alloc2 (w.alloc (.cells #[.int .i64 m, .int .i64 P] 36)) (.cells #[.int .i64 0, .slice none 0 0] 26) (.cells #[.int .i64 ((m + k : Nat) : Int), .slice none 0 0] 26)
  have hX := Box.two (w.alloc (.cells #[.int .i64 m, .int .i64 P] 36)) (.cells #[.int .i64 0, .slice none 0 0] 26) (.int .i64 ((m + k : Nat) : Int)) (.slice none 0 0) 26
  have hR := (MRoom.start (w.alloc (.cells #[.int .i64 m, .int .i64 P] 36)) (.int .i64 0) (.slice none 0 0) 26).below (below_alloc1 _ (.cells #[.int .i64 ((m + k : Nat) : Int), .slice none 0 0] 26))
  rw [World.size_alloc] at hX hR
  have hOB : OB (((w.alloc (.cells #[.int .i64 m, .int .i64 P] 36)).alloc (.cells #[.int .i64 0, .slice none 0 0] 26)).alloc (.cells #[.int .i64 ((m + k : Nat) : Int), .slice none 0 0] 26)) (w.heap.size + 1) (w.heap.size + 1 + 1) (w.heap.size + 1 + 1 + 1) ((m + k : Nat) : Int) 0 (.slice none 0 0) [] :=
    ⟨by omega, by omega, by omega, hX.c0, hX.c1, by simp [World.frozen?_alloc_at], hR, World.ownsRow_nil _ _ _ _, by simp⟩
  have HOB := Lib.hid hOB
  have hB := hb0.trans (hb1.mono hb0.size)
  have HB0 := Lib.hid hB
  have HM0 := Lib.hid (hM.below hB)
  have HQ := Lib.hid hq
  have hsum : (k : Int) + (m : Int) = ((m + k : Nat) : Int) := by omega
  generalize hc : ((m + k : Nat) : Int) = c at hsum HOB HB0 HM0 ⊢
  clear hOB hb0 hb1 hB hM hq hX hR hc
  go_enter Try.func32, Try.ntmps32
  go_wp2_with fail
  try rw [hsum]
  go_loopw [7] (fun i wr => ∃ (j : Nat) (v : Value), j ≤ k ∧ i = .int .i64 j ∧ Mt wr b k (ints q) ∧ OB wr (w.heap.size + 1) (w.heap.size + 1 + 1) (w.heap.size + 1 + 1 + 1) c j v (ints (liftL q k j)) ∧ Below w.heap.size w wr) (fun i _ => k - (intOf i).toNat)
  case atStart => exact ⟨0, _, Nat.zero_le _, rfl, HM0.out, HOB.out, HB0.out⟩
  case round =>
    obtain ⟨j, v, hj, rfl, hMr, hOr, hBr⟩ := hrel
    clear HOB HM0 HB0
    by_cases hlt : j < k
    · have hrow := hMr.cell j hlt
      rw [ints_get] at hrow
      have hx := HQ.out j
      have hts := liftL_succ q k j
      generalize nth q j = x at hrow hx hts
      obtain ⟨s, hs⟩ : ∃ s, 2 ^ j + x * 2 ^ k = s := ⟨_, rfl⟩
      have hor : bits .or .i64 (IntKind.i64.wrap (2 ^ min (IntKind.u64.wrap (j : Int)).toNat 64)) (IntKind.i64.wrap ((x : Int) * 2 ^ min (IntKind.u64.wrap (k : Int)).toNat 64)) = (s : Int) := by
        have e1 : (IntKind.u64.wrap (j : Int)).toNat = j := by simp [IntKind.wrap, IntKind.signed, IntKind.bits]; omega
        have e2 : (IntKind.u64.wrap (k : Int)).toNat = k := by simp [IntKind.wrap, IntKind.signed, IntKind.bits]; omega
        rw [e1, e2, Nat.min_eq_left (by omega), Nat.min_eq_left (by omega)]
        exact lift_or hk hlt hx hs
      rw [hs] at hts
      have HTS := Lib.hid hts
      have HOS := Lib.hid hor
      have HOr := Lib.hid hOr
      have HBr := Lib.hid hBr
      have HMr := Lib.hid hMr
      have a1 := hOr.a1
      have f1 := hOr.f1
      clear hts hs hor hOr hBr hMr
      go_wp2_with fail
      have HOD := Lib.hid (show OB wr.drew (w.heap.size + 1) (w.heap.size + 1 + 1) (w.heap.size + 1 + 1 + 1) c j v (ints (liftL q k j)) from HOr.out.drewN 1)
      have hoz : w.heap.size + 1 + 1 < wr.heap.size := by have := HOr.out.z; omega
      go_region_law (first | (refine step_append_own rfl (.tmp 21) (.tmp 33) 22 rfl (w.heap.size + 1 + 1 + 1) 2 i0 (.int .i64 0) 1 8 Try.underlying22 hi hz0 hz1 hz2 rfl (by decide) v j _ (by simp [Act.eval]) (HOD.out.own.alloc _) ⟨wr.drew.heap.size, 0, none⟩ 1 1 [.int .i64 (bits .or .i64 (IntKind.i64.wrap (2 ^ min (IntKind.u64.wrap (j : Int)).toNat 64)) (IntKind.i64.wrap ((x : Int) * 2 ^ min (IntKind.u64.wrap (k : Int)).toNat 64)))] (by simp [Act.eval]) rfl (one_new wr.drew _ _) (one_one _ _) (by unfold maxLen; omega) (by omega) (by have := HOr.out.z; simp; omega) ?_; intro v' w4 hown' hgrow; rw [HOS.out] at hown'; obtain ⟨⟨g, cp, rfl⟩, hb2⟩ := HOD.out.grown hown' hgrow; obtain ⟨hN, hK⟩ := HOD.out.step hb2 hown'; have t1 := (hb2.cell (p := ⟨w.heap.size + 1 + 1, 1, none⟩) (by simp)).trans a1; have t5 := (hb2.frozen (p := ⟨w.heap.size + 1 + 1, 1, none⟩) (by simp)).trans f1; have t6 := (hb2.cell (p := ⟨b, j, none⟩) (by simp; omega)).trans hrow; have HN := Lib.hid hN; have HK := Lib.hid hK; clear hown' hgrow hb2 hN hK))
      all_goals
        clear hoz t1 t5 t6 a1 f1 hrow
        go_wp2_with fail
        go_roundw
        case rel => exact ⟨j + 1, _, by omega, by go_num, HMr.out.at (HK.out.heap b (by omega) (by omega)) HK.out.size, by rw [HTS.out, ints, List.map_append]; exact HN.out, HBr.out.drew.trans (HK.out.below _ (by omega) (by omega))⟩
        case measure => simp [intOf]; omega
    · obtain rfl : j = k := by omega
      obtain ⟨ao, mm, cp, rfl⟩ := hOr.form
      have a0 := hOr.a0; have a1 := hOr.a1
      obtain ⟨x, y, h0, h1⟩ := hOr.room.ex
      have f0 := hOr.room.f0; have f1 := hOr.room.f1
      have HOr := Lib.hid hOr
      have HBr := Lib.hid hBr
      clear hOr hBr
      go_wp2_with fail
      refine bodyPost_ret (v := .agg #[.int .i64 c, .slice ao mm cp]) (mat_result (p := 4) (fn := Try.f32) rfl _ rfl (two_setCell _ _ _ _ h0 h1).1 (two_setCell _ _ _ _ h0 h1).2) rfl ⟨_, rfl, ?_, HOr.out.res (by omega) (by omega) _ _⟩
      exact (only2 _ _ _ _).below HBr.out (by omega)

set_option maxHeartbeats 1600000 in
theorem lifted_any (c m P n : Nat) (hF : Fld m P n) (A : Option Addr) (k cap : Nat) (p : List Nat) (hp : ∀ j, nth p j < n) (hk : k ≤ 5) (w : World) (hD : w.cell? ⟨c, 0, none⟩ = some (.int .i64 m)) (hR : Rl w .u8 A k p) :
    Calls Try.prog 33 #[.pointer (some ⟨c, 0, none⟩), .slice A k cap] w fun e w' => e = .returned (.agg (gridC (liftL p k k) ((m + k : Nat) : Int))) ∧ Below w.heap.size w w' := by
  have h32 := hF.n32
  have hlen := hR.len
  have hcl : c < w.heap.size := World.block_lt_of_cell? w ⟨c, 0, none⟩ hD
  have hRm : Room (w.alloc (.cells (gridC [] 0) 51)) w.heap.size := (GAt.start w [] 0 51 (by simp) (by intro j; simp [nth])).room
  have hsum : (k : Int) + (m : Int) = ((m + k : Nat) : Int) := by omega
  have hwc : wrap64 ((m + k : Nat) : Int) = ((m + k : Nat) : Int) := by have := hF.m5; unfold wrap64; omega
  generalize hc' : ((m + k : Nat) : Int) = C at hsum hwc ⊢
  clear hc'
  have hb0 := below_alloc1 w (.cells (gridC [] 0) 51)
  have hb1 := below_alloc1 (w.alloc (.cells (gridC [] 0) 51)) (.cells (gridC [] C) 51)
  have hD0 := (hb0.cell (p := ⟨c, 0, none⟩) hcl).trans hD
  have hG := GAt.start (w.alloc (.cells (gridC [] 0) 51)) [] C 51 (by simp) (by intro j; simp [nth])
  rw [World.size_alloc] at hG
  have HRm := Lib.hid (hRm.below hb1)
  have HG := Lib.hid hG
  have HB := Lib.hid (hb0.trans (hb1.mono hb0.size))
  have HR := Lib.hid hR
  have HP := Lib.hid hp
  clear hRm hb0 hb1 hG hR hp
  have hD0' : (w.alloc (.cells #[.int .i64 0, .int .u32 0, .int .u32 0, .int .u32 0, .int .u32 0, .int .u32 0, .int .u32 0, .int .u32 0, .int .u32 0, .int .u32 0, .int .u32 0, .int .i64 0] 51)).cell? ⟨c, 0, none⟩ = some (.int .i64 m) := hD0
  go_enter Try.func33, Try.ntmps33
  go_wp2_with fail
  try rw [hsum]
  try rw [hwc]
  go_loopw [7, 8, 20] (fun _ _ i wr => ∃ j : Nat, j ≤ k ∧ i = .int .i64 j ∧ GAt wr (w.heap.size + 1) (liftL p k j) C ∧ Room wr w.heap.size ∧ Below w.heap.size w wr) (fun _ _ i _ => k - (intOf i).toNat)
  case atStart => exact ⟨0, Nat.zero_le _, rfl, HG.out, HRm.out, HB.out⟩
  case round =>
    obtain ⟨j, hj, rfl, hG, hRr, hb⟩ := hrel
    clear HG HRm HB hD0 hD0'
    have HRR := Lib.hid hRr
    have HB := Lib.hid hb
    by_cases hlt : j < k
    · obtain ⟨g, rfl, hg, hc⟩ := (HR.out.below hb).row (by omega)
      have hck := hc j hlt
      clear hc hb hRr
      have hx := HP.out j
      have hts := liftL_succ p k j
      have hlk := liftL_len p k j
      generalize nth p j = x at hck hx hts
      obtain ⟨h1, h2, h3, h4, h5⟩ := lift_at hk hlt (show x < 32 by omega)
      have hshl : IntKind.u32.wrap ((x : Int) * 2 ^ k) = ((x * 2 ^ k : Nat) : Int) := by
        have e : ((x : Int) * 2 ^ k) = ((x * 2 ^ k : Nat) : Int) := by simp
        rw [e, IntKind.wrap_u32']; omega
      have HU := Lib.hid (fun w => unit_any j (by omega) w)
      obtain ⟨y, hy⟩ : ∃ y, x * 2 ^ k = y := ⟨_, rfl⟩
      obtain ⟨z, hz⟩ : ∃ z, 2 ^ j = z := ⟨_, rfl⟩
      rw [hz] at HU
      rw [hy, hz] at h1 h3 hts
      rw [hy] at hshl h4
      rw [hz] at h5
      have HPL := fun w => plus_any z y (by omega) (by omega) w
      rw [h1] at HPL
      replace HPL := Lib.hid HPL
      obtain ⟨s, hs⟩ : ∃ s, z + y = s := ⟨_, rfl⟩
      rw [hs] at HPL h3 hts
      have HPU := Lib.hid (fun W hG => push_any (w.heap.size + 1) (liftL p k j) C s (by omega) W hG (by omega))
      have HTS := Lib.hid hts
      have HGD := Lib.hid (show GAt wr.drew (w.heap.size + 1) (liftL p k j) C from hG.drewN 1)
      have e1 : IntKind.u32.wrap (x : Int) = x := by rw [IntKind.wrap_u32']; omega
      clear hts hG h1 h3 h4 h5 hy hz hs hlk
      go_wp2_with fail
      go_region_law (go_simp; go_wp2_with (first | (go_at_call 41; refine (HU.out _).mono ?_; rintro e w2 ⟨rfl, rfl⟩) | (go_at_call 40; refine (HPL.out _).mono ?_; rintro e w2 ⟨rfl, rfl⟩) | (go_at_call 37; refine (HPU.out _ HGD.out).mono ?_; rintro e w2 ⟨rfl, hG2, hO2⟩)))
      all_goals
        go_wp2_with fail
        go_roundw
        case rel => exact ⟨j + 1, by omega, by go_num, by rw [HTS.out]; exact hG2, (HRR.out.drewN 1).only hO2 (by omega), hO2.below HB.out.drew (by omega)⟩
        case measure => simp [intOf]; omega
    · obtain rfl : j = k := by omega
      have HGL := Lib.hid hG
      have hll := liftL_len p j j
      clear hG hRr hb
      go_wp2_with (first | (refine gridV_load rfl _ rfl (w.heap.size + 1) (liftL p j j) C rfl HGL.out ?_) | (refine gridV_store rfl _ _ rfl w.heap.size (liftL p j j) C rfl rfl HRR.out (by omega) HGL.out.r32 ?_; intro W2 HG2 HO2))
      refine bodyPost_ret (v := .agg (gridC (liftL p j j) C)) (grid_result (p := 4) (fn := Try.f33) rfl _ rfl HG2.out) rfl ⟨rfl, ?_⟩
      exact HO2.out.below HB.out (Nat.le_refl _)
end Go.Proofs.Ytfhalaohegdbhaa
