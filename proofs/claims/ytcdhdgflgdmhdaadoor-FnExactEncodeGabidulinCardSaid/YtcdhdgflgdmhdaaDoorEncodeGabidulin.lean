/- The word of a message: the model's. · The word of a message: the program's. · EncodeGabidulin: the program and the model. -/
import Derived.Test.YtcdhdgflgdmhdaaDoorGabI
import Derived.Test.YtcdhdgflgdmhdaaDoorLinS3
import Derived.Test.YtcdhdgflgdmhdaaDoorSv
import Derived.Test.YtcdhdgflgdmhdaaDoorStep
import Derived.Test.YtcdhdgflgdmhdaaDoorMtRes
import Derived.Test.YtcdhdgflgdmhdaaDoorLinI4
import Derived.Deep.RegionLaw
namespace Go.Proofs.YtcdhdgflgdmhdaaDoor
open Go.RowKit Go.Joins
set_option linter.unusedVariables false

set_option maxHeartbeats 3200000 in
theorem l05Value_any (m P n : Nat) (hF : Fld m P n) (A : Option Addr) (k cap : Nat) (p : List Nat) (hp : ∀ j, nth p j < n) (x : Nat) (hx : x < n) (hk : k ≤ 1000) (w : World) (hR : Rl w .i64 A k p) :
    Calls Tryd.prog 40 #[.agg #[.int .i64 m, .int .i64 P], .slice A k cap, .int .i64 x] w fun e w' => e = .returned (.int .i64 (vl P p x)) ∧ Below w.heap.size w w' := by
  have h32 := hF.n32
  have HP := Lib.hid hp
  have HR := Lib.hid hR
  clear hp hR
  obtain ⟨r, hr⟩ : ∃ r, vl P p x = r := ⟨_, rfl⟩
  rw [hr]
  have HV := Lib.hid hr
  clear hr
  go_enter Tryd.func40, Tryd.ntmps40
  go_wp2
  go_loopw [7, 8] (fun s i wr => ∃ j b : Nat, j ≤ k ∧ i = .int .i64 j ∧ s = .int .i64 b ∧ b < n ∧ Hid (b = vlk P p x j) ∧ FAt w m P wr) (fun _ i _ => k - (intOf i).toNat)
  case atStart => exact ⟨0, 0, Nat.zero_le _, rfl, rfl, by omega, Lib.hid rfl, FAt.start w m P 29⟩
  case round =>
    obtain ⟨j, b, hj, rfl, rfl, hb, HS, hA0⟩ := hrel
    have hA := hA0.drew
    by_cases hlt : j < k
    · obtain ⟨g, rfl, hg, hc⟩ := HR.out.row (by omega)
      have hck0 := hc j hlt
      clear hc
      have hq := HP.out j
      obtain ⟨q, hqe⟩ : ∃ q, nth p j = q := ⟨_, rfl⟩
      rw [hqe] at hck0 hq
      have HQ := Lib.hid hqe
      clear hqe
      have HK0 := Lib.hid hck0
      clear hck0
      have hck : wr.drew.cell? ⟨g, j, none⟩ = some (.int .i64 q) := (hA.b.cell (p := ⟨g, j, none⟩) hg).trans HK0.out
      have hs := sq_lt hF hx j
      obtain ⟨s, hse⟩ : ∃ s, sq P x j = s := ⟨_, rfl⟩
      have hm := hF.mul_lt q s
      have HSQ := Lib.hid (fun W => l01Square_any m P n hF x hx j (by omega) W)
      rw [hse] at hs HSQ
      have HSE := Lib.hid hse
      clear hse
      have HXR := Lib.hid (i64_xor_nat b (mul P q s) (by omega) (by omega))
      go_wp2
      go_region_held3 (fun w' => w'.cell? ⟨w.heap.size, 0, none⟩ = some (.int .i64 m) ∧ w'.cell? ⟨w.heap.size, 1, none⟩ = some (.int .i64 P) ∧ w'.cell? ⟨g, j, none⟩ = some (.int .i64 q) ∧ FAt w m P w') (first | exact ⟨hA.c0, hA.c1, hck, hA⟩ | exact ⟨by assumption, by assumption, by assumption, by assumption⟩) (first | (go_at_call 54; refine (HSQ.out _).mono ?_; rintro e w1 ⟨rfl, hb1⟩; have k1 : FAt w m P w1 := FAt.next (by assumption) hb1; have q0 := k1.c0; have q1 := k1.c1; have q2 := (k1.b.cell (p := ⟨g, j, none⟩) hg).trans HK0.out; clear hb1) | (go_at_call 53; refine (l01Mul_any _ _ _ hF _ _ hq hs _).mono ?_; rintro e w2 ⟨rfl, hb2⟩; have k2 : FAt w m P w2 := FAt.next (by assumption) hb2; have q3 := k2.c0; have q4 := k2.c1; have q5 := (k2.b.cell (p := ⟨g, j, none⟩) hg).trans HK0.out; clear hb2))
      all_goals go_wp2
      all_goals go_roundw
      case rel => exact ⟨j + 1, b ^^^ mul P q s, by omega, by go_num, by first | rfl | rw [HXR.out], hF.xor_lt hb hm, Lib.hid (by rw [HS.out, ← HQ.out, ← HSE.out]; rfl), by assumption⟩
      case measure => simp [intOf]; omega
    · obtain rfl : j = k := by omega
      go_wp2
      go_ret
      exact ⟨ret_int (by rw [← HV.out, HS.out, vl, HR.out.len]), hA0.b⟩

/-- The word of a message: its values for the points. -/
def encW (P : Nat) (L M : List Nat) (k : Nat) : List Nat := lst (fun j => vl P M (nth L j)) k
theorem encW_len (P : Nat) (L M : List Nat) (k : Nat) : (encW P L M k).length = k := lst_length _ _
theorem encW_succ (P : Nat) (L M : List Nat) (k : Nat) : encW P L M (k + 1) = encW P L M k ++ [vl P M (nth L k)] := by simp [encW, lst, List.range_succ]
theorem OL.startE {W : World} {B : Nat} (hB : B ≤ W.heap.size) : OL (W.alloc (.cells #[] 2)) B (some ⟨W.heap.size, 0, none⟩) 0 0 [] := ⟨rfl, World.ownsRow_made W #[] 0 hB (by unfold maxLen; omega) (by simp)⟩

set_option maxRecDepth 100000 in
set_option maxHeartbeats 3200000 in
theorem l05Word_any (m P n : Nat) (hF : Fld m P n) (q b len cap : Nat) (kd : Int) (zs : List Int) (hi : allIn n zs = true) (hlen : len ≤ 5) (b2 k cap2 : Nat) (ms : List Int) (hi2 : allIn n ms = true) (hk : k ≤ 1000) (w : World)
    (hX : Box4 w q (.int .i64 m) (.int .i64 P) (.slice (some ⟨b, 0, none⟩) len cap) (.int .i64 kd)) (hM : Mt w b len zs) (hM2 : Mt w b2 k ms) :
    Calls Tryd.prog 28 #[.pointer (some ⟨q, 0, none⟩), .slice (some ⟨b2, 0, none⟩) k cap2] w fun e w' => ∃ D cd, e = .returned (.slice D len cd) ∧ Below w.heap.size w w' ∧ OL w' w.heap.size D len cd (encW P (nats zs) (nats ms) len) := by
  obtain ⟨i0, hi0, hz0, hz1', hz2⟩ := info_parts Tryd.infoI
  have h32 := hF.n32
  have hn0 : 0 < n := by have := hF.n2; omega
  have HP := Lib.hid (nats_lt hi hn0)
  have HI := Lib.hid hi
  have HI2 := Lib.hid hi2
  have HV := Lib.hid (fun x hx W hR => l05Value_any m P n hF (some ⟨b2, 0, none⟩) k cap2 (nats ms) (nats_lt hi2 hn0) x hx hk W hR)
  have HVL := Lib.hid (fun x => vl_lt hF (nats ms) x)
  have HX := Lib.hid hX
  have HM := Lib.hid hM
  have HM2 := Lib.hid hM2
  have HO0 : Hid (OL (w.alloc (.cells #[] 2)) w.heap.size (some ⟨w.heap.size, 0, none⟩) 0 0 []) := Lib.hid (OL.startE (W := w) (B := w.heap.size) (Nat.le_refl _))
  have HB0 := Lib.hid (below_alloc1 w (.cells #[] 2))
  clear hX hM hM2 hi hi2
  go_enter Tryd.func28, Tryd.ntmps28
  go_wp2_with fail
  go_loopw [5, 6] (fun v i wr => ∃ (j cp : Nat) (D : Option Addr), j ≤ len ∧ i = .int .i64 j ∧ v = .slice D j cp ∧ Below w.heap.size w wr ∧ OL wr w.heap.size D j cp (encW P (nats zs) (nats ms) j)) (fun _ i _ => len - (intOf i).toNat)
  case atStart => exact ⟨0, 0, _, Nat.zero_le _, rfl, rfl, HB0.out, HO0.out⟩
  case round =>
    obtain ⟨j, cp, D, hj, rfl, rfl, hB, hO⟩ := hrel
    clear HO0 HB0
    have hXr := HX.out.next hB
    have c0 := hXr.c0; have c1 := hXr.c1; have c2 := hXr.c2
    by_cases hlt : j < len
    · obtain ⟨g1, e1, hg1, hcr1⟩ := ((HM.out.below hB).rl HI.out).row (by omega)
      injection e1 with e1; injection e1 with e1; subst e1
      have hrow := hcr1 j hlt
      clear hcr1 hXr
      have hx := HP.out j
      have hts := encW_succ P (nats zs) (nats ms) j
      generalize nth (nats zs) j = x at hrow hx hts
      have hvl := HVL.out x
      have HVX := HV.out x hx wr.drew ((HM2.out.below (hB.trans ((Below.refl _ wr).drew.mono hB.size))).rl HI2.out)
      generalize vl P (nats ms) x = t at hvl hts HVX
      have HTS := Lib.hid hts
      have HVX' := Lib.hid HVX
      have HB := Lib.hid hB
      have HO := Lib.hid hO
      have HOD := Lib.hid (show OL wr.drew w.heap.size D j cp (encW P (nats zs) (nats ms) j) from hO.drewN 1)
      have HBD := Lib.hid hB.drew
      have hz1 : w.heap.size ≤ wr.drew.heap.size := by have := hB.size; simpa using this
      clear hts HVX hB hO
      go_wp2_with fail
      go_region_law (first | (refine step_append_own rfl (.tmp 17) (.tmp 31) 24 rfl w.heap.size 2 i0 (.int .i64 0) 1 8 Tryd.underlying24 hi0 hz0 hz1' hz2 rfl (by decide) (.slice D j cp) j _ (by simp [Act.eval]) (HO1.out.own.alloc _) ⟨w1.heap.size, 0, none⟩ 1 1 [.int .i64 t] (by simp [Act.eval]) rfl (one_new w1 _ _) (one_one _ _) (by unfold maxLen; omega) (by omega) (by simp; omega) ?_; intro v' w2 hown' hgrow; have HG := Lib.hid (And.intro hown' hgrow); clear hown' hgrow) | (go_simp; go_wp2_with (go_at_call 40; refine HVX'.out.mono ?_; rintro e w1 ⟨rfl, hbm⟩; have HO1 := Lib.hid (HOD.out.below hbm); have z2 := Nat.le_trans hz1 hbm.size; have HB1 := Lib.hid (HBD.out.trans (hbm.mono hz1)); clear hbm)))
      all_goals
        obtain ⟨hown', hgrow⟩ := HG.out
        have hb4 : Below w.heap.size w1 w2 := ((Below.refl _ w1).alloc (by omega) _).grown hgrow (by simp; omega) (fun g hg => (HO1.out.own.lt g hg).1)
        have HB4 := Lib.hid (HB1.out.trans hb4)
        obtain ⟨A4, cp4, hv4, hO4⟩ := OL.of (n := j + 1) (p := encW P (nats zs) (nats ms) (j + 1)) (by rw [HTS.out, ints_append, List.map_append]; exact hown')
        subst hv4
        have HO4 := Lib.hid hO4
        clear hown' hgrow hO4 hb4 HG z2 hz1 c0 c1 c2 hrow
        go_wp2_with fail
        go_roundw
        case rel => exact ⟨j + 1, cp4, A4, by omega, by go_num, rfl, HB4.out, HO4.out⟩
        case measure => simp [intOf]; omega
    · obtain rfl : j = len := by omega
      have HO := Lib.hid hO
      have HB := Lib.hid hB
      clear hO hB
      go_wp2_with fail
      go_ret
      exact ⟨D, cp, rfl, HB.out, HO.out⟩
end Go.Proofs.YtcdhdgflgdmhdaaDoor
namespace Go.Proofs.YtcdhdgflgdmhdaaDoor
open Go.RowKit Go.Joins
set_option linter.unusedVariables false

set_option maxRecDepth 100000 in
set_option maxHeartbeats 1600000 in
theorem values_any (c m P n : Nat) (hF : Fld m P n) (A : Option Addr) (k cap : Nat) (p : List Nat) (hp : ∀ j, nth p j < n) (hk : k ≤ 1048577) (B : Option Addr) (l capl : Nat) (L : List Nat) (hL : ∀ j, nth L j < n) (hl : l ≤ 1048576) (w : World) (hC : Calc c m P n w) (hR : Rl w .u8 A k p) (hS : Rl w .u8 B l L) :
    Calls Tryd.prog 42 #[.pointer (some ⟨c, 0, none⟩), .slice A k cap, .slice B l capl] w fun e w' => ∃ b, e = .returned (.slice (some ⟨b, 0, none⟩) l l) ∧ Below w.heap.size w w' ∧ Rl w' .u8 (some ⟨b, 0, none⟩) l (encW P L p l) := by
  obtain ⟨i0, hi, hz0, hz1, hz2⟩ := info_parts Tryd.infoE
  have h32 := hF.n32
  have HP := Lib.hid hp
  have HL := Lib.hid hL
  have HR := Lib.hid hR
  have HS := Lib.hid hS
  have hcl := hC.lt
  have HC := Lib.hid hC
  clear hp hR hC hS hL
  go_enter Tryd.func42, Tryd.ntmps42
  go_wp2_with (at_make; refine wpList_make_full _ rfl _ _ 56 rfl w.heap.size 73 i0 (.int .u8 0) 1 Tryd.underlying56 hi hz0 hz1 .i64 .i64 _ _ l rfl rfl rfl rfl (by rw [hz2]; omega) (by unfold maxLen; omega) (Nat.le_refl _) ?_; intro w1 hown hgrow)
  have hb1 : Below w.heap.size w w1 := (Below.refl _ w).grown hgrow (Nat.le_refl _) (fun k h => by cases h)
  have HW := Lib.hid (Wr.made (K := .u8) hown)
  have HB := Lib.hid hb1
  clear hown hgrow hz0 hz1 hz2 hi hb1
  go_loopw [8, 9, 15] (fun _ _ i wr => ∃ (j : Nat) (F : Nat → Nat), j ≤ l ∧ i = .int .i64 j ∧ Below w.heap.size w wr ∧ Wr wr .u8 w.heap.size l F ∧ Hid (∀ i, i < j → F i = vl P p (nth L i))) (fun _ _ i _ => l - (intOf i).toNat)
  case atStart => exact ⟨0, _, Nat.zero_le _, rfl, HB.out, HW.out, Lib.hid (fun j hj => by omega)⟩
  case round =>
    obtain ⟨j, F, hj, rfl, hb, hW, HI⟩ := hrel
    clear HW HB
    by_cases hlt : j < l
    · obtain ⟨g, rfl, hg, hc⟩ := (HS.out.below hb).row (by omega)
      have hck := hc j hlt
      clear hc
      have hx := HL.out j
      obtain ⟨x, hxe⟩ : ∃ x, nth L j = x := ⟨_, rfl⟩
      rw [hxe] at hck hx
      have HX := Lib.hid hxe
      clear hxe
      have hcw := hW.cell j hlt
      have hfw := hW.free j
      have HV := Lib.hid (value_any c m P n hF A k cap p HP.out x hx hk wr (HC.out.below hcl hb) (HR.out.below hb))
      have HB2 := Lib.hid hb
      have HW2 := Lib.hid hW
      clear hb hW
      go_wp2_with (go_at_call 56; refine HV.out.mono ?_; rintro e w' ⟨rfl, rfl⟩)
      go_roundw
      case rel => exact ⟨j + 1, _, by omega, by go_num, below_set HB2.out _ _ (Nat.le_refl _) _, HW2.out.set j hlt _, Lib.hid (fun i hi => by
        simp only [put]
        by_cases e : i = j
        · subst e; rw [if_pos rfl, HX.out]
        · rw [if_neg e]; exact HI.out i (by omega))⟩
      case measure => simp [intOf]; omega
    · obtain rfl : j = l := by omega
      have HB2 := Lib.hid hb
      have HW2 := Lib.hid hW
      clear hb hW
      go_wp2
      go_ret
      refine ⟨_, rfl, HB2.out, ?_⟩
      have h1 := HW2.out.rl
      rwa [show lst F j = encW P L p j from lst_congr fun i hi => HI.out i hi] at h1

set_option maxHeartbeats 1600000 in
theorem encoded_any (q c g m P n len : Nat) (kd : Int) (L : List Nat) (hF : Fld m P n) (hL : ∀ j, nth L j < n) (hlen : len ≤ 1048576) (A : Option Addr) (k cap : Nat) (p : List Nat) (hp : ∀ j, nth p j < n) (hk : k ≤ 1048577) (w : World) (hP : PC w q c g m P n len kd L) (hR : Rl w .u8 A k p) :
    Calls Tryd.prog 31 #[.pointer (some ⟨q, 0, none⟩), .slice A k cap] w fun e w' => ∃ b, e = .returned (.slice (some ⟨b, 0, none⟩) len len) ∧ Below w.heap.size w w' ∧ Rl w' .u8 (some ⟨b, 0, none⟩) len (encW P L p len) := by
  have c0 := hP.c0; have c1 := hP.c1
  have HPD := Lib.hid (hP.next (Below.refl _ w).drew)
  have HRD := Lib.hid (hR.below (Below.refl _ w).drew)
  have HV := Lib.hid (fun W hC hR hS => values_any c m P n hF A k cap p hp hk (some ⟨g, 0, none⟩) len len L hL hlen W hC hR hS)
  clear hP hR
  go_enter Tryd.func31, Tryd.ntmps31
  go_wp2_with fail
  go_region_law (go_simp; go_wp2_with (go_at_call 42; refine (HV.out _ HPD.out.cal HRD.out HPD.out.row).mono ?_; rintro e w1 ⟨b1, rfl, hb, hRb⟩; have HB := Lib.hid ((Below.refl _ w).drew.trans hb); have HRB := Lib.hid hRb; clear hb hRb))
  all_goals
    go_wp2_with fail
    go_ret
    exact ⟨b1, rfl, HB.out, HRB.out⟩
end Go.Proofs.YtcdhdgflgdmhdaaDoor
namespace Go.Proofs.YtcdhdgflgdmhdaaDoor
open Go.RowKit Go.Joins
set_option linter.unusedVariables false

def fEncodeGabidulin (d p : Int) (zs : List Int) (k : Int) (ms : List Int) : List Int × Int :=
  if gabF d p zs k = false then ([], 1) else if (ms.length : Int) = k ∧ allIn (2 ^ d.toNat) ms = true then (ints (encW p.toNat (nats zs) (nats ms) zs.length), 0) else ([], 2)
theorem fEnc_A {d p k : Int} {zs ms : List Int} (h : gabF d p zs k = false) : fEncodeGabidulin d p zs k ms = ([], 1) := by rw [fEncodeGabidulin, if_pos h]
theorem fEnc_B {m P n : Nat} (hF : Fld m P n) {k : Int} {zs ms : List Int} (h : gabB n zs k = true) (h2 : ¬ ((ms.length : Int) = k ∧ allIn n ms = true)) : fEncodeGabidulin m P zs k ms = ([], 2) := by
  rw [fEncodeGabidulin, if_neg (by rw [gabF_yes hF, h]; simp), Int.toNat_natCast, hF.n, if_neg h2]
theorem fEnc_C {m P n : Nat} (hF : Fld m P n) {k : Int} {zs ms : List Int} (h : gabB n zs k = true) (h2 : (ms.length : Int) = k ∧ allIn n ms = true) : fEncodeGabidulin m P zs k ms = (ints (encW P (nats zs) (nats ms) zs.length), 0) := by
  rw [fEncodeGabidulin, if_neg (by rw [gabF_yes hF, h]; simp), Int.toNat_natCast, hF.n, if_pos h2, Int.toNat_natCast]

abbrev gabV (b len cap : Nat) : Value := .slice (some ⟨b, 0, none⟩) len cap
set_option maxHeartbeats 1600000 in
theorem specEncodeGabidulin_A (d p k : Int) (b len cap : Nat) (zs : List Int) (v : Value) (w : World) (hM : Mt w b len zs) (hg : gabF d p zs k = false) :
    Calls Tryd.prog 13 #[.agg (gabC d p (.slice (some ⟨b, 0, none⟩) len cap) k), v] w fun e w' => ∃ v, e = .returned (.tuple #[v, .int .i64 1]) ∧ Below w.heap.size w w' ∧ Res w' w.heap.size w'.heap.size v [] := by
  have hb0 := below_alloc1 w (.cells (gabC d p (.slice (some ⟨b, 0, none⟩) len cap) k) 31)
  have hX0 := Box4.one w (.int .i64 d) (.int .i64 p) (.slice (some ⟨b, 0, none⟩) len cap) (.int .i64 k) 31
  have HS := Lib.hid (l05Ok_any d p w.heap.size b len cap k zs _ hX0 (hM.below hb0) false hg)
  clear hX0 hg
  go_enter Tryd.func13, Tryd.ntmps13
  go_wp2_with (go_at_call 21; refine HS.out.mono ?_; rintro e w1 ⟨rfl, hb⟩)
  have hb1 := hb0.trans (hb.mono hb0.size)
  have hba := below_alloc1 w1 (.cells #[] 2)
  go_ret2
  exact ⟨_, rfl, hb1.trans (hba.mono hb1.size), ((OL.startE (W := w1) (B := w.heap.size) hb1.size).res (by omega) (Nat.le_refl _))⟩

set_option maxHeartbeats 1600000 in
theorem specEncodeGabidulin_B (m P n : Nat) (hF : Fld m P n) (k : Int) (b len cap : Nat) (zs : List Int) (b2 l2 cap2 : Nat) (ms : List Int) (w : World) (hM : Mt w b len zs) (hM2 : Mt w b2 l2 ms) (hg : gabB n zs k = true) (h2 : ¬ ((l2 : Int) = k ∧ allIn n ms = true)) :
    Calls Tryd.prog 13 #[.agg (gabC m P (.slice (some ⟨b, 0, none⟩) len cap) k), .slice (some ⟨b2, 0, none⟩) l2 cap2] w fun e w' => ∃ v, e = .returned (.tuple #[v, .int .i64 2]) ∧ Below w.heap.size w w' ∧ Res w' w.heap.size w'.heap.size v [] := by
  have hb0 := below_alloc1 w (.cells (gabC m P (.slice (some ⟨b, 0, none⟩) len cap) k) 31)
  have hX0 := Box4.one w (.int .i64 m) (.int .i64 P) (.slice (some ⟨b, 0, none⟩) len cap) (.int .i64 k) 31
  have HS := Lib.hid (l05Ok_any m P w.heap.size b len cap k zs _ hX0 (hM.below hb0) true (by rw [gabF_yes hF]; exact hg))
  have HX := Lib.hid hX0
  have HM2 := Lib.hid (hM2.below hb0)
  clear hX0 hg
  by_cases hk : (l2 : Int) = k
  · have hi : allIn n ms = false := by cases h : allIn n ms with | false => rfl | true => exact absurd ⟨hk, h⟩ h2
    have HE := fun w hM => l04Elements_any m P n hF b2 l2 cap2 ms w hM
    rw [hi] at HE
    replace HE := Lib.hid HE
    clear h2 hi
    go_enter Tryd.func13, Tryd.ntmps13
    go_wp2_with fail
    refine HS.out.mono ?_
    rintro e w1 ⟨rfl, hb⟩
    have hb1 := hb0.trans (hb.mono hb0.size)
    have hX1 := HX.out.next hb
    have x0 := hX1.c0; have x1 := hX1.c1; have x3 := hX1.c3
    have HM21 := Lib.hid (HM2.out.below hb)
    clear hb hb0 hX1
    go_wp2_with fail
    refine (HE.out _ HM21.out).mono ?_
    rintro e w2 ⟨rfl, hb⟩
    have hb2 := hb1.trans (hb.mono hb1.size)
    have hba := below_alloc1 w2 (.cells #[] 2)
    clear hb hb1 x0 x1 x3
    go_wp2_with fail
    go_ret2
    exact ⟨_, rfl, hb2.trans (hba.mono hb2.size), ((OL.startE (W := w2) (B := w.heap.size) hb2.size).res (by omega) (Nat.le_refl _))⟩
  · clear h2
    go_enter Tryd.func13, Tryd.ntmps13
    go_wp2_with fail
    refine HS.out.mono ?_
    rintro e w1 ⟨rfl, hb⟩
    have hb1 := hb0.trans (hb.mono hb0.size)
    have hX1 := HX.out.next hb
    have x0 := hX1.c0; have x1 := hX1.c1; have x3 := hX1.c3
    have hba := below_alloc1 w1 (.cells #[] 2)
    clear hb hb0 hX1
    go_wp2_with fail
    go_ret2
    exact ⟨_, rfl, hb1.trans (hba.mono hb1.size), ((OL.startE (W := w1) (B := w.heap.size) hb1.size).res (by omega) (Nat.le_refl _))⟩

set_option maxHeartbeats 1600000 in
theorem specEncodeGabidulin_C (m P n : Nat) (hF : Fld m P n) (k : Int) (b len cap : Nat) (zs : List Int) (b2 l2 cap2 : Nat) (ms : List Int) (w : World) (hM : Mt w b len zs) (hM2 : Mt w b2 l2 ms) (hg : gabB n zs k = true) (hk : (l2 : Int) = k) (hi : allIn n ms = true) :
    Calls Tryd.prog 13 #[.agg (gabC m P (.slice (some ⟨b, 0, none⟩) len cap) k), .slice (some ⟨b2, 0, none⟩) l2 cap2] w fun e w' => ∃ v, e = .returned (.tuple #[v, .int .i64 0]) ∧ Below w.heap.size w w' ∧ Res w' w.heap.size w'.heap.size v (ints (encW P (nats zs) (nats ms) len)) := by
  have hlen := hM.len
  have hb0 := below_alloc1 w (.cells (gabC m P (.slice (some ⟨b, 0, none⟩) len cap) k) 31)
  have hX0 := Box4.one w (.int .i64 m) (.int .i64 P) (.slice (some ⟨b, 0, none⟩) len cap) (.int .i64 k) 31
  have HS := Lib.hid (l05Ok_any m P w.heap.size b len cap k zs _ hX0 (hM.below hb0) true (by rw [gabF_yes hF]; exact hg))
  have HX := Lib.hid hX0
  have HM := Lib.hid (hM.below hb0)
  have HM2 := Lib.hid (hM2.below hb0)
  obtain ⟨g1, g2, g3, g4⟩ := gabB_yes hg
  have h5 := okW_len g1
  have HE := fun w hM => l04Elements_any m P n hF b2 l2 cap2 ms w hM
  rw [hi] at HE
  replace HE := Lib.hid HE
  have HWD := Lib.hid (fun W hX hM hM2 => l05Word_any m P n hF w.heap.size b len cap k zs (okW_in g1) (by omega) b2 l2 cap2 ms hi (by omega) W hX hM hM2)
  have hl5 : len ≤ 5 := by omega
  clear hX0 hg hi g1 g2 hlen
  go_enter Tryd.func13, Tryd.ntmps13
  go_wp2_with fail
  refine HS.out.mono ?_
  rintro e w1 ⟨rfl, hb⟩
  have hb1 := hb0.trans (hb.mono hb0.size)
  have hX1 := HX.out.next hb
  have x0 := hX1.c0; have x1 := hX1.c1; have x3 := hX1.c3
  have HM11 := Lib.hid (HM.out.below hb)
  have HM21 := Lib.hid (HM2.out.below hb)
  have HX1 := Lib.hid hX1
  clear hb hb0 hX1
  go_wp2_with fail
  refine (HE.out _ HM21.out).mono ?_
  rintro e w2 ⟨rfl, hb⟩
  have hb2 := hb1.trans (hb.mono hb1.size)
  have HX2 := Lib.hid (HX1.out.next hb)
  have HM12 := Lib.hid (HM11.out.below hb)
  have HM22 := Lib.hid (HM21.out.below hb)
  have HB2 := Lib.hid hb2
  clear hb hb1 hb2 x0 x1 x3
  go_wp2_with fail
  refine (HWD.out _ HX2.out HM12.out HM22.out).mono ?_
  rintro e w3 ⟨D, cd, rfl, hb, hO⟩
  have HB3 := Lib.hid (HB2.out.trans (hb.mono HB2.out.size))
  have HO := Lib.hid (hO.res (by omega) (B' := w.heap.size) HB2.out.size)
  clear hb hO
  go_wp2_with fail
  go_ret2
  exact ⟨_, rfl, HB3.out, HO.out⟩

set_option maxHeartbeats 1600000 in
theorem implEncodeGabidulin_A (d p k : Int) (b len cap : Nat) (zs : List Int) (v : Value) (w : World) (hl : -9223372036854775808 ≤ p) (hh : p ≤ 9223372036854775807) (hM : Mt w b len zs) (hT : Tab w) (hg : gabF d p zs k = false) :
    Calls Tryd.prog 15 #[.agg (gabC d p (.slice (some ⟨b, 0, none⟩) len cap) k), v] w fun e w' => ∃ v, e = .returned (.tuple #[v, .int .i64 1]) ∧ Below w.heap.size w w' ∧ Res w' w.heap.size w'.heap.size v [] := by
  have hb0 := below_alloc1 w (.cells (gabC d p (.slice (some ⟨b, 0, none⟩) len cap) k) 31)
  have HS := Lib.hid (fun w hM hT => pointCoderFor_no d p b len cap zs k hg hl hh w hM hT)
  have HM := Lib.hid (hM.below hb0)
  have HT := Lib.hid (hT.below hb0)
  clear hg hM hT
  go_enter Tryd.func15, Tryd.ntmps15
  go_wp2_with fail
  refine (HS.out _ HM.out HT.out).mono ?_
  rintro e w1 ⟨rfl, hb⟩
  go_wp2_with fail
  go_ret2
  exact ⟨_, rfl, hb0.trans (hb.mono hb0.size), .nil none 0⟩

set_option maxHeartbeats 3200000 in
theorem implEncodeGabidulin_B (m P n : Nat) (hF : Fld m P n) (k : Int) (b len cap : Nat) (zs : List Int) (b2 l2 cap2 : Nat) (ms : List Int) (w : World) (hM : Mt w b len zs) (hM2 : Mt w b2 l2 ms) (hT : Tab w) (hg : gabB n zs k = true) (h2 : (l2 : Int) ≠ k ∨ allIn n ms = false) :
    Calls Tryd.prog 15 #[.agg (gabC m P (.slice (some ⟨b, 0, none⟩) len cap) k), .slice (some ⟨b2, 0, none⟩) l2 cap2] w fun e w' => ∃ v, e = .returned (.tuple #[v, .int .i64 2]) ∧ Below w.heap.size w w' ∧ Res w' w.heap.size w'.heap.size v [] := by
  have hb0 := below_alloc1 w (.cells (gabC m P (.slice (some ⟨b, 0, none⟩) len cap) k) 31)
  have HS := Lib.hid (fun w hM hT => pointCoderFor_yes m P n hF b len cap zs k hg w hM hT)
  have HM := Lib.hid (hM.below hb0)
  have HM2 := Lib.hid (hM2.below hb0)
  have HT := Lib.hid (hT.below hb0)
  have HWN := Lib.hid (fun c W hM hD => word_no c m P n hF b2 l2 cap2 ms k W hM hD h2)
  clear hg hM hT hM2 h2
  go_enter Tryd.func15, Tryd.ntmps15
  go_wp2_with fail
  refine (HS.out _ HM.out HT.out).mono ?_
  rintro e w1 ⟨q, c, g, rfl, hb, hP⟩
  have hb1 := hb0.trans (hb.mono hb0.size)
  have c0 := hP.c0; have c2 := hP.c2
  have HM21 := Lib.hid (HM2.out.below (hb.trans ((Below.refl _ w1).drew.mono hb.size)))
  have HD := Lib.hid (show w1.drew.cell? ⟨c, 0, none⟩ = some (.int .i64 m) from hP.cal.deg)
  have HB1 := Lib.hid hb1.drew
  clear hb hb1 hP
  go_wp2_with fail
  go_region_law (go_simp; go_wp2_with (go_at_call 29; refine (HWN.out c _ HM21.out HD.out).mono ?_; rintro e w2 ⟨rfl, rfl⟩))
  all_goals
    go_wp2_with fail
    go_ret2
    exact ⟨_, rfl, HB1.out, .nil none 0⟩

set_option maxHeartbeats 3200000 in
theorem implEncodeGabidulin_C (m P n : Nat) (hF : Fld m P n) (k : Int) (b len cap : Nat) (zs : List Int) (b2 l2 cap2 : Nat) (ms : List Int) (w : World) (hM : Mt w b len zs) (hM2 : Mt w b2 l2 ms) (hT : Tab w) (hg : gabB n zs k = true) (hk : (l2 : Int) = k) (hi : allIn n ms = true) :
    Calls Tryd.prog 15 #[.agg (gabC m P (.slice (some ⟨b, 0, none⟩) len cap) k), .slice (some ⟨b2, 0, none⟩) l2 cap2] w fun e w' => ∃ v, e = .returned (.tuple #[v, .int .i64 0]) ∧ Below w.heap.size w w' ∧ Res w' w.heap.size w'.heap.size v (ints (encW P (nats zs) (nats ms) len)) := by
  have h32 := hF.n32
  have hn0 : 0 < n := by have := hF.n2; omega
  have hlen := hM.len
  obtain ⟨g1, g2, g3, g4⟩ := gabB_yes hg
  have h5 := okW_len g1
  have hLz := nats_lt (okW_in g1) hn0
  have hLm := nats_lt hi hn0
  subst hk
  have hb0 := below_alloc1 w (.cells (gabC m P (.slice (some ⟨b, 0, none⟩) len cap) (l2 : Int)) 31)
  have HS := Lib.hid (fun w hM hT => pointCoderFor_yes m P n hF b len cap zs l2 hg w hM hT)
  have HM := Lib.hid (hM.below hb0)
  have HM2 := Lib.hid (hM2.below hb0)
  have HT := Lib.hid (hT.below hb0)
  have HWY := Lib.hid (fun c W hM hD => word_yes c m P n hF b2 l2 cap2 ms W hM hD hi)
  have HEN := Lib.hid (fun q c g G W hP hR => encoded_any q c g m P n len (l2 : Int) (nats zs) hF hLz (by omega) (some ⟨G, 0, none⟩) l2 l2 (nats ms) hLm (by omega) W hP hR)
  have HEL := Lib.hid (fun j => show nth (encW P (nats zs) (nats ms) len) j < 256 by
    by_cases hj : j < len
    · rw [encW, lst_nth _ hj]; have := vl_lt hF (nats ms) (nth (nats zs) j); omega
    · rw [nth_ge (by rw [encW_len]; omega)]; omega)
  have HNU := Lib.hid (fun G W hR => numbersOf_any (some ⟨G, 0, none⟩) len len (encW P (nats zs) (nats ms) len) (by omega) HEL.out W hR)
  clear hg hM hT hM2 g1 g2 hi hLz hLm
  go_enter Tryd.func15, Tryd.ntmps15
  go_wp2_with fail
  refine (HS.out _ HM.out HT.out).mono ?_
  rintro e w1 ⟨q, c, g, rfl, hb, hP⟩
  have hb1 := hb0.trans (hb.mono hb0.size)
  have c0 := hP.c0; have c2 := hP.c2
  have HM21 := Lib.hid (HM2.out.below (hb.trans ((Below.refl _ w1).drew.mono hb.size)))
  have HD := Lib.hid (show w1.drew.cell? ⟨c, 0, none⟩ = some (.int .i64 m) from hP.cal.deg)
  have HB1 := Lib.hid hb1.drew
  have HPD := Lib.hid (hP.next (Below.refl _ w1).drew)
  clear hb hb1 hP
  go_wp2_with fail
  go_region_law (go_simp; go_wp2_with (go_at_call 29; refine (HWY.out c _ HM21.out HD.out).mono ?_; rintro e w2 ⟨G, rfl, hb, hR⟩; have HP2 := Lib.hid (HPD.out.next hb); have HB2 := Lib.hid (HB1.out.trans (hb.mono HB1.out.size)); have HR2 := Lib.hid hR; clear hb hR))
  all_goals
    go_wp2_with fail
    refine (HEN.out q c g G _ HP2.out HR2.out).mono ?_
    rintro e w3 ⟨G2, rfl, hb, hR⟩
    have HB3 := Lib.hid (HB2.out.trans (hb.mono HB2.out.size))
    have HR3 := Lib.hid hR
    clear hb hR
    go_wp2_with fail
    refine (HNU.out G2 _ HR3.out).mono ?_
    rintro e w4 ⟨b4, rfl, hbb, hb, hM4⟩
    have hs3 := HB3.out.size
    have HB4 := Lib.hid (HB3.out.trans (hb.mono HB3.out.size))
    have HRES := Lib.hid (hM4.res (cap := len) (B := w.heap.size) (by omega))
    clear hb hM4
    go_wp2_with fail
    go_ret2
    exact ⟨_, rfl, HB4.out, HRES.out⟩

theorem specEncodeGabidulin_any (d p k : Int) (b len cap : Nat) (zs : List Int) (b2 l2 cap2 : Nat) (ms : List Int) (w : World) (hM : Mt w b len zs) (hM2 : Mt w b2 l2 ms) :
    Calls Tryd.prog 13 #[.agg (gabC d p (.slice (some ⟨b, 0, none⟩) len cap) k), .slice (some ⟨b2, 0, none⟩) l2 cap2] w fun e w' => ∃ v, e = .returned (.tuple #[v, .int .i64 (fEncodeGabidulin d p zs k ms).2]) ∧ Below w.heap.size w w' ∧ Res w' w.heap.size w'.heap.size v (fEncodeGabidulin d p zs k ms).1 := by
  have hl := hM.len
  have hl2 := hM2.len
  cases hg : gabF d p zs k with
  | false => rw [fEnc_A hg]; exact specEncodeGabidulin_A d p k b len cap zs _ w hM hg
  | true =>
    have hf : fldI d p = true := by cases h : fldI d p with | true => rfl | false => rw [gabF_no h] at hg; cases hg
    obtain ⟨m, P, rfl, rfl, hF⟩ := fldI_nat hf
    have hF := Fld.of hF
    rw [gabF_yes hF] at hg
    by_cases h2 : (ms.length : Int) = k ∧ allIn (2 ^ m) ms = true
    · rw [fEnc_C hF hg h2, hl]; exact specEncodeGabidulin_C m P _ hF k b len cap zs b2 l2 cap2 ms w hM hM2 hg (by rw [← hl2]; exact h2.1) h2.2
    · rw [fEnc_B hF hg h2]; exact specEncodeGabidulin_B m P _ hF k b len cap zs b2 l2 cap2 ms w hM hM2 hg (by rw [← hl2]; exact h2)
theorem implEncodeGabidulin_any (d p k : Int) (b len cap : Nat) (zs : List Int) (b2 l2 cap2 : Nat) (ms : List Int) (w : World) (hlo : -9223372036854775808 ≤ p) (hh : p ≤ 9223372036854775807) (hM : Mt w b len zs) (hM2 : Mt w b2 l2 ms) (hT : Tab w) :
    Calls Tryd.prog 15 #[.agg (gabC d p (.slice (some ⟨b, 0, none⟩) len cap) k), .slice (some ⟨b2, 0, none⟩) l2 cap2] w fun e w' => ∃ v, e = .returned (.tuple #[v, .int .i64 (fEncodeGabidulin d p zs k ms).2]) ∧ Below w.heap.size w w' ∧ Res w' w.heap.size w'.heap.size v (fEncodeGabidulin d p zs k ms).1 := by
  have hl := hM.len
  have hl2 := hM2.len
  cases hg : gabF d p zs k with
  | false => rw [fEnc_A hg]; exact implEncodeGabidulin_A d p k b len cap zs _ w hlo hh hM hT hg
  | true =>
    have hf : fldI d p = true := by cases h : fldI d p with | true => rfl | false => rw [gabF_no h] at hg; cases hg
    obtain ⟨m, P, rfl, rfl, hF⟩ := fldI_nat hf
    have hF := Fld.of hF
    rw [gabF_yes hF] at hg
    by_cases h2 : (ms.length : Int) = k ∧ allIn (2 ^ m) ms = true
    · rw [fEnc_C hF hg h2, hl]; exact implEncodeGabidulin_C m P _ hF k b len cap zs b2 l2 cap2 ms w hM hM2 hT hg (by rw [← hl2]; exact h2.1) h2.2
    · rw [fEnc_B hF hg h2]; exact implEncodeGabidulin_B m P _ hF k b len cap zs b2 l2 cap2 ms w hM hM2 hT hg (by
        by_cases e : (l2 : Int) = k
        · refine .inr ?_
          cases h : allIn (2 ^ m) ms with
          | false => rfl
          | true => exact absurd ⟨by rw [hl2]; exact e, h⟩ h2
        · exact .inl e)
end Go.Proofs.YtcdhdgflgdmhdaaDoor
