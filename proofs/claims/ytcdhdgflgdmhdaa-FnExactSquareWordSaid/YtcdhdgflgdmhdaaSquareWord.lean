/- SquareWord: the program and the model. -/
import Derived.Test.YtcdhdgflgdmhdaaSquarer
import Derived.Test.YtcdhdgflgdmhdaaWords
import Derived.Test.YtcdhdgflgdmhdaaTimes
import Derived.Test.YtcdhdgflgdmhdaaSquare
import Derived.Test.YtcdhdgflgdmhdaaSv
import Derived.Test.YtcdhdgflgdmhdaaStep
import Derived.Test.YtcdhdgflgdmhdaaMtRes
namespace Go.Proofs.Ytcdhdgflgdmhdaa
open Go.RowKit Go.Joins
set_option linter.unusedVariables false

/-- The squares of the elements of a word. -/
def sqW (P : Nat) (L : List Nat) (s k : Nat) : List Nat := lst (fun j => sq P (nth L j) s) k
theorem sqW_len (P : Nat) (L : List Nat) (s k : Nat) : (sqW P L s k).length = k := lst_length _ _
theorem sqW_succ (P : Nat) (L : List Nat) (s k : Nat) : sqW P L s (k + 1) = sqW P L s k ++ [sq P (nth L k) s] := by simp [sqW, lst, List.range_succ]
theorem OL.startS {W : World} {B : Nat} (hB : B ≤ W.heap.size) : OL (W.alloc (.cells #[] 2)) B (some ⟨W.heap.size, 0, none⟩) 0 0 [] := ⟨rfl, World.ownsRow_made W #[] 0 hB (by unfold maxLen; omega) (by simp)⟩
def fSquareWord (d p : Int) (zs : List Int) (k : Int) : List Int × Int :=
  if fldI d p = false then ([], 1) else if okW (2 ^ d.toNat) zs = false then ([], 2) else if 0 ≤ k ∧ k ≤ 1000 then (ints (sqW p.toNat (nats zs) k.toNat zs.length), 0) else ([], 2)
theorem fSW_A {d p k : Int} {zs : List Int} (h : fldI d p = false) : fSquareWord d p zs k = ([], 1) := by rw [fSquareWord, if_pos h]
theorem fSW_B {m P n : Nat} (hF : Fld m P n) {zs : List Int} {k : Int} (h : okW n zs = false) : fSquareWord m P zs k = ([], 2) := by
  rw [fSquareWord, if_neg (by rw [fldI_of hF.f]; simp), Int.toNat_natCast, hF.n, if_pos h]
theorem fSW_R {m P n : Nat} (hF : Fld m P n) {zs : List Int} {k : Int} (h : okW n zs = true) (hk : ¬ (0 ≤ k ∧ k ≤ 1000)) : fSquareWord m P zs k = ([], 2) := by
  rw [fSquareWord, if_neg (by rw [fldI_of hF.f]; simp), Int.toNat_natCast, hF.n, if_neg (by rw [h]; simp), if_neg hk]
theorem fSW_C {m P n : Nat} (hF : Fld m P n) {zs : List Int} {k : Nat} (h : okW n zs = true) (hk : k ≤ 1000) : fSquareWord m P zs k = (ints (sqW P (nats zs) k zs.length), 0) := by
  rw [fSquareWord, if_neg (by rw [fldI_of hF.f]; simp), Int.toNat_natCast, hF.n, if_neg (by rw [h]; simp), if_pos (by omega)]; rfl

set_option maxRecDepth 100000 in
set_option maxHeartbeats 3200000 in
theorem l05Squared_any (m P n : Nat) (hF : Fld m P n) (b len cap : Nat) (zs : List Int) (hi : allIn n zs = true) (hlen : len ≤ 1000) (s : Nat) (hs : s ≤ 1000) (w : World) (hM : Mt w b len zs) :
    Calls Try.prog 81 #[.agg #[.int .i64 m, .int .i64 P], .slice (some ⟨b, 0, none⟩) len cap, .int .i64 s] w fun e w' => ∃ D cd, e = .returned (.slice D len cd) ∧ Below w.heap.size w w' ∧ OL w' w.heap.size D len cd (sqW P (nats zs) s len) := by
  obtain ⟨i0, hi0, hz0, hz1', hz2⟩ := info_parts Try.infoI
  have h32 := hF.n32
  have hn0 : 0 < n := by have := hF.n2; omega
  have HP := Lib.hid (nats_lt hi hn0)
  have HI := Lib.hid hi
  have HM := Lib.hid hM
  have hA0 := FAt.start w m P 32
  have HA0 := Lib.hid (hA0.alloc (.cells #[] 2))
  have HO0 : Hid (OL ((w.alloc (.cells #[.int .i64 m, .int .i64 P] 32)).alloc (.cells #[] 2)) (w.heap.size + 1) (some ⟨w.heap.size + 1, 0, none⟩) 0 0 []) := Lib.hid (by have := OL.startS (W := w.alloc (.cells #[.int .i64 m, .int .i64 P] 32)) (B := w.heap.size + 1) (by simp); simpa using this)
  clear hM hi hA0
  go_enter Try.func81, Try.ntmps81
  go_wp2_with fail
  go_loopw [7, 8] (fun v i wr => ∃ (j cp : Nat) (D : Option Addr), j ≤ len ∧ i = .int .i64 j ∧ v = .slice D j cp ∧ FAt w m P wr ∧ OL wr (w.heap.size + 1) D j cp (sqW P (nats zs) s j)) (fun _ i _ => len - (intOf i).toNat)
  case atStart => exact ⟨0, 0, _, Nat.zero_le _, rfl, rfl, HA0.out, HO0.out⟩
  case round =>
    obtain ⟨j, cp, D, hj, rfl, rfl, hA, hO⟩ := hrel
    clear HA0 HO0
    have z1 := hA.z; have c0 := hA.c0; have c1 := hA.c1
    by_cases hlt : j < len
    · obtain ⟨g1, e1, hg1, hcr1⟩ := ((HM.out.below hA.b).rl HI.out).row (by omega)
      injection e1 with e1; injection e1 with e1; subst e1
      have hrow := hcr1 j hlt
      clear hcr1
      have hx := HP.out j
      have hts := sqW_succ P (nats zs) s j
      generalize nth (nats zs) j = x at hrow hx hts
      have hsl := sq_lt hF hx s
      have HSX := Lib.hid (fun W => l01Square_any m P n hF x hx s (by omega) W)
      generalize sq P x s = t at hsl hts HSX
      have HTS := Lib.hid hts
      have HOD := Lib.hid (show OL wr.drew (w.heap.size + 1) D j cp (sqW P (nats zs) s j) from hO.drewN 1)
      have HAD := Lib.hid hA.drew
      have hz1w : w.heap.size + 1 ≤ wr.drew.heap.size := z1
      clear hts hA hO
      go_wp2_with fail
      go_region_law (first | (refine step_append_own rfl (.tmp 16) (.tmp 24) 27 rfl (w.heap.size + 1) 2 i0 (.int .i64 0) 1 8 Try.underlying27 hi0 hz0 hz1' hz2 rfl (by decide) (.slice D j cp) j _ (by simp [Act.eval]) (HO1.out.own.alloc _) ⟨w1.heap.size, 0, none⟩ 1 1 [.int .i64 t] (by simp [Act.eval]) rfl (one_new w1 _ _) (one_one _ _) (by unfold maxLen; omega) (by omega) (by simp; omega) ?_; intro v' w2 hown' hgrow; have HG := Lib.hid (And.intro hown' hgrow); clear hown' hgrow) | (go_simp; go_wp2_with (go_at_call 94; refine (HSX.out _).mono ?_; rintro e w1 ⟨rfl, hbm⟩; have HO1 := Lib.hid (HOD.out.below hbm); have HA1 := Lib.hid (HAD.out.next hbm); have z2 := HA1.out.z; clear hbm)))
      all_goals
        obtain ⟨hown', hgrow⟩ := HG.out
        have hb4 : Below (w.heap.size + 1) w1 w2 := ((Below.refl _ w1).alloc (by omega) _).grown hgrow (by simp; omega) (fun g hg => (HO1.out.own.lt g hg).1)
        have HA4 := Lib.hid (show FAt w m P w2 from ⟨HA1.out.b.trans (hb4.mono (by omega)), Nat.le_trans HA1.out.z hb4.size, (hb4.cell (p := ⟨w.heap.size, 0, none⟩) (by simp)).trans HA1.out.c0, (hb4.cell (p := ⟨w.heap.size, 1, none⟩) (by simp)).trans HA1.out.c1⟩)
        obtain ⟨A4, cp4, hv4, hO4⟩ := OL.of (n := j + 1) (p := sqW P (nats zs) s (j + 1)) (by rw [HTS.out, ints_append, List.map_append]; exact hown')
        subst hv4
        have HO4 := Lib.hid hO4
        clear hown' hgrow hO4 hb4 HG z2 hz1w c0 c1 hrow z1
        go_wp2_with fail
        go_roundw
        case rel => exact ⟨j + 1, cp4, A4, by omega, by go_num, rfl, HA4.out, HO4.out⟩
        case measure => simp [intOf]; omega
    · obtain rfl : j = len := by omega
      have HO := Lib.hid hO
      have HB := Lib.hid hA.b
      clear hO hA c0 c1
      go_wp2_with fail
      go_ret
      exact ⟨D, cp, rfl, HB.out, HO.out.less (by omega)⟩

set_option maxHeartbeats 1600000 in
theorem specSquareWord_A (d p k : Int) (hf : fldI d p = false) (v : Value) (w : World) :
    Calls Try.prog 43 #[.agg #[.int .i64 d, .int .i64 p], v, .int .i64 k] w fun e w' => ∃ v, e = .returned (.tuple #[v, .int .i64 1]) ∧ Below w.heap.size w w' ∧ Res w' w.heap.size w'.heap.size v [] := by
  have HF := Lib.hid hf
  clear hf
  go_enter Try.func43, Try.ntmps43
  have h0 := FAt.start w d p 32
  go_wp2_with fail
  refine (l04Given_A d p HF.out _ _).mono ?_
  rintro e w1 ⟨rfl, hb⟩
  have h1 := h0.next hb
  have hba := below_alloc1 w1 (.cells #[] 2)
  clear hb h0
  go_wp2_with fail
  go_ret2
  exact ⟨_, rfl, (h1.next hba).b, ((OL.startS (W := w1) (B := w.heap.size) h1.b.size).res (by omega) (Nat.le_refl _))⟩
set_option maxHeartbeats 1600000 in
theorem specSquareWord_B (m P n : Nat) (hF : Fld m P n) (b len cap : Nat) (zs : List Int) (k : Int) (hok : okW n zs = false) (w : World) (hM : Mt w b len zs) :
    Calls Try.prog 43 #[.agg #[.int .i64 m, .int .i64 P], .slice (some ⟨b, 0, none⟩) len cap, .int .i64 k] w fun e w' => ∃ v, e = .returned (.tuple #[v, .int .i64 2]) ∧ Below w.heap.size w w' ∧ Res w' w.heap.size w'.heap.size v [] := by
  have HO := Lib.hid hok
  have HM := Lib.hid hM
  clear hok hM
  go_enter Try.func43, Try.ntmps43
  have h0 := FAt.start w m P 32
  go_wp2_with fail
  refine (l04Given_any m P n hF b len cap zs false HO.out _ (HM.out.below h0.b)).mono ?_
  rintro e w1 ⟨rfl, hb⟩
  have h1 := h0.next hb
  have hba := below_alloc1 w1 (.cells #[] 2)
  clear hb h0
  go_wp2_with fail
  go_ret2
  exact ⟨_, rfl, (h1.next hba).b, ((OL.startS (W := w1) (B := w.heap.size) h1.b.size).res (by omega) (Nat.le_refl _))⟩
set_option maxHeartbeats 1600000 in
theorem specSquareWord_R (m P n : Nat) (hF : Fld m P n) (b len cap : Nat) (zs : List Int) (k : Int) (hok : okW n zs = true) (hk : ¬ (0 ≤ k ∧ k ≤ 1000)) (w : World) (hM : Mt w b len zs) :
    Calls Try.prog 43 #[.agg #[.int .i64 m, .int .i64 P], .slice (some ⟨b, 0, none⟩) len cap, .int .i64 k] w fun e w' => ∃ v, e = .returned (.tuple #[v, .int .i64 2]) ∧ Below w.heap.size w w' ∧ Res w' w.heap.size w'.heap.size v [] := by
  have HO := Lib.hid hok
  have HM := Lib.hid hM
  have hk' : k < 0 ∨ 1000 < k := by omega
  have HK := Lib.hid (fun w => l00In_no k 0 1000 hk' w)
  clear hok hM hk hk'
  go_enter Try.func43, Try.ntmps43
  have h0 := FAt.start w m P 32
  go_wp2_with fail
  refine (l04Given_any m P n hF b len cap zs true HO.out _ (HM.out.below h0.b)).mono ?_
  rintro e w1 ⟨rfl, hb⟩
  have h1 := h0.next hb
  have hba := below_alloc1 w1 (.cells #[] 2)
  clear hb h0
  go_wp2_with (go_at_call 78; refine (HK.out _).mono ?_; rintro e w' ⟨rfl, rfl⟩)
  go_ret2
  exact ⟨_, rfl, (h1.next hba).b, ((OL.startS (W := w1) (B := w.heap.size) h1.b.size).res (by omega) (Nat.le_refl _))⟩
set_option maxHeartbeats 1600000 in
theorem specSquareWord_C (m P n : Nat) (hF : Fld m P n) (b len cap : Nat) (zs : List Int) (k : Nat) (hok : okW n zs = true) (hk : k ≤ 1000) (w : World) (hM : Mt w b len zs) :
    Calls Try.prog 43 #[.agg #[.int .i64 m, .int .i64 P], .slice (some ⟨b, 0, none⟩) len cap, .int .i64 k] w fun e w' => ∃ v, e = .returned (.tuple #[v, .int .i64 0]) ∧ Below w.heap.size w w' ∧ Res w' w.heap.size w'.heap.size v (ints (sqW P (nats zs) k len)) := by
  have hlz := hM.len
  have h5 := okW_len hok
  have hlen5 : len ≤ 5 := by omega
  have HO := Lib.hid hok
  have HM := Lib.hid hM
  have HK := Lib.hid (fun w => l00In_yes k 0 1000 (by omega) (by omega) w)
  have HSQ := Lib.hid (fun w hM => l05Squared_any m P n hF b len cap zs (okW_in hok) (by omega) k hk w hM)
  clear hok hM
  go_enter Try.func43, Try.ntmps43
  have h0 := FAt.start w m P 32
  go_wp2_with fail
  refine (l04Given_any m P n hF b len cap zs true HO.out _ (HM.out.below h0.b)).mono ?_
  rintro e w1 ⟨rfl, hb⟩
  have h1 := h0.next hb
  have q0 := h1.c0; have q1 := h1.c1
  have HM1 := Lib.hid (HM.out.below h1.b)
  clear hb h0
  go_wp2_with (go_at_call 78; refine (HK.out _).mono ?_; rintro e w' ⟨rfl, rfl⟩)
  refine (HSQ.out _ HM1.out).mono ?_
  rintro e w2 ⟨D, cd, rfl, hb, hO⟩
  have HB := Lib.hid (h1.next hb).b
  have HR := Lib.hid (hO.res (by omega) (B' := w.heap.size) h1.b.size)
  clear hb hO h1 q0 q1
  go_wp2_with fail
  go_ret2
  exact ⟨_, rfl, HB.out, HR.out⟩

set_option maxRecDepth 100000 in
set_option maxHeartbeats 1600000 in
theorem squarer1_any (q : Nat) (F : Nat → Nat) (n : Nat) (hn : n ≤ 32) (hFl : ∀ x, x < n → F x < n) (A : Option Addr) (k cap : Nat) (L : List Nat) (hL : ∀ j, nth L j < n) (hk : k ≤ 1048576) (w : World) (hU : UAt w q F) (hR : Rl w .u8 A k L) :
    Calls Try.prog 124 #[.slice A k cap, .pointer (some ⟨q, 0, none⟩)] w fun e w' => ∃ b, e = .returned (.slice (some ⟨b, 0, none⟩) k k) ∧ Below w.heap.size w w' ∧ Rl w' .u8 (some ⟨b, 0, none⟩) k (lst (fun j => F (nth L j)) k) := by
  obtain ⟨i0, hi, hz0, hz1, hz2⟩ := info_parts Try.infoE
  have HL := Lib.hid hL
  have HR := Lib.hid hR
  have HU := Lib.hid hU
  have HFL := Lib.hid hFl
  clear hR hU hL hFl
  go_enter Try.func124, Try.ntmps124
  go_wp2_with (at_make; refine wpList_make_full _ rfl _ _ 109 rfl w.heap.size 79 i0 (.int .u8 0) 1 Try.underlying109 hi hz0 hz1 .i64 .i64 _ _ k rfl rfl rfl rfl (by rw [hz2]; omega) (by unfold maxLen; omega) (Nat.le_refl _) ?_; intro w1 hown hgrow)
  have hb1 : Below w.heap.size w w1 := (Below.refl _ w).grown hgrow (Nat.le_refl _) (fun k h => by cases h)
  have HW := Lib.hid (Wr.made (K := .u8) hown)
  have HB := Lib.hid hb1
  clear hown hgrow hz0 hz1 hz2 hi hb1
  go_loopw [5, 6, 12] (fun _ _ i wr => ∃ (j : Nat) (G : Nat → Nat), j ≤ k ∧ i = .int .i64 j ∧ Below w.heap.size w wr ∧ Wr wr .u8 w.heap.size k G ∧ Hid (∀ i, i < j → G i = F (nth L i))) (fun _ _ i _ => k - (intOf i).toNat)
  case atStart => exact ⟨0, _, Nat.zero_le _, rfl, HB.out, HW.out, Lib.hid (fun j hj => by omega)⟩
  case round =>
    obtain ⟨j, G, hj, rfl, hb, hW, HI⟩ := hrel
    clear HW HB
    by_cases hlt : j < k
    · obtain ⟨g, rfl, hg, hc⟩ := (HR.out.below hb).row (by omega)
      have hck := hc j hlt
      clear hc
      have hx := HL.out j
      obtain ⟨x, hxe⟩ : ∃ x, nth L j = x := ⟨_, rfl⟩
      rw [hxe] at hck hx
      have HX := Lib.hid hxe
      clear hxe
      have hcu := (HU.out.below hb).cell x (by omega)
      have hx32 : (x : Int) < 32 := by omega
      have hcw := hW.cell j hlt
      have hfw := hW.free j
      have HB2 := Lib.hid hb
      have HW2 := Lib.hid hW
      clear hb hW
      go_wp2_with fail
      go_roundw
      case rel => exact ⟨j + 1, _, by omega, by go_num, below_set HB2.out _ _ (Nat.le_refl _) _, HW2.out.set j hlt _, Lib.hid (fun i hi => by
        simp only [put]
        by_cases e : i = j
        · subst e; rw [if_pos rfl, HX.out]
        · rw [if_neg e]; exact HI.out i (by omega))⟩
      case measure => simp [intOf]; omega
    · obtain rfl : j = k := by omega
      have HB2 := Lib.hid hb
      have HW2 := Lib.hid hW
      clear hb hW
      go_wp2
      go_ret
      refine ⟨_, rfl, HB2.out, ?_⟩
      have h1 := HW2.out.rl
      rwa [show lst G j = lst (fun j => F (nth L j)) j from lst_congr fun i hi => HI.out i hi] at h1

set_option maxHeartbeats 1600000 in
theorem implSquareWord_A (d p k : Int) (hf : fldI d p = false) (hl : -9223372036854775808 ≤ p) (hh : p ≤ 9223372036854775807) (v : Value) (w : World) :
    Calls Try.prog 44 #[.agg #[.int .i64 d, .int .i64 p], v, .int .i64 k] w fun e w' => ∃ v, e = .returned (.tuple #[v, .int .i64 1]) ∧ Below w.heap.size w w' ∧ Res w' w.heap.size w'.heap.size v [] := by
  have HF := Lib.hid hf
  have hb0 := below_alloc1 w (.cells #[.int .i64 d, .int .i64 p] 32)
  clear hf
  go_enter Try.func44, Try.ntmps44
  go_wp2_with fail
  refine (wordFor_A d p HF.out hl hh _ _).mono ?_
  rintro e w1 ⟨rfl, hb⟩
  go_wp2_with fail
  go_ret2
  exact ⟨_, rfl, hb0.trans (hb.mono hb0.size), .nil none 0⟩
set_option maxHeartbeats 1600000 in
theorem implSquareWord_B (m P n : Nat) (hF : Fld m P n) (b len cap : Nat) (zs : List Int) (k : Int) (hok : okW n zs = false) (w : World) (hM : Mt w b len zs) :
    Calls Try.prog 44 #[.agg #[.int .i64 m, .int .i64 P], .slice (some ⟨b, 0, none⟩) len cap, .int .i64 k] w fun e w' => ∃ v, e = .returned (.tuple #[v, .int .i64 2]) ∧ Below w.heap.size w w' ∧ Res w' w.heap.size w'.heap.size v [] := by
  have HO := Lib.hid hok
  have hb0 := below_alloc1 w (.cells #[.int .i64 m, .int .i64 P] 32)
  have HM := Lib.hid (hM.below hb0)
  clear hok hM
  go_enter Try.func44, Try.ntmps44
  go_wp2_with fail
  refine (wordFor_B m P n hF b len cap zs _ HM.out HO.out).mono ?_
  rintro e w1 ⟨rfl, hb⟩
  go_wp2_with fail
  go_ret2
  exact ⟨_, rfl, hb0.trans (hb.mono hb0.size), .nil none 0⟩
set_option maxHeartbeats 1600000 in
theorem implSquareWord_R (m P n : Nat) (hF : Fld m P n) (b len cap : Nat) (zs : List Int) (k : Int) (hok : okW n zs = true) (hk : ¬ (0 ≤ k ∧ k ≤ 1000)) (w : World) (hM : Mt w b len zs) :
    Calls Try.prog 44 #[.agg #[.int .i64 m, .int .i64 P], .slice (some ⟨b, 0, none⟩) len cap, .int .i64 k] w fun e w' => ∃ v, e = .returned (.tuple #[v, .int .i64 2]) ∧ Below w.heap.size w w' ∧ Res w' w.heap.size w'.heap.size v [] := by
  have HO := Lib.hid hok
  have hb0 := below_alloc1 w (.cells #[.int .i64 m, .int .i64 P] 32)
  have HM := Lib.hid (hM.below hb0)
  have hk' : k < 0 ∨ 1000 < k := by omega
  have HK := Lib.hid (fun w => isTimes_no k hk' w)
  clear hok hM hk hk'
  go_enter Try.func44, Try.ntmps44
  go_wp2_with fail
  refine (wordFor_C m P n hF b len cap zs _ HM.out HO.out).mono ?_
  rintro e w1 ⟨c, g, rfl, hb, hC, hR⟩
  go_wp2_with (go_at_call 82; refine (HK.out _).mono ?_; rintro e w' ⟨rfl, rfl⟩)
  go_ret2
  exact ⟨_, rfl, hb0.trans (hb.mono hb0.size), .nil none 0⟩
set_option maxHeartbeats 3200000 in
theorem implSquareWord_C (m P n : Nat) (hF : Fld m P n) (b len cap : Nat) (zs : List Int) (k : Nat) (hok : okW n zs = true) (hk : k ≤ 1000) (w : World) (hM : Mt w b len zs) :
    Calls Try.prog 44 #[.agg #[.int .i64 m, .int .i64 P], .slice (some ⟨b, 0, none⟩) len cap, .int .i64 k] w fun e w' => ∃ v, e = .returned (.tuple #[v, .int .i64 0]) ∧ Below w.heap.size w w' ∧ Res w' w.heap.size w'.heap.size v (ints (sqW P (nats zs) k len)) := by
  have h32 := hF.n32
  have hn0 : 0 < n := by have := hF.n2; omega
  have hlz := hM.len
  have h5 := okW_len hok
  have hL := nats_lt (okW_in hok) hn0
  have hlen5 : len ≤ 5 := by omega
  have HO := Lib.hid hok
  have HLT := Lib.hid hL
  have hb0 := below_alloc1 w (.cells #[.int .i64 m, .int .i64 P] 32)
  have HM := Lib.hid (hM.below hb0)
  have HK := Lib.hid (fun w => isTimes_yes k (by omega) (by omega) w)
  have HSQ := Lib.hid (fun c w hC => squarer_any c m P n hF k hk w hC)
  clear hok hM
  go_enter Try.func44, Try.ntmps44
  go_wp2_with fail
  refine (wordFor_C m P n hF b len cap zs _ HM.out HO.out).mono ?_
  rintro e w1 ⟨c, g, rfl, hb, hC, hR⟩
  have HB1 := Lib.hid (hb0.trans (hb.mono hb0.size))
  have HC1 := Lib.hid hC
  have HR1 := Lib.hid hR
  clear hb hb0 hC hR
  go_wp2_with (go_at_call 82; refine (HK.out _).mono ?_; rintro e w' ⟨rfl, rfl⟩)
  refine (HSQ.out c _ HC1.out).mono ?_
  rintro e w2 ⟨q, F, rfl, hb, hU, hFx⟩
  have HB2 := Lib.hid (HB1.out.trans (hb.mono HB1.out.size))
  have HR2 := Lib.hid (HR1.out.below hb)
  have HU2 := Lib.hid hU
  have HFX := Lib.hid hFx
  clear hb hU hFx
  go_wp2_with fail
  refine (squarer1_any q F n h32 (fun x hx => by rw [HFX.out x hx]; exact sq_lt hF hx k) _ len len (nats zs) HLT.out (by omega) _ HU2.out HR2.out).mono ?_
  rintro e w3 ⟨b3, rfl, hb, hR3⟩
  have e3 : lst (fun j => F (nth (nats zs) j)) len = sqW P (nats zs) k len := lst_congr fun j hj => HFX.out _ (HLT.out j)
  rw [e3] at hR3
  have HB3 := Lib.hid (HB2.out.trans (hb.mono HB2.out.size))
  have HR3 := Lib.hid hR3
  have H256 := Lib.hid (fun j => show nth (sqW P (nats zs) k len) j < 256 by
    by_cases hj : j < len
    · rw [sqW, lst_nth _ hj]; have := sq_lt hF (HLT.out j) k; omega
    · rw [nth_ge (by rw [sqW_len]; omega)]; omega)
  clear hb hR3 e3
  go_wp2_with fail
  refine (numbersOf_any _ len len _ (by omega) H256.out _ HR3.out).mono ?_
  rintro e w4 ⟨b4, rfl, hbb, hb, hM4⟩
  have hs3 := HB3.out.size
  have HB4 := Lib.hid (HB3.out.trans (hb.mono HB3.out.size))
  have HRES := Lib.hid (hM4.res (cap := len) (B := w.heap.size) (by omega))
  clear hb hM4
  go_wp2_with fail
  go_ret2
  exact ⟨_, rfl, HB4.out, HRES.out⟩

theorem specSquareWord_any (d p : Int) (b len cap : Nat) (zs : List Int) (k : Int) (w : World) (hM : Mt w b len zs) :
    Calls Try.prog 43 #[.agg #[.int .i64 d, .int .i64 p], .slice (some ⟨b, 0, none⟩) len cap, .int .i64 k] w fun e w' => ∃ v, e = .returned (.tuple #[v, .int .i64 (fSquareWord d p zs k).2]) ∧ Below w.heap.size w w' ∧ Res w' w.heap.size w'.heap.size v (fSquareWord d p zs k).1 := by
  have hl := hM.len
  cases hf : fldI d p with
  | false => rw [fSW_A hf]; exact specSquareWord_A d p k hf _ w
  | true =>
    obtain ⟨m, P, rfl, rfl, hF⟩ := fldI_nat hf
    have hF := Fld.of hF
    cases hok : okW (2 ^ m) zs with
    | false => rw [fSW_B hF hok]; exact specSquareWord_B m P _ hF b len cap zs k hok w hM
    | true =>
      by_cases hk : 0 ≤ k ∧ k ≤ 1000
      · obtain ⟨k, rfl⟩ := Int.eq_ofNat_of_zero_le hk.1
        rw [fSW_C hF hok (by omega), hl]; exact specSquareWord_C m P _ hF b len cap zs k hok (by omega) w hM
      · rw [fSW_R hF hok hk]; exact specSquareWord_R m P _ hF b len cap zs k hok hk w hM
theorem implSquareWord_any (d p : Int) (b len cap : Nat) (zs : List Int) (k : Int) (w : World) (hlo : -9223372036854775808 ≤ p) (hh : p ≤ 9223372036854775807) (hM : Mt w b len zs) :
    Calls Try.prog 44 #[.agg #[.int .i64 d, .int .i64 p], .slice (some ⟨b, 0, none⟩) len cap, .int .i64 k] w fun e w' => ∃ v, e = .returned (.tuple #[v, .int .i64 (fSquareWord d p zs k).2]) ∧ Below w.heap.size w w' ∧ Res w' w.heap.size w'.heap.size v (fSquareWord d p zs k).1 := by
  have hl := hM.len
  cases hf : fldI d p with
  | false => rw [fSW_A hf]; exact implSquareWord_A d p k hf hlo hh _ w
  | true =>
    obtain ⟨m, P, rfl, rfl, hF⟩ := fldI_nat hf
    have hF := Fld.of hF
    cases hok : okW (2 ^ m) zs with
    | false => rw [fSW_B hF hok]; exact implSquareWord_B m P _ hF b len cap zs k hok w hM
    | true =>
      by_cases hk : 0 ≤ k ∧ k ≤ 1000
      · obtain ⟨k, rfl⟩ := Int.eq_ofNat_of_zero_le hk.1
        rw [fSW_C hF hok (by omega), hl]; exact implSquareWord_C m P _ hF b len cap zs k hok (by omega) w hM
      · rw [fSW_R hF hok hk]; exact implSquareWord_R m P _ hF b len cap zs k hok hk w hM
end Go.Proofs.Ytcdhdgflgdmhdaa
