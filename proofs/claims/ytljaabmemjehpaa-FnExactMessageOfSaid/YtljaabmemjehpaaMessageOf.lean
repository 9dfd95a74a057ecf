/- The message of a word by a code: the model's. -/
import Derived.Test.YtljaabmemjehpaaMessageI
namespace Go.Proofs.Ytljaabmemjehpaa
open Go.RowKit Go.Joins Go.ChangeShapes Go.WideShapes Go.Deep
set_option linter.unusedVariables false
set_option linter.unusedSimpArgs false

set_option maxRecDepth 100000 in
set_option maxHeartbeats 3200000 in
theorem l04Held_inv (d p l : Int) (v : Value) (rows : List (List Int)) (vm : Value) (w : World) (q : Nat) (hX : LB w q (codL d p l v)) (hA : RR w v rows) (hv : fValidCode d p l rows = false) :
    Calls Try.prog 73 #[.pointer (some ⟨q, 0, none⟩), vm] w fun e w' => e = .returned (.int .i64 1) ∧ Below w.heap.size w w' := by
  have S := l04Ok_any d p l v rows w q hX hA
  rw [hv] at S
  have HS := Lib.hid S
  clear S hX hA hv
  go_enter Try.func73, Try.ntmps73
  go_wp2_with fail
  refine HS.out.mono ?_
  rintro e w1 ⟨rfl, hb⟩
  have HB := Lib.hid hb
  clear hb
  go_wp2_with fail
  go_ret
  exact ⟨rfl, HB.out⟩

set_option maxRecDepth 100000 in
set_option maxHeartbeats 3200000 in
theorem l04Held_len (d p l : Int) (v : Value) (rows : List (List Int)) (A1 : Option Addr) (k1 c1 : Nat) (hk : k1 ≤ 1048576) (w : World) (q : Nat) (hX : LB w q (codL d p l v)) (hA : RR w v rows) (hv : fValidCode d p l rows = true) (hl : ¬ ((k1 : Int) = l)) :
    Calls Try.prog 73 #[.pointer (some ⟨q, 0, none⟩), .slice A1 k1 c1] w fun e w' => e = .returned (.int .i64 2) ∧ Below w.heap.size w w' := by
  have S := l04Ok_any d p l v rows w q hX hA
  rw [hv] at S
  have HS := Lib.hid S
  have HX := Lib.hid hX
  clear S hX hA hv
  go_enter Try.func73, Try.ntmps73
  go_wp2_with fail
  refine HS.out.mono ?_
  rintro e w1 ⟨rfl, hb⟩
  have HB := Lib.hid hb
  have x2 := (HX.out.next hb).cell 2 _ rfl
  clear hb
  go_wp2_with fail
  go_ret
  exact ⟨rfl, HB.out⟩

set_option maxRecDepth 100000 in
set_option maxHeartbeats 3200000 in
theorem l04Held_el (m P N len : Nat) (hF : Fld m P N) (v : Value) (rows : List (List Int)) (A1 : Option Addr) (c1 : Nat) (wd : List Int) (w : World) (q : Nat) {B T : Nat} (hX : LB w q (codL m P len v)) (hA : RR w v rows) (hM : Res w B T (.slice A1 len c1) wd) (hv : fValidCode m P len rows = true) :
    Calls Try.prog 73 #[.pointer (some ⟨q, 0, none⟩), .slice A1 len c1] w fun e w' => e = .returned (.int .i64 (if allIn N wd = true then 0 else 2)) ∧ Below w.heap.size w w' := by
  have S := l04Ok_any m P len v rows w q hX hA
  rw [hv] at S
  have HS := Lib.hid S
  have HX := Lib.hid hX
  have HM := Lib.hid hM
  have HE := Lib.hid (fun W a => l04ElementsR m P N hF (v := .slice A1 len c1) wd W a (B := B) (T := T))
  obtain ⟨bl, hbl⟩ : ∃ bl, allIn N wd = bl := ⟨_, rfl⟩
  rw [hbl] at HE ⊢
  clear S hX hA hv hM hbl
  go_enter Try.func73, Try.ntmps73
  go_wp2_with fail
  refine HS.out.mono ?_
  rintro e w1 ⟨rfl, hb⟩
  have HB := Lib.hid hb
  have hX1 := HX.out.next hb
  have x0 := hX1.cell 0 _ rfl; have x1 := hX1.cell 1 _ rfl; have x2 := hX1.cell 2 _ rfl
  have HM1 := Lib.hid (HM.out.next hb)
  clear hb hX1
  cases bl with
  | true =>
    go_wp2_with (go_at_call 64; refine (HE.out _ HM1.out).mono ?_; rintro e w2 ⟨rfl, hb2⟩; have HB2 := Lib.hid (HB.out.trans (hb2.mono HB.out.size)); clear hb2)
    go_ret
    exact ⟨rfl, HB2.out⟩
  | false =>
    go_wp2_with (go_at_call 64; refine (HE.out _ HM1.out).mono ?_; rintro e w2 ⟨rfl, hb2⟩; have HB2 := Lib.hid (HB.out.trans (hb2.mono HB.out.size)); clear hb2)
    go_ret
    exact ⟨rfl, HB2.out⟩

theorem row_lead {m P N len : Nat} (hF : Fld m P N) {rows : List (List Int)} (hok : okS N len rows = true) (hech : echL P N len rows = rows) {k : Nat} (hk : k < rows.length) : ldv (nth (nats (rw' rows k))) len < len := by
  have hE : EchV N len (joinV P N len [] (rowsF rows)) := (joinV_spec hF _ (EchV.nil N len) (okS_vec hF hok)).1
  obtain ⟨J, hJ⟩ : ∃ J, joinV P N len [] (rowsF rows) = J := ⟨_, rfl⟩
  rw [hJ] at hE
  have hL : J.map (fun f => ints (lst f len)) = rows := by rw [← hJ]; exact hech
  have hk2 : k < J.length := by rw [← hL, List.length_map] at hk; exact hk
  have h2 : rw' rows k = ints (lst (J[k]) len) := by rw [rw', ← hL]; simp [List.getD, hk2]
  have hl := hE.ld J[k] (List.getElem_mem hk2)
  rw [h2, nats_ints]
  have e : ldv (nth (lst (J[k]) len)) len = ldv (J[k]) len := ldv_eq hl.1 (by rw [lst_nth _ hl.1, hl.2]; decide) (fun j hj => by rw [lst_nth _ (by have := hl.1; omega)]; exact ldv_low hj)
  rw [e]
  exact hl.1
theorem msgL_succ {len : Nat} {rows : List (List Int)} {wd : List Nat} {k : Nat} : msgL len rows wd (k + 1) = msgL len rows wd k ++ [nth wd (ldv (nth (nats (rw' rows k))) len)] := by simp [msgL, lst, List.range_succ]

set_option maxRecDepth 100000 in
set_option maxHeartbeats 12800000 in
theorem specMessageOf_good (m P N len : Nat) (hN : 2 ^ m = N) (hF : Fld m P N) (hl0 : 0 < len) (hl5 : len ≤ 5) (A : Option Addr) (n cap : Nat) (rows : List (List Int)) (hn : rows.length = n) (h10 : rows.length ≤ 10) (hok : okS N len rows = true) (hv : fValidCode m P len rows = true) (hech : echL P N len rows = rows) (A1 : Option Addr) (c1 : Nat) (wd : List Int) (w : World) {B T : Nat} (hA : RR w (.slice A n cap) rows) (hM : Res w B T (.slice A1 len c1) wd) (hin : allIn N wd = true) :
    Calls Try.prog 24 #[.agg (codL m P len (.slice A n cap)).toArray, .slice A1 len c1] w fun e w' => ∃ v, e = .returned (.tuple #[v, .int .i64 (if encS P len rows (msgL len rows (nats wd) n) n = nats wd then 0 else 6)]) ∧ Below w.heap.size w w' ∧ Res w' w.heap.size w'.heap.size v (if encS P len rows (msgL len rows (nats wd) n) n = nats wd then ints (msgL len rows (nats wd) n) else []) := by
  obtain ⟨i0, hi, hz0, hz1, hz2⟩ := info_parts Try.infoI
  have HH := Lib.hid (fun W a b c => l04Held_el m P N len hF (.slice A n cap) rows A1 c1 wd W w.heap.size (B := B) (T := T) a b c hv)
  rw [hin] at HH
  have hpw : ∀ j, nth (nats wd) j < N := nats_lt hin (by have := hF.n2; omega)
  have HG := Lib.hid (G1.start w (codL m P len (.slice A n cap)) 33)
  have HA := Lib.hid hA
  have HM := Lib.hid hM
  have h10' : n ≤ 10 := by omega
  have HLD := Lib.hid (fun k (hk : k < n) => row_lead hF hok hech (k := k) (by omega))
  have HOK := Lib.hid hok
  have HIN := Lib.hid hin
  have HNN := Lib.hid hn
  have HHH := Lib.hid h10
  clear hv hech hA hM hin hN hn h10
  go_enter Try.func24, Try.ntmps24
  go_wp2_with fail
  refine (HH.out _ HG.out.x (HA.out.next HG.out.b) (HM.out.next HG.out.b)).mono ?_
  simp only [if_true]
  rintro e w1 ⟨rfl, hb⟩
  have HG1 := Lib.hid (HG.out.next hb)
  clear hb
  have hO0 := World.ownsRow_lit (base := w1.heap.size) (e := 2) (size := 1) w1 #[] 0 (Nat.le_refl _) (by unfold maxLen; omega) rfl
  have HO0 := Lib.hid hO0
  have HB0 := Lib.hid (below_alloc1 w1 (.cells #[] 2))
  clear hO0
  go_wp2_with fail
  go_loopw [7, 8] (fun u i wr => ∃ (k : Nat) (ao : Option Addr) (mo co : Nat), u = .slice ao mo co ∧ k ≤ n ∧ i = .int .i64 k ∧ wr.ownsRow w1.heap.size 2 1 (.slice ao mo co) k ((ints (msgL len rows (nats wd) k)).map (Value.int .i64)) ∧ Below w1.heap.size w1 wr) (fun _ i _ => n - (intOf i).toNat)
  case atStart => exact ⟨0, _, _, _, rfl, Nat.zero_le _, rfl, HO0.out, HB0.out⟩
  case round =>
    obtain ⟨k, ao, mo, co, rfl, hk, rfl, hO, hB⟩ := hrel
    clear HO0 HB0
    have hG := HG1.out.next hB
    have hAr := HA.out.next hG.b
    have hMr := HM.out.next hG.b
    have x3 := hG.x.cell 3 _ rfl
    have HO := Lib.hid hO
    have HB := Lib.hid hB
    have HGr := Lib.hid hG
    by_cases hlt : k < n
    · obtain ⟨_, g, rfl, hg, Ak, nk, ck, Bk, Tk, hck, hRk⟩ := hAr.row hlt
      have hld := HLD.out k hlt
      have hrk : (rw' rows k).length = len ∧ allIn N (rw' rows k) = true := by
        have h := okS_get HOK.out (j := k) (by have := HNN.out; omega)
        simp only [okR, Bool.and_eq_true, decide_eq_true_eq] at h
        exact ⟨by have := h.1; omega, h.2⟩
      have hnk : nk = len := by have := hRk.len; omega
      subst hnk
      obtain ⟨t, ht⟩ : ∃ t, ldv (nth (nats (rw' rows k))) nk = t := ⟨_, rfl⟩
      have hlow : ∀ j, j < t → (rw' rows k)[j]?.getD 0 = 0 := fun j hj => by
        rw [nats_nth hrk.2]
        have := ldv_low (f := nth (nats (rw' rows k))) (len := nk) (j := j) (by rw [ht]; exact hj)
        omega
      have hne : ¬ ((rw' rows k)[t]?.getD 0 = 0) := by
        rw [nats_nth hrk.2]
        have := ldv_ne hld
        rw [ht] at this
        omega
      rw [ht] at hld
      have hts := msgL_succ (len := nk) (rows := rows) (wd := nats wd) (k := k)
      rw [ht] at hts
      have hwt := nats_nth HIN.out t
      have hrow : ∀ j, j < nk → ∃ g', Ak = some ⟨g', 0, none⟩ ∧ wr.cell? ⟨g', j, none⟩ = some (.int .i64 ((rw' rows k)[j]?.getD 0)) := fun j hj => by
        obtain ⟨g', e, h⟩ := hRk.at hj
        exact ⟨g', e, h⟩
      obtain ⟨gw, rfl, hcw⟩ := hMr.at hld
      rw [hwt] at hcw
      generalize nth (nats wd) t = x at hcw hts
      have HTS := Lib.hid hts
      have HROW := Lib.hid hrow
      have HLOW := Lib.hid hlow
      have HNE := Lib.hid hne
      have HOD := Lib.hid HO.out
      clear hts hrow hlow hne hwt hrk ht hRk hAr hMr hO hB hG
      go_wp2_with fail
      go_loop [9] (fun i => ∃ j : Nat, j ≤ t ∧ i = .int .i64 j) (fun i => t - (intOf i).toNat)
      case atStart => exact ⟨0, Nat.zero_le _, rfl⟩
      case round =>
        obtain ⟨j, hj, rfl⟩ := hrel
        obtain ⟨g', rfl, hcj⟩ := HROW.out j (by omega)
        have hjl : (j : Int) < (nk : Int) := by omega
        by_cases hjt : j < t
        · have hz := HLOW.out j hjt
          rw [hz] at hcj
          go_wp2_with fail
          go_round
          case rel => exact ⟨j + 1, by omega, by go_num⟩
          case measure => simp [intOf]; omega
        · obtain rfl : j = t := by omega
          have hne := HNE.out
          generalize (rw' rows k)[j]?.getD 0 = y at hcj hne
          go_wp2_with (at_builtin; refine wpList_append_own _ rfl _ _ 27 rfl w1.heap.size 2 i0 (.int .i64 0) 1 8 Try.underlying27 hi hz0 hz1 hz2 rfl (by decide) _ _ _ rfl (HO.out.alloc _) ⟨wr.heap.size, 0, none⟩ 1 1 [.int .i64 x] rfl rfl (one_new _ _ _) (one_one _ _) (by unfold maxLen; omega) (by omega) (by have := HB.out.size; simp; omega) ?_; intro v' w3 hown' hgrow _; have hb3 : Below w1.heap.size wr w3 := ((Below.refl _ wr).alloc HB.out.size _).grown hgrow (by have := HB.out.size; simp; omega) (fun g hg => (HO.out.lt g hg).1); have HO3 := Lib.hid hown'; have HB3 := Lib.hid (HB.out.trans hb3); obtain ⟨g3, cp3, rfl⟩ : ∃ g cp, v' = .slice (some ⟨g, 0, none⟩) (k + 1) cp := (ownsRow_forms HO3.out).resolve_left (fun h => by have := h.2; omega); clear hown' hgrow hb3)
          go_roundw
          case rel => exact ⟨k + 1, _, _, _, rfl, by omega, by go_num, by rw [HTS.out, ints, List.map_append, List.map_append]; exact HO3.out, HB3.out⟩
          case measure => simp [intOf]; omega
    · obtain rfl : k = n := by omega
      have hRes := own_res HO.out (by omega) (Nat.le_refl w1.heap.size)
      have hmo : mo = k := by have := hRes.len; rw [ints_length, msgL, lst_length] at this; omega
      subst hmo
      have hmlt : ∀ i, nth (msgL len rows (nats wd) mo) i < N := fun i => by
        by_cases hi : i < mo
        · rw [msgL, lst_nth _ hi]; exact hpw _
        · have hz : nth (msgL len rows (nats wd) mo) i = 0 := by
            rw [nth, List.getD_eq_getElem?_getD, List.getElem?_eq_none (by rw [msgL, lst_length]; omega)]; rfl
          rw [hz]; have := hF.n2; omega
      obtain ⟨M, hMd⟩ : ∃ M, msgL len rows (nats wd) mo = M := ⟨_, rfl⟩
      rw [hMd] at hRes
      simp only [hMd] at hmlt
      have HMD := Lib.hid hMd
      have hRl := hRes.rl (k := N) (allIn_ints fun j _ => hmlt j)
      rw [nats_ints] at hRl
      have hEn := fun W a b c => l04Encode_any m P N hF len hl0 hl5 (.slice A mo cap) rows HHH.out HOK.out w.heap.size ao co M hmlt W a b c
      rw [HNN.out] at hEn
      have HEN := Lib.hid (hEn wr hG.x hAr hRl)
      have HRES := Lib.hid hRes
      have HMR := Lib.hid hMr
      have hiff : ints (encS P len rows M mo) = wd ↔ encS P len rows M mo = nats wd := ⟨fun h => by rw [← h, nats_ints], fun h => by rw [h, ints_nats HIN.out]⟩
      have HIFF := Lib.hid hiff
      have HL5 := Lib.hid hl5
      have HBW := Lib.hid hG.b
      clear hMd hmlt hRl hEn hRes hMr hAr hG hiff hO hB
      go_wp2_with fail
      refine HEN.out.mono ?_
      rintro e w4 ⟨g4, cd4, rfl, hb4, hg4, hz4, hR4, hf4⟩
      have hS4 : Res w4 wr.heap.size w4.heap.size (.slice (some ⟨g4, 0, none⟩) len cd4) (ints (encS P len rows M mo)) := .row g4 len cd4 _ hg4 hz4 (Nat.le_refl _) (by rw [ints_length]; exact hR4.len) (by have := HL5.out; omega) (fun j hj => by rw [hR4.eltS hj, ints_get]) (fun j _ => hf4 j)
      have HSA := Lib.hid (l00SameR hS4 (HMR.out.next hb4))
      have HB4 := Lib.hid (HBW.out.trans (hb4.mono HBW.out.size))
      have HR4 := Lib.hid (HRES.out.next hb4)
      have HT4 := Lib.hid (Nat.le_trans hb4.size (Nat.le_refl _))
      clear hb4 hg4 hz4 hR4 hf4 hS4
      go_wp2_with fail
      refine HSA.out.mono ?_
      rintro e w5 ⟨rfl, hb5⟩
      have HB5 := Lib.hid (HB4.out.trans (hb5.mono HB4.out.size))
      have HR5 := Lib.hid ((HR4.out.next hb5).wide (B' := w.heap.size) (T' := w5.heap.size) (by have := HG1.out.b.size; omega) (by have := hb5.size; have := HT4.out; omega) (Nat.le_refl _))
      clear hb5
      by_cases hq : encS P len rows M mo = nats wd
      · rw [decide_eq_true (HIFF.out.2 hq)]
        have HQ := Lib.hid (show encS P len rows (msgL len rows (nats wd) mo) mo = nats wd by rw [HMD.out]; exact hq)
        clear hq
        go_wp2_with fail
        all_goals first | (go_ret2; exact ⟨.slice ao mo co, rfl, HB5.out, by rw [HMD.out]; exact HR5.out⟩) | (go_ret2; exact ⟨.slice ao mo co, by rw [if_pos HQ.out]; rfl, HB5.out, by rw [if_pos HQ.out, HMD.out]; exact HR5.out⟩) | exact absurd HQ.out (by assumption)
      · rw [decide_eq_false (fun h => hq (HIFF.out.1 h))]
        have HQ := Lib.hid (show ¬ encS P len rows (msgL len rows (nats wd) mo) mo = nats wd by rw [HMD.out]; exact hq)
        clear hq
        go_wp2_with fail
        all_goals first | (go_ret2; exact ⟨_, rfl, HB5.out.trans ((below_alloc1 _ _).mono HB5.out.size), .nil _ _⟩) | (go_ret2; exact ⟨_, by rw [if_neg HQ.out]; rfl, HB5.out.trans ((below_alloc1 _ _).mono HB5.out.size), by rw [if_neg HQ.out]; exact .nil _ _⟩) | exact absurd (by assumption) HQ.out

set_option maxRecDepth 100000 in
set_option maxHeartbeats 3200000 in
theorem specMessageOf_err (d p l k : Int) (hk : k ≠ 0) (v vm : Value) (w : World) (HC : ∀ W, Below w.heap.size w W → LB W w.heap.size (codL d p l v) → Calls Try.prog 73 #[.pointer (some ⟨w.heap.size, 0, none⟩), vm] W fun e w' => e = .returned (.int .i64 k) ∧ Below W.heap.size W w') :
    Calls Try.prog 24 #[.agg (codL d p l v).toArray, vm] w fun e w' => ∃ v, e = .returned (.tuple #[v, .int .i64 k]) ∧ Below w.heap.size w w' ∧ Res w' w.heap.size w'.heap.size v [] := by
  have HG := Lib.hid (G1.start w (codL d p l v) 33)
  have HCC := Lib.hid HC
  clear HC
  go_enter Try.func24, Try.ntmps24
  go_wp2_with fail
  refine (HCC.out _ HG.out.b HG.out.x).mono ?_
  rintro e w1 ⟨rfl, hb⟩
  have HB := Lib.hid (HG.out.next hb).b
  clear hb
  go_wp2_with fail
  go_ret2
  exact ⟨_, rfl, HB.out.trans ((below_alloc1 _ _).mono HB.out.size), .nil _ _⟩

theorem specMessageOf_any (d p l : Int) (v : Value) (rows : List (List Int)) (vm : Value) (wd : List Int) (w : World) {B T : Nat} (hA : RR w v rows) (hM : Res w B T vm wd) :
    Calls Try.prog 24 #[.agg (codL d p l v).toArray, vm] w fun e w' => ∃ v, e = .returned (.tuple #[v, .int .i64 (fMessageOf d p l rows wd).2]) ∧ Below w.heap.size w w' ∧ Res w' w.heap.size w'.heap.size v (fMessageOf d p l rows wd).1 := by
  obtain ⟨A, cap, rfl⟩ := hA.is
  obtain ⟨A1, k1, c1, rfl⟩ := hM.form
  have hlen := hM.len
  have hsm := hM.small
  cases hv : fValidCode d p l rows with
  | false =>
    have e : fMessageOf d p l rows wd = ([], 1) := by rw [fMessageOf, if_pos hv]
    rw [e]
    exact specMessageOf_err d p l 1 (by decide) _ _ w (fun W hb hX => l04Held_inv d p l _ rows _ W w.heap.size hX (hA.next hb) hv)
  | true =>
    have h0 := valid_zero hv
    obtain ⟨m, P, N, len, rfl, rfl, rfl, hN, hF, hl0, hl5, h10, hok⟩ := cRows_zero h0
    have hech : echL P N len rows = rows := by rw [fValidCode_yes hN h0] at hv; exact of_decide_eq_true hv
    by_cases hk : (k1 : Int) = (len : Int)
    · obtain rfl : k1 = len := by omega
      cases hin : allIn N wd with
      | true =>
        have e : fMessageOf m P k1 rows wd = if encS P k1 rows (msgL k1 rows (nats wd) rows.length) rows.length = nats wd then (ints (msgL k1 rows (nats wd) rows.length), 0) else ([], 6) := by
          rw [fMessageOf, if_neg (by rw [hv]; simp), if_neg (by rw [Int.toNat_natCast, hN, hin]; intro h; exact h ⟨by omega, rfl⟩), Int.toNat_natCast, Int.toNat_natCast]
        rw [e]
        refine (specMessageOf_good m P N k1 hN hF hl0 hl5 A _ cap rows rfl h10 hok hv hech A1 c1 wd w hA hM hin).mono ?_
        rintro e w' ⟨v, rfl, hb, hR⟩
        split at hR
        · rename_i h
          refine ⟨v, by simp only [if_pos h], hb, ?_⟩
          simp only [if_pos h]
          exact hR
        · rename_i h
          refine ⟨v, by simp only [if_neg h], hb, ?_⟩
          simp only [if_neg h]
          exact hR
      | false =>
        have e : fMessageOf m P k1 rows wd = ([], 2) := by
          rw [fMessageOf, if_neg (by rw [hv]; simp), if_pos (by rw [Int.toNat_natCast, hN, hin]; intro h; cases h.2)]
        rw [e]
        refine specMessageOf_err m P k1 2 (by decide) _ _ w (fun W hb hX => ?_)
        have := l04Held_el m P N k1 hF (.slice A rows.length cap) rows A1 c1 wd W w.heap.size hX (hA.next hb) (hM.next hb) hv
        rw [hin] at this
        exact this
    · have e : fMessageOf m P len rows wd = ([], 2) := by
        rw [fMessageOf, if_neg (by rw [hv]; simp), if_pos (by intro h; exact hk (by have := h.1; omega))]
      rw [e]
      exact specMessageOf_err m P len 2 (by decide) _ _ w (fun W hb hX => l04Held_len m P len _ rows A1 k1 c1 (by omega) W w.heap.size hX (hA.next hb) hv hk)
end Go.Proofs.Ytljaabmemjehpaa
