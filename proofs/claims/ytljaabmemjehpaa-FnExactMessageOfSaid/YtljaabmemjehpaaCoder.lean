/- Words over a field: the program's checks, over rows that calls have made. · A coder of rows: the program's. -/
import Derived.Test.YtljaabmemjehpaaEchF
import Derived.Test.YtljaabmemjehpaaHasAll
import Derived.Test.YtljaabmemjehpaaIn
import Derived.Test.YtljaabmemjehpaaMake
import Derived.Test.YtljaabmemjehpaaSpanI
namespace Go.Proofs.Ytljaabmemjehpaa
open Go.RowKit Go.Joins
set_option linter.unusedVariables false

theorem Res.arg {W : World} {B T : Nat} {A : Option Addr} {n cap : Nat} {zs : List Int} (h : Res W B T (.slice A n cap) zs) : Arg W A n zs :=
  ⟨h.len, by have := h.small; have := h.len; omega, fun h0 => by
    obtain ⟨g, rfl, hc⟩ := h.at h0
    refine ⟨⟨g, 0, none⟩, rfl, block_of_cell hc, fun j hj => ?_⟩
    obtain ⟨g', e, hc'⟩ := h.at hj
    injection e with e; injection e with e
    rw [Addr.add_lit, Nat.zero_add, e]; exact hc'⟩

set_option maxHeartbeats 1600000 in
theorem elementsR_any (b len cap n : Nat) (p : List Nat) (hn0 : 0 < n) (hn : n ≤ 256) (hsm : len ≤ 1048576) (w : World) (hlt : ∀ j, nth p j < n) (hR : Rl w .i64 (some ⟨b, 0, none⟩) len p) :
    Calls Try.prog 116 #[.slice (some ⟨b, 0, none⟩) len cap] w fun e w' => ∃ g, e = .returned (.slice (some ⟨g, 0, none⟩) len len) ∧ Below w.heap.size w w' ∧ Rl w' .u8 (some ⟨g, 0, none⟩) len p := by
  obtain ⟨i0, hi, hz0, hz1, hz2⟩ := info_parts Try.infoE
  have hlen := hR.len
  have HP := Lib.hid hlt
  have HR := Lib.hid hR
  clear hlt hR
  go_enter Try.func116, Try.ntmps116
  go_wp2_with (first | (at_make; refine wpList_make_full _ rfl _ _ 95 rfl w.heap.size 109 i0 (.int .u8 0) 1 Try.underlying95 hi hz0 hz1 .i64 .i64 _ _ len rfl rfl rfl rfl (by rw [hz2]; omega) (by unfold maxLen; omega) (Nat.le_refl _) ?_; intro w1 hown hgrow; have hb1 : Below w.heap.size w w1 := (Below.refl _ w).grown hgrow (Nat.le_refl _) (fun k h => by cases h); have HW := Lib.hid (Wr.made (K := .u8) hown); have HB := Lib.hid hb1; clear hown hgrow hb1))
  go_loopw [11] (fun i wr => ∃ (k : Nat) (F : Nat → Nat), k ≤ len ∧ i = .int .i64 k ∧ Below w.heap.size w wr ∧ Wr wr .u8 w.heap.size len F ∧ Hid (∀ j, j < k → F j = nth p j)) (fun i _ => len - (intOf i).toNat)
  case atStart => exact ⟨0, _, Nat.zero_le _, rfl, HB.out, HW.out, Lib.hid (fun j hj => by omega)⟩
  case round =>
    obtain ⟨k, F, hk, rfl, hb, hW, HI⟩ := hrel
    clear HW HB
    by_cases hlt : k < len
    · obtain ⟨g, hg1, hg, hc⟩ := (HR.out.below hb).row (by omega)
      injection hg1 with hg1
      injection hg1 with hg1
      subst hg1
      have hck := hc k hlt
      clear hc
      have hx := HP.out k
      obtain ⟨x, hxe⟩ : ∃ x, nth p k = x := ⟨_, rfl⟩
      rw [hxe] at hck hx
      have HX := Lib.hid hxe
      clear hxe
      have hcw := hW.cell k hlt
      have hfw := hW.free k
      have e1 : IntKind.u8.wrap (x : Int) = x := by rw [IntKind.wrap_u8']; omega
      have HB2 := Lib.hid hb
      have HW2 := Lib.hid hW
      clear hb hW
      go_wp2
      go_roundw
      case rel => exact ⟨k + 1, _, by omega, by go_num, below_set HB2.out _ _ (Nat.le_refl _) _, HW2.out.set k hlt x, Lib.hid (fun j hj => by
        simp only [put]
        by_cases e : j = k
        · subst e; rw [if_pos rfl, HX.out]
        · rw [if_neg e]; exact HI.out j (by omega))⟩
      case measure => simp [intOf]; omega
    · obtain rfl : k = len := by omega
      have hres : Rl wr .u8 (some ⟨w.heap.size, 0, none⟩) k p := by
        have h1 := hW.rl
        rwa [show lst F k = p from nth_ext (by rw [lst_length]; exact hlen.symm) fun j hj => by rw [lst_length] at hj; rw [lst_nth _ hj]; exact HI.out j hj] at h1
      have HRES := Lib.hid hres
      have HB2 := Lib.hid hb
      clear hb hW hres
      go_wp2
      go_ret
      exact ⟨w.heap.size, rfl, HB2.out, HRES.out⟩

set_option maxHeartbeats 800000 in
theorem wordR_no (c m P n : Nat) (hF : Fld m P n) {B T : Nat} (A : Option Addr) (len cap : Nat) (zs : List Int) (k : Int) (w : World) (hM : Res w B T (.slice A len cap) zs) (hD : w.cell? ⟨c, 0, none⟩ = some (.int .i64 m)) (h : (len : Int) ≠ k ∨ allIn n zs = false) :
    Calls Try.prog 69 #[.pointer (some ⟨c, 0, none⟩), .slice A len cap, .int .i64 k] w fun e w' => e = .returned (.tuple #[.slice none 0 0, .bool false]) ∧ w = w' := by
  have hs : len ≤ 1048576 := by have := hM.small; have := hM.len; omega
  by_cases h12 : (len : Int) = k
  · have hin : allIn n zs = false := by rcases h with h | h; omega; exact h
    have H := Lib.hid (hasAll_any c m P n hF A len cap zs (by omega) w hM.arg hD)
    have H2 : Hid (Calls Try.prog 115 #[.pointer (some ⟨c, 0, none⟩), .slice A len cap] w fun e w' => e = .returned (.bool false) ∧ w = w') := by
      have := H.out
      rw [hin] at this
      exact this
    clear H h hin
    go_enter Try.func69, Try.ntmps69
    go_wp2_with (go_at_call 115; refine H2.out.mono ?_; rintro e w' ⟨rfl, rfl⟩)
    go_ret2
    exact ⟨rfl, rfl⟩
  · go_enter Try.func69, Try.ntmps69
    go_wp2
    go_ret2
    exact ⟨rfl, rfl⟩
set_option maxHeartbeats 800000 in
theorem wordR_yes (c m P n : Nat) (hF : Fld m P n) {B T : Nat} (A : Option Addr) (len cap : Nat) (zs : List Int) (h0 : 0 < len) (w : World) (hM : Res w B T (.slice A len cap) zs) (hD : w.cell? ⟨c, 0, none⟩ = some (.int .i64 m)) (hin : allIn n zs = true) :
    Calls Try.prog 69 #[.pointer (some ⟨c, 0, none⟩), .slice A len cap, .int .i64 len] w fun e w' => ∃ g, e = .returned (.tuple #[.slice (some ⟨g, 0, none⟩) len len, .bool true]) ∧ Below w.heap.size w w' ∧ Rl w' .u8 (some ⟨g, 0, none⟩) len (nats zs) := by
  have hs : len ≤ 1048576 := by have := hM.small; have := hM.len; omega
  have hn2 := hF.n2
  have h32 := hF.n32
  have H2 : Hid (Calls Try.prog 115 #[.pointer (some ⟨c, 0, none⟩), .slice A len cap] w fun e w' => e = .returned (.bool true) ∧ w = w') := by
    have := hasAll_any c m P n hF A len cap zs (by omega) w hM.arg hD
    rw [hin] at this
    exact this
  have hrl := hM.rl hin
  obtain ⟨b, rfl, _, _⟩ := hrl.row h0
  have HE := Lib.hid (elementsR_any b len cap n (nats zs) (by omega) (by omega) hs w (nats_lt hin (by omega)) hrl)
  clear hM hin hrl
  go_enter Try.func69, Try.ntmps69
  go_wp2_with (first | (go_at_call 115; refine H2.out.mono ?_; rintro e w' ⟨rfl, rfl⟩) | (go_at_call 116; refine HE.out.mono ?_; rintro e w1 ⟨g, rfl, hb, hR⟩))
  go_ret2
  exact ⟨g, rfl, hb, hR⟩
end Go.Proofs.Ytljaabmemjehpaa
namespace Go.Proofs.Ytljaabmemjehpaa
open Go.RowKit Go.Joins
set_option linter.unusedVariables false

theorem joinV_snoc (P n len : Nat) (L M : List (Nat → Nat)) (r : Nat → Nat) : joinV P n len L (M ++ [r]) = addV P n len (joinV P n len L M) r := by
  rw [joinV, List.foldl_append]; rfl
/-- The rows as functions. -/
def rowsF (rows : List (List Int)) : List (Nat → Nat) := rows.map fun r => nth (nats r)
theorem rowsF_take {rows : List (List Int)} {k : Nat} (hk : k < rows.length) : (rowsF rows).take (k + 1) = (rowsF rows).take k ++ [nth (nats (rw' rows k))] := by
  rw [List.take_add_one, List.getElem?_eq_getElem (by simpa [rowsF] using hk)]
  simp [rowsF, rw', hk]

set_option maxHeartbeats 1600000 in
theorem coderFor_A (d p l : Int) (hf : fldI d p = false) (hl : -9223372036854775808 ≤ p) (hh : p ≤ 9223372036854775807) (v : Value) (w : World) :
    Calls Try.prog 113 #[.agg #[.int .i64 d, .int .i64 p], .int .i64 l, v] w fun e w' => e = .returned (.tuple #[.pointer none, .int .i64 1]) ∧ Below w.heap.size w w' := by
  have HF := Lib.hid hf
  have hG := G1.start w [.int .i64 d, .int .i64 p] 31
  have HG := Lib.hid hG
  clear hf hG
  go_enter Try.func113, Try.ntmps113
  go_wp2_with fail
  refine (calculatorFor_invalid _ _ HF.out hl hh _ _).mono ?_
  rintro e w1 ⟨rfl, hb⟩
  have HB := Lib.hid (HG.out.next hb).b
  clear hb
  go_wp2_with fail
  go_ret2
  exact ⟨rfl, HB.out⟩

set_option maxHeartbeats 1600000 in
theorem coderFor_B (m P N : Nat) (hF : Fld m P N) (l : Int) (v : Value) (rows : List (List Int)) (w : World) (hA : RR w v rows) (hno : ¬ ((1 ≤ l ∧ l ≤ 5) ∧ rows.length ≤ 10)) :
    Calls Try.prog 113 #[.agg #[.int .i64 m, .int .i64 P], .int .i64 l, v] w fun e w' => e = .returned (.tuple #[.pointer none, .int .i64 2]) ∧ Below w.heap.size w w' := by
  obtain ⟨A, cap, rfl⟩ := hA.is
  obtain ⟨n, hn⟩ : ∃ n, rows.length = n := ⟨_, rfl⟩
  have hs := hA.small
  rw [hn] at hno hs ⊢
  have hs1 : n ≤ 1048576 := by omega
  have hG := G1.start w [.int .i64 m, .int .i64 P] 31
  have HG := Lib.hid hG
  obtain ⟨r, hr⟩ : ∃ r, decide (1 ≤ l ∧ l ≤ 5) = r := ⟨_, rfl⟩
  have HL := Lib.hid (isLength_eq l r hr)
  clear hG hA hn hs
  cases r with
  | true =>
    have h1 := of_decide_eq_true hr
    have h2 : ¬ n ≤ 10 := fun h => hno ⟨h1, h⟩
    clear hr hno h1
    go_enter Try.func113, Try.ntmps113
    go_wp2_with fail
    refine (calculatorFor_none m P N hF _).mono ?_
    rintro e w1 ⟨c, rfl, hb, hC, hc⟩
    have HB := Lib.hid (HG.out.next hb).b
    clear hb hC hc
    go_wp2_with (go_at_call 145; refine (HL.out _).mono ?_; rintro e w' ⟨rfl, rfl⟩)
    go_ret2
    exact ⟨rfl, HB.out⟩
  | false =>
    clear hr hno
    go_enter Try.func113, Try.ntmps113
    go_wp2_with fail
    refine (calculatorFor_none m P N hF _).mono ?_
    rintro e w1 ⟨c, rfl, hb, hC, hc⟩
    have HB := Lib.hid (HG.out.next hb).b
    clear hb hC hc
    go_wp2_with (go_at_call 145; refine (HL.out _).mono ?_; rintro e w' ⟨rfl, rfl⟩)
    go_ret2
    exact ⟨rfl, HB.out⟩

/-- What a coder of rows is. -/
structure KO (W : World) (B0 : Nat) (m P N len : Nat) (rows : List (List Int)) (q : Nat) : Prop where
  ex : ∃ (c n : Nat) (v : Value) (hs : Nat → List Nat) (vs : Nat → Value) (b : Nat → Nat), B0 ≤ q ∧ n ≤ rows.length ∧ KA W q c m P m P N (q + 1) len n v hs vs b ∧ fs hs n = joinV P N len [] (rowsF rows)

set_option maxRecDepth 100000 in
set_option maxHeartbeats 6400000 in
theorem coderFor_C (m P N : Nat) (hF : Fld m P N) (len : Nat) (hl0 : 0 < len) (hl5 : len ≤ 5) (v : Value) (rows : List (List Int)) (h10 : rows.length ≤ 10) (w : World) (hA : RR w v rows) :
    Calls Try.prog 113 #[.agg #[.int .i64 m, .int .i64 P], .int .i64 (len : Int), v] w fun e w' => ((okS N len rows = false ∧ e = .returned (.tuple #[.pointer none, .int .i64 2])) ∨ (okS N len rows = true ∧ ∃ q, e = .returned (.tuple #[.pointer (some ⟨q, 0, none⟩), .int .i64 0]) ∧ KO w' w.heap.size m P N len rows q)) ∧ Below w.heap.size w w' := by
  obtain ⟨A, cap, rfl⟩ := hA.is
  obtain ⟨n, hn⟩ : ∃ n, rows.length = n := ⟨_, rfl⟩
  rw [hn] at hA h10 ⊢
  have HN := Lib.hid hn
  have HA := Lib.hid hA
  have hG := G1.start w [.int .i64 m, .int .i64 P] 31
  have HG := Lib.hid hG
  have HL := Lib.hid (isLength_eq (len : Int) true (decide_eq_true (by omega)))
  have hN2 := hF.n2
  clear hG hA hn
  go_enter Try.func113, Try.ntmps113
  go_wp2_with fail
  refine (calculatorFor_none m P N hF _).mono ?_
  rintro e w1 ⟨c, rfl, hb, hC, hc⟩
  have hG1 := HG.out.next hb
  have x0 : _ := hG1.x.cell 0 _ rfl
  have x1 : _ := hG1.x.cell 1 _ rfl
  have hcl := hC.lt
  have hz1 := hG1.z
  have HK0 : Hid (KA (w1.alloc (.cells (kcL c m P (len : Int) (.slice none 0 0)).toArray 102)) w1.heap.size c m P m P N (w1.heap.size + 1) len 0 (.slice none 0 0) (fun _ => []) (fun _ => undef) (fun _ => 0)) := Lib.hid
    ⟨LF.start w1 _ _, hC.next (below_alloc1 w1 _), ⟨World.ownsRow_nil _ _ _ _, fun j hj => by omega, fun j hj => by omega, fun j hj => by omega⟩, hcl, by omega⟩
  have HB0 := Lib.hid ((hG1.next (below_alloc1 w1 (.cells (kcL c m P (len : Int) (.slice none 0 0)).toArray 102))).b)
  clear hb hC hc hG1 HG
  go_wp2_with (go_at_call 145; refine (HL.out _).mono ?_; rintro e w' ⟨rfl, rfl⟩)
  obtain ⟨q, hq⟩ : ∃ q, w1.heap.size = q := ⟨_, rfl⟩
  rw [hq] at HK0 hz1
  simp only [hq]
  have HQ := Lib.hid hq
  clear hq
  go_loopw [38] (fun iv wr => ∃ (k n' : Nat) (v' : Value) (hs : Nat → List Nat) (vs : Nat → Value) (b : Nat → Nat), k ≤ n ∧ iv = .int .i64 k ∧ n' ≤ k ∧ KA wr q c m P m P N (q + 1) len n' v' hs vs b ∧ Below w.heap.size w wr ∧ Hid (fs hs n' = joinV P N len [] ((rowsF rows).take k)) ∧ Hid (∀ j, j < k → okR N (len : Int) (rw' rows j) = true)) (fun iv _ => n - (intOf iv).toNat)
  case atStart => exact ⟨0, 0, _, _, _, _, Nat.zero_le _, rfl, Nat.le_refl _, HK0.out, HB0.out, Lib.hid (by simp [fs, joinV]), Lib.hid (fun j hj => by omega)⟩
  case round =>
    obtain ⟨k, n', v', hs, vs, b, hk, rfl, hn', hK, hb, HFS, HOK⟩ := hrel
    clear HK0 HB0 x0 x1
    by_cases hlt : k < n
    · obtain ⟨_, g, rfl, hgl, Ak, nk, ck, Bk, Tk, hck, hRk⟩ := (HA.out.next hb).row hlt
      have hD := hK.k.deg
      have HLN := Lib.hid hRk.len
      by_cases hbad : (nk : Int) ≠ (len : Int) ∨ allIn N (rw' rows k) = false
      · have HW := Lib.hid (wordR_no c m P N hF Ak nk ck (rw' rows k) (len : Int) wr hRk hD hbad)
        have HB := Lib.hid hb
        have HBAD := Lib.hid hbad
        clear hb hK hD hRk hbad
        go_wp2_with fail
        refine HW.out.mono ?_
        rintro e w' ⟨rfl, rfl⟩
        go_wp2_with fail
        go_ret2
        exact ⟨.inl ⟨okS_no (j := k) (by have := HN.out; omega) (by
          rw [okR, HLN.out]
          rcases HBAD.out with h | h
          · rw [decide_eq_false h, Bool.false_and]
          · rw [h, Bool.and_false]), rfl⟩, HB.out⟩
      · have hnk : nk = len := by
          rcases Nat.lt_trichotomy nk len with h | h | h
          · exact absurd (.inl (by omega)) hbad
          · exact h
          · exact absurd (.inl (by omega)) hbad
        subst hnk
        have hin : allIn N (rw' rows k) = true := by
          rcases e : allIn N (rw' rows k) with _ | _
          · exact absurd (.inr e) hbad
          · rfl
        have HW := Lib.hid (wordR_yes c m P N hF Ak nk ck (rw' rows k) hl0 wr hRk hD hin)
        have HIN := Lib.hid hin
        have HB := Lib.hid hb
        have HK := Lib.hid hK
        clear hb hK hD hRk hbad hin
        go_wp2_with fail
        refine HW.out.mono ?_
        rintro e w2 ⟨g2, rfl, hb2, hR2⟩
        have hvalid : ∀ r ∈ (rowsF rows).take k, InV N r ∧ OutV nk r := fun r hr => by
          obtain ⟨j, hj, rfl⟩ := List.getElem_of_mem hr
          have hjk : j < k ∧ j < rows.length := by simp [rowsF] at hj; omega
          have h1 := HOK.out j hjk.1
          simp only [okR, Bool.and_eq_true, decide_eq_true_eq] at h1
          have e : ((rowsF rows).take k)[j] = nth (nats (rw' rows j)) := by simp [rowsF, rw', hjk.2]
          rw [e]
          exact ⟨fun i => nats_lt h1.2 (by omega) i, out_nth (by rw [nats_length]; omega)⟩
        have HSP := Lib.hid (span_any m P N hF q c m P (q + 1) nk n' hl0 hl5 (by omega) v' hs vs b (by rw [HFS.out]; exact (joinV_spec hF _ (EchV.nil N nk) hvalid).1) (some ⟨g2, 0, none⟩) nk (nats (rw' rows k)) (nats_lt HIN.out (by omega)) w2 (by have h1 := HK.out.x.b.lt; have h2 := hb2.size; omega) (HK.out.next hb2) hR2)
        have HB2 := Lib.hid (HB.out.trans (hb2.mono HB.out.size))
        clear hb2 hR2 hvalid
        go_wp2_with fail
        refine HSP.out.mono ?_
        rintro e w3 ⟨rfl, hb3, n2, v2, hs2, vs2, b2, hn2, hK2, hfs2⟩
        have HB3 := Lib.hid (HB2.out.trans (hb3.mono (by omega)))
        have HK3 := Lib.hid hK2
        have HFS3 := Lib.hid hfs2
        clear hb3 hK2 hfs2
        go_wp2_with fail
        go_roundw
        case rel => exact ⟨k + 1, n2, v2, hs2, vs2, b2, by omega, by go_num, by omega, HK3.out, HB3.out, Lib.hid (by
          rw [HFS3.out, HFS.out, rowsF_take (by have := HN.out; omega), joinV_snoc]), Lib.hid (fun j hj => by
          by_cases e : j = k
          · subst e; rw [okR, HIN.out, HLN.out, decide_eq_true rfl]; rfl
          · exact HOK.out j (by omega))⟩
        case measure => simp [intOf]; omega
    · obtain rfl : n = k := by omega
      have HB := Lib.hid hb
      have HK := Lib.hid hK
      clear hb hK
      go_wp2_with fail
      go_ret2
      exact ⟨.inr ⟨okS_yes (fun j hj => HOK.out j (by have := HN.out; omega)), q, rfl, ⟨c, n', v', hs, vs, b, by omega, by rw [HN.out]; exact hn', HK.out, by
        rw [HFS.out, List.take_of_length_le (by simp [rowsF, HN.out])]⟩⟩, HB.out⟩
end Go.Proofs.Ytljaabmemjehpaa
