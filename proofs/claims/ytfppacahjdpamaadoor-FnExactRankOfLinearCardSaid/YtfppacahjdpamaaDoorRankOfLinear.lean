/- RankOfLinear: what the model's and the program's function return. -/
import Derived.Test.YtfppacahjdpamaaDoorRankL
import Derived.Test.YtfppacahjdpamaaDoorUnits
import Derived.Test.YtfppacahjdpamaaDoorRow11
namespace Go.Proofs.YtfppacahjdpamaaDoor
open Go.RowKit Go.Joins
set_option linter.unusedVariables false

theorem Rl.onlyB {W W' : World} {K : IntKind} {g n b : Nat} {p : List Nat} (h : Rl W K (some ⟨g, 0, none⟩) n p) (ho : Only b W W') (hb : g ≠ b) : Rl W' K (some ⟨g, 0, none⟩) n p :=
  ⟨h.len, fun h0 => by
    obtain ⟨g', e, lt, hc⟩ := h.row h0
    injection e with e
    injection e with e
    subst e
    exact ⟨g, rfl, by rw [ho.size]; exact lt, fun j hj => (ho.cell (p := ⟨g, j, none⟩) hb).trans (hc j hj)⟩⟩
def fRankOfLinear (d p : Int) (zs : List Int) : Int × Int :=
  if okFL d p zs = false then (0, 1) else ((((joined [] (uv p.toNat (nats zs) d.toNat)).length : Nat) : Int), 0)
theorem fRankOfLinear_B {d p : Int} {zs : List Int} (h : okFL d p zs = false) : fRankOfLinear d p zs = (0, 1) := by simp [fRankOfLinear, h]
theorem fRankOfLinear_C {m P n : Nat} (hF : Fld m P n) {zs : List Int} (h : okL n zs = true) : fRankOfLinear m P zs = ((((joined [] (uv P (nats zs) m)).length : Nat) : Int), 0) := by
  rw [fRankOfLinear, okFL_yes hF, h, if_neg (by simp), Int.toNat_natCast, Int.toNat_natCast]

set_option maxHeartbeats 800000 in
theorem specRankOfLinear_A (d p : Int) (hf : fldI d p = false) (v : Value) (w : World) :
    Calls Tryd.prog 12 #[.agg #[.int .i64 d, .int .i64 p], v] w fun e w' => e = .returned (.tuple #[.int .i64 0, .int .i64 1]) ∧ Below w.heap.size w w' := by
  have HF := Lib.hid hf
  clear hf
  go_enter Tryd.func12, Tryd.ntmps12
  go_wp2_with fail
  refine (specValidLinear_A d p HF.out _ _).mono ?_
  rintro e w1 ⟨rfl, hb⟩
  go_wp2
  go_ret2
  exact ⟨rfl, ((Below.refl _ w).alloc (Nat.le_refl _) _).trans (hb.mono (by simp))⟩
set_option maxHeartbeats 800000 in
theorem specRankOfLinear_B (m P n : Nat) (hF : Fld m P n) (b len cap : Nat) (zs : List Int) (hok : okL n zs = false) (w : World) (hM : Mt w b len zs) :
    Calls Tryd.prog 12 #[.agg #[.int .i64 m, .int .i64 P], .slice (some ⟨b, 0, none⟩) len cap] w fun e w' => e = .returned (.tuple #[.int .i64 0, .int .i64 1]) ∧ Below w.heap.size w w' := by
  have HOK := Lib.hid hok
  have HM := Lib.hid hM
  clear hok hM
  go_enter Tryd.func12, Tryd.ntmps12
  have h0 := FAt.start w m P 27
  go_wp2_with fail
  refine (specValidLinear_C m P n hF b len cap zs _ (HM.out.below h0.b) _ HOK.out).mono ?_
  rintro e w1 ⟨rfl, hb⟩
  have h1 := h0.next hb
  clear hb
  go_wp2_with fail
  go_ret2
  exact ⟨rfl, h1.b⟩
set_option maxHeartbeats 800000 in
theorem specRankOfLinear_C (m P n : Nat) (hF : Fld m P n) (b len cap : Nat) (zs : List Int) (hok : okL n zs = true) (w : World) (hM : Mt w b len zs) :
    Calls Tryd.prog 12 #[.agg #[.int .i64 m, .int .i64 P], .slice (some ⟨b, 0, none⟩) len cap] w fun e w' => e = .returned (.tuple #[.int .i64 ((joined [] (uv P (nats zs) m)).length : Nat), .int .i64 0]) ∧ Below w.heap.size w w' := by
  have h32 := hF.n32
  have hn2 := hF.n2
  have hlen := hM.len
  have h12 := okL_len hok
  have HIN := Lib.hid (okL_in hok)
  have HOK := Lib.hid hok
  have HM := Lib.hid hM
  have HR := Lib.hid (fun (w : World) (hM : Mt w b len zs) => l03Rank_any m P n hF (some ⟨b, 0, none⟩) len cap (nats zs) (nats_lt HIN.out (by omega)) (by omega) w (hM.rl HIN.out))
  generalize (joined [] (uv P (nats zs) m)).length = r at HR ⊢
  clear hok hM
  go_enter Tryd.func12, Tryd.ntmps12
  have h0 := FAt.start w m P 27
  go_wp2_with fail
  refine (specValidLinear_C m P n hF b len cap zs _ (HM.out.below h0.b) _ HOK.out).mono ?_
  rintro e w1 ⟨rfl, hb⟩
  have h1 := h0.next hb
  have c1 := h1.c0; have d1 := h1.c1
  clear hb h0
  go_wp2_with fail
  refine (HR.out _ (HM.out.below h1.b)).mono ?_
  rintro e w3 ⟨rfl, hb3⟩
  have h3 := h1.next hb3
  clear hb3
  go_wp2
  go_ret2
  exact ⟨rfl, h3.b⟩
theorem specRankOfLinear_any (d p : Int) (b len cap : Nat) (zs : List Int) (w : World) (hM : Mt w b len zs) :
    Calls Tryd.prog 12 #[.agg #[.int .i64 d, .int .i64 p], .slice (some ⟨b, 0, none⟩) len cap] w fun e w' => e = .returned (.tuple #[.int .i64 (fRankOfLinear d p zs).1, .int .i64 (fRankOfLinear d p zs).2]) ∧ Below w.heap.size w w' := by
  cases hf : fldI d p with
  | false => rw [fRankOfLinear_B (okFL_no hf)]; exact specRankOfLinear_A d p hf _ w
  | true =>
    obtain ⟨m, P, rfl, rfl, hF⟩ := fldI_nat hf
    have hF := Fld.of hF
    cases hok : okL (2 ^ m) zs with
    | false => rw [fRankOfLinear_B (by rw [okFL_yes hF]; exact hok)]; exact specRankOfLinear_B m P _ hF b len cap zs hok w hM
    | true => rw [fRankOfLinear_C hF hok]; exact specRankOfLinear_C m P _ hF b len cap zs hok w hM
set_option maxHeartbeats 800000 in
theorem implRankOfLinear_A (d p : Int) (hf : fldI d p = false) (hl : -9223372036854775808 ≤ p) (hh : p ≤ 9223372036854775807) (v : Value) (w : World) :
    Calls Tryd.prog 13 #[.agg #[.int .i64 d, .int .i64 p], v] w fun e w' => e = .returned (.tuple #[.int .i64 0, .int .i64 1]) ∧ Below w.heap.size w w' := by
  have HF := Lib.hid hf
  clear hf
  go_enter Tryd.func13, Tryd.ntmps13
  have hb0 := below_alloc1 w (.cells #[.int .i64 d, .int .i64 p] 27)
  have HB0 := Lib.hid hb0
  clear hb0
  go_wp2_with fail
  refine (linearFor_A d p HF.out hl hh v _ _).mono ?_
  rintro e w1 ⟨rfl, hb⟩
  have HB1 := Lib.hid (HB0.out.trans (hb.mono HB0.out.size))
  clear hb
  go_wp2_with fail
  go_ret2
  exact ⟨rfl, HB1.out⟩
set_option maxHeartbeats 800000 in
theorem implRankOfLinear_B (m P n : Nat) (hF : Fld m P n) (b len cap : Nat) (zs : List Int) (hok : okL n zs = false) (w : World) (hM : Mt w b len zs) :
    Calls Tryd.prog 13 #[.agg #[.int .i64 m, .int .i64 P], .slice (some ⟨b, 0, none⟩) len cap] w fun e w' => e = .returned (.tuple #[.int .i64 0, .int .i64 1]) ∧ Below w.heap.size w w' := by
  have HOK := Lib.hid hok
  have HM := Lib.hid hM
  clear hok hM
  go_enter Tryd.func13, Tryd.ntmps13
  have hb0 := below_alloc1 w (.cells #[.int .i64 m, .int .i64 P] 27)
  have HB0 := Lib.hid hb0
  clear hb0
  go_wp2_with fail
  refine (linearFor_B m P n hF b len cap zs _ _ (HM.out.below HB0.out) HOK.out).mono ?_
  rintro e w1 ⟨rfl, hb⟩
  have HB1 := Lib.hid (HB0.out.trans (hb.mono HB0.out.size))
  clear hb
  go_wp2_with fail
  go_ret2
  exact ⟨rfl, HB1.out⟩
set_option maxRecDepth 100000 in
set_option maxHeartbeats 3200000 in
theorem implRankOfLinear_C (m P n : Nat) (hF : Fld m P n) (b len cap : Nat) (zs : List Int) (hok : okL n zs = true) (w : World) (hM : Mt w b len zs) (hT : Tab w) :
    Calls Tryd.prog 13 #[.agg #[.int .i64 m, .int .i64 P], .slice (some ⟨b, 0, none⟩) len cap] w fun e w' => e = .returned (.tuple #[.int .i64 ((joined [] (uv P (nats zs) m)).length : Nat), .int .i64 0]) ∧ Below w.heap.size w w' := by
  have h32 := hF.n32
  have hn2 := hF.n2
  have hm5 := hF.m5
  have hlen := hM.len
  have h12 := okL_len hok
  have HIN := Lib.hid (okL_in hok)
  have HOK := Lib.hid hok
  have HM := Lib.hid hM
  have HT := Lib.hid hT
  have HU := Lib.hid (fun (c g : Nat) (w : World) (hC : Calc c m P n w) (hR : Rl w .u8 (some ⟨g, 0, none⟩) len (nats zs)) => unitValues_any c m P n hF (some ⟨g, 0, none⟩) len len (nats zs) (nats_lt HIN.out (by omega)) (by omega) w hC hR)
  have hpl := uv_lt hF (nats zs) m
  obtain ⟨p, hp⟩ : ∃ p, uv P (nats zs) m = p := ⟨_, rfl⟩
  have HPE := Lib.hid hp
  rw [hp] at hpl ⊢
  have HPL := Lib.hid hpl
  have hpn : p.length = m := by rw [← hp]; exact uv_len _ _ _
  clear hok hM hT hpl hp
  go_enter Tryd.func13, Tryd.ntmps13
  have hb0 := below_alloc1 w (.cells #[.int .i64 m, .int .i64 P] 27)
  have HB0 := Lib.hid hb0
  clear hb0
  go_wp2_with fail
  refine (linearFor_C m P n hF b len cap zs none 0 0 [] (by omega) _ (HM.out.below HB0.out) HOK.out (arg_nil _) rfl).mono ?_
  rintro e w1 ⟨c, g, rfl, hb, hC, hR⟩
  have HB1 := Lib.hid (HB0.out.trans (hb.mono HB0.out.size))
  have HC := Lib.hid hC
  have HR := Lib.hid hR
  clear hb hC hR
  have hG := (RAt.start w1 61)
  have hb := below_alloc1 w1 (.cells #[.int .i64 0, .int .u32 0, .int .u32 0, .int .u32 0, .int .u32 0, .int .u32 0, .int .u32 0, .int .u32 0, .int .u32 0, .int .u32 0, .int .u32 0] 61)
  have HG := Lib.hid hG
  have hz := hb.size
  have hzs : (w1.alloc (.cells #[.int .i64 0, .int .u32 0, .int .u32 0, .int .u32 0, .int .u32 0, .int .u32 0, .int .u32 0, .int .u32 0, .int .u32 0, .int .u32 0, .int .u32 0] 61)).heap.size = w1.heap.size + 1 := by simp
  have HB := Lib.hid (HB1.out.trans (hb.mono HB1.out.size))
  have HC1 := Lib.hid (HC.out.below HC.out.lt hb)
  have HR1 := Lib.hid (HR.out.below hb)
  have HW := Lib.hid (HU.out c g _ HC1.out HR1.out)
  clear hG hb HU HC HR HC1 HR1
  go_wp2_with fail
  refine HW.out.mono ?_
  rintro e w2 ⟨u, rfl, hu, hb2, hW⟩
  have hrl : Rl w2 .i64 (some ⟨u, 0, none⟩) m p := by
    have h1 := hW.rl
    rwa [show lst (fun j => vl P (nats zs) (2 ^ j)) m = p from HPE.out] at h1
  have HG2 := Lib.hid (HG.out.below hb2)
  have HB2 := Lib.hid (HB.out.trans (hb2.mono HB.out.size))
  have HRL := Lib.hid hrl
  have hu1 : Hid (w1.heap.size < u) := Lib.hid (by rw [hzs] at hu; omega)
  have HW1 : Hid (w.heap.size ≤ w1.heap.size) := Lib.hid HB1.out.size
  clear hb2 hW hrl HG HB HW hu hzs
  have hq1 : Hid (1 < w1.heap.size) := Lib.hid (Nat.lt_of_lt_of_le HT.out.2 HB1.out.size)
  clear hz HB1
  go_wp2_with fail
  go_loopw [26] (fun i wr => ∃ k : Nat, k ≤ m ∧ i = .int .i64 k ∧ RAt wr w1.heap.size (joined [] (p.take k)) ∧ Below w.heap.size w wr ∧ Rl wr .i64 (some ⟨u, 0, none⟩) m p) (fun i _ => m - (intOf i).toNat)
  case atStart => exact ⟨0, Nat.zero_le _, rfl, HG2.out, HB2.out, HRL.out⟩
  case round =>
    obtain ⟨k, hk, rfl, hG, hb, hrl⟩ := hrel
    clear HG2 HB2 HRL
    by_cases hlt : k < m
    · have hJ := joined_spec (p.take k) Ech.nil
      have hJl := joined_lt .nil (by simp) (take_lt HPL.out k)
      have hx : nth p k < 2 ^ m := nth_bound HPL.out k
      have hp5 : 2 ^ m ≤ 2 ^ 5 := Nat.pow_le_pow_right (by omega) hm5
      have hx20 := lt20 (show m ≤ 20 by omega) HPL.out k
      have hjt := joined_take (L := []) (M := p) (k := k) (by omega)
      have hTr := HT.out.below hb
      have S := span_r w1.heap.size (joined [] (p.take k)) hJ.1 (lt20 (show m ≤ 20 by omega) hJl) (nth p k) hx20 wr hG hTr hq1.out (fun h => Nat.lt_of_lt_of_le (span_len hJ.1 hJl hx h) (by omega))
      rw [← hjt] at S
      obtain ⟨g', hg1, hg, hc⟩ := hrl.row (by omega)
      injection hg1 with hg1
      injection hg1 with hg1
      subst hg1
      have hck := hc k hlt
      clear hc
      obtain ⟨x, hxe⟩ : ∃ x, nth p k = x := ⟨_, rfl⟩
      rw [hxe] at S hx20 hck hx
      have HS := Lib.hid S
      have HB := Lib.hid hb
      have HRL := Lib.hid hrl
      have e1 : IntKind.u32.wrap (x : Int) = x := by rw [IntKind.wrap_u32']; omega
      clear S hb hJ hJl hjt hTr hG hxe hrl
      go_wp2_with (go_at_call 29; refine HS.out.mono ?_; rintro e w2 ⟨rfl, hG2, hO2⟩)
      go_roundw
      case rel => exact ⟨k + 1, by omega, by go_num, hG2, hO2.below HB.out HW1.out, HRL.out.onlyB hO2 (by have := hu1.out; omega)⟩
      case measure => simp [intOf]; omega
    · obtain rfl : k = m := by omega
      have ht : p.take k = p := by rw [← hpn]; exact List.take_length
      rw [ht] at hG
      have c0 := hG.c0
      have HB := Lib.hid hb
      clear hG hb ht hrl
      go_wp2_with fail
      go_ret2
      exact ⟨rfl, HB.out⟩
theorem implRankOfLinear_any (d p : Int) (b len cap : Nat) (zs : List Int) (w : World) (hl : -9223372036854775808 ≤ p) (hh : p ≤ 9223372036854775807) (hM : Mt w b len zs) (hT : Tab w) :
    Calls Tryd.prog 13 #[.agg #[.int .i64 d, .int .i64 p], .slice (some ⟨b, 0, none⟩) len cap] w fun e w' => e = .returned (.tuple #[.int .i64 (fRankOfLinear d p zs).1, .int .i64 (fRankOfLinear d p zs).2]) ∧ Below w.heap.size w w' := by
  cases hf : fldI d p with
  | false => rw [fRankOfLinear_B (okFL_no hf)]; exact implRankOfLinear_A d p hf hl hh _ w
  | true =>
    obtain ⟨m, P, rfl, rfl, hF⟩ := fldI_nat hf
    have hF := Fld.of hF
    cases hok : okL (2 ^ m) zs with
    | false => rw [fRankOfLinear_B (by rw [okFL_yes hF]; exact hok)]; exact implRankOfLinear_B m P _ hF b len cap zs hok w hM
    | true => rw [fRankOfLinear_C hF hok]; exact implRankOfLinear_C m P _ hF b len cap zs hok w hM hT
end Go.Proofs.YtfppacahjdpamaaDoor
