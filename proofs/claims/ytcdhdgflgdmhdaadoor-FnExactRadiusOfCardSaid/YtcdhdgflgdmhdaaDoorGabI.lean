/- The coder of a Gabidulin code: the program's. -/
import Derived.Test.YtcdhdgflgdmhdaaDoorGabP
import Derived.Test.YtcdhdgflgdmhdaaDoorGabS
import Derived.Test.YtcdhdgflgdmhdaaDoorElemsOf
import Derived.Test.YtcdhdgflgdmhdaaDoorHasAll
import Derived.Test.YtcdhdgflgdmhdaaDoorMakeArgs
namespace Go.Proofs.YtcdhdgflgdmhdaaDoor
open Go.RowKit Go.Joins
set_option linter.unusedVariables false

/-- The coder's three values. -/
structure PC (W : World) (q c g m P n len : Nat) (k : Int) (L : List Nat) : Prop where
  c0 : W.cell? ⟨q, 0, none⟩ = some (.pointer (some ⟨c, 0, none⟩))
  c1 : W.cell? ⟨q, 1, none⟩ = some (.slice (some ⟨g, 0, none⟩) len len)
  c2 : W.cell? ⟨q, 2, none⟩ = some (.int .i64 k)
  lt : q < W.heap.size
  cal : Calc c m P n W
  row : Rl W .u8 (some ⟨g, 0, none⟩) len L
theorem PC.next {W W' : World} {q c g m P n len : Nat} {k : Int} {L : List Nat} (h : PC W q c g m P n len k L) (hb : Below W.heap.size W W') : PC W' q c g m P n len k L :=
  ⟨(hb.cell (p := ⟨q, 0, none⟩) h.lt).trans h.c0, (hb.cell (p := ⟨q, 1, none⟩) h.lt).trans h.c1, (hb.cell (p := ⟨q, 2, none⟩) h.lt).trans h.c2, Nat.lt_of_lt_of_le h.lt hb.size, h.cal.below h.cal.lt hb, h.row.below hb⟩

set_option maxHeartbeats 1600000 in
theorem pointCoderFor_A (d p : Int) (hf : fldI d p = false) (hl : -9223372036854775808 ≤ p) (hh : p ≤ 9223372036854775807) (v : Value) (ao : Option Addr) (len cap : Nat) (hv : v = .slice ao len cap) (hlen : len ≤ 1048576) (k : Int) (w : World) :
    Calls Tryd.prog 23 #[.agg (gabC d p v k)] w fun e w' => e = .returned (.tuple #[.pointer none, .int .i64 1]) ∧ Below w.heap.size w w' := by
  subst hv
  have HF := Lib.hid hf
  have hb0 := below_alloc1 w (.cells (gabC d p (.slice ao len cap) k) 31)
  clear hf
  go_enter Tryd.func23, Tryd.ntmps23
  go_wp2_with (go_at_call 36; refine (calculatorFor_invalid d p HF.out hl hh _ _).mono ?_; rintro e w1 ⟨rfl, hb⟩)
  go_ret2
  exact ⟨rfl, hb0.trans (hb.mono hb0.size)⟩
set_option maxHeartbeats 1600000 in
theorem pointCoderFor_B (m P n : Nat) (hF : Fld m P n) (b len cap : Nat) (zs : List Int) (k : Int) (hi : allIn n zs = false) (w : World) (hM : Mt w b len zs) :
    Calls Tryd.prog 23 #[.agg (gabC m P (.slice (some ⟨b, 0, none⟩) len cap) k)] w fun e w' => e = .returned (.tuple #[.pointer none, .int .i64 1]) ∧ Below w.heap.size w w' := by
  have hb0 := below_alloc1 w (.cells (gabC m P (.slice (some ⟨b, 0, none⟩) len cap) k) 31)
  have hs := hM.small
  have HM := Lib.hid (hM.below hb0)
  have HI := Lib.hid hi
  clear hi hM
  go_enter Tryd.func23, Tryd.ntmps23
  go_wp2_with (go_at_call 36; refine (calculatorFor_B m P _ hF _ _ len cap zs HM.out.arg (by omega) HI.out).mono ?_; rintro e w1 ⟨rfl, hb⟩)
  go_ret2
  exact ⟨rfl, hb0.trans (hb.mono hb0.size)⟩
set_option maxHeartbeats 1600000 in
theorem pointCoderFor_K (m P n : Nat) (hF : Fld m P n) (b len cap : Nat) (zs : List Int) (k : Int) (hi : allIn n zs = true) (hk : k < 1 ∨ (len : Int) < k) (w : World) (hM : Mt w b len zs) :
    Calls Tryd.prog 23 #[.agg (gabC m P (.slice (some ⟨b, 0, none⟩) len cap) k)] w fun e w' => e = .returned (.tuple #[.pointer none, .int .i64 1]) ∧ Below w.heap.size w w' := by
  have hb0 := below_alloc1 w (.cells (gabC m P (.slice (some ⟨b, 0, none⟩) len cap) k) 31)
  have hX0 := Box4.one w (.int .i64 m) (.int .i64 P) (.slice (some ⟨b, 0, none⟩) len cap) (.int .i64 k) 31
  have hs := hM.small
  have HM := Lib.hid (hM.below hb0)
  have HI := Lib.hid hi
  have HX := Lib.hid hX0
  clear hi hM hX0
  rcases Int.lt_or_le k 1 with hk1 | hk1
  · clear hk
    go_enter Tryd.func23, Tryd.ntmps23
    go_wp2_with (go_at_call 36; refine (calculatorFor_C m P _ hF _ _ len cap zs HM.out.arg (by omega) HI.out).mono ?_; rintro e w1 ⟨c, rfl, hb, hC, hc⟩; have x2 := (HX.out.next hb).c3)
    go_ret2
    exact ⟨rfl, hb0.trans (hb.mono hb0.size)⟩
  · have hk2 : (len : Int) < k := by omega
    clear hk
    go_enter Tryd.func23, Tryd.ntmps23
    go_wp2_with (go_at_call 36; refine (calculatorFor_C m P _ hF _ _ len cap zs HM.out.arg (by omega) HI.out).mono ?_; rintro e w1 ⟨c, rfl, hb, hC, hc⟩; have x2 := (HX.out.next hb).c3)
    go_ret2
    exact ⟨rfl, hb0.trans (hb.mono hb0.size)⟩
set_option maxHeartbeats 1600000 in
theorem pointCoderFor_C (m P n : Nat) (hF : Fld m P n) (b len cap : Nat) (zs : List Int) (k : Int) (hi : allIn n zs = true) (hk : 1 ≤ k) (hk2 : k ≤ (len : Int)) (w : World) (hM : Mt w b len zs) (hT : Tab w) :
    Calls Tryd.prog 23 #[.agg (gabC m P (.slice (some ⟨b, 0, none⟩) len cap) k)] w fun e w' => Below w.heap.size w w' ∧ ((joined [] (nats zs)).length < len → e = .returned (.tuple #[.pointer none, .int .i64 1])) ∧
      (¬ (joined [] (nats zs)).length < len → ∃ q c g, e = .returned (.tuple #[.pointer (some ⟨q, 0, none⟩), .int .i64 0]) ∧ PC w' q c g m P n len k (nats zs)) := by
  have hm5 := hF.m5
  have h32 := hF.n32
  have hb0 := below_alloc1 w (.cells (gabC m P (.slice (some ⟨b, 0, none⟩) len cap) k) 31)
  have hX0 := Box4.one w (.int .i64 m) (.int .i64 P) (.slice (some ⟨b, 0, none⟩) len cap) (.int .i64 k) 31
  have hs := hM.small
  have hlt := lt_mem (nats_lt hi (by have := hF.n2; omega : 0 < n))
  rw [← hF.n] at hlt
  have RK := Lib.hid (fun A w hR hT => rank_any m hm5 A len len (nats zs) hlt (by omega) w hR hT)
  have HT := Lib.hid (hT.below hb0)
  have HM := Lib.hid (hM.below hb0)
  have HI := Lib.hid hi
  have HX := Lib.hid hX0
  have EL := Lib.hid (fun w hM => elementsOf_any b len cap n zs (by have := hF.n2; omega) (by omega) w hM hi)
  obtain ⟨p, hp⟩ : ∃ p, nats zs = p := ⟨_, rfl⟩
  rw [hp] at RK EL ⊢
  generalize (joined [] p).length = J at RK ⊢
  clear hi hM hX0 hlt hT hp
  by_cases hJ : J < len
  all_goals
    go_enter Tryd.func23, Tryd.ntmps23
    go_wp2_with fail
    refine (calculatorFor_C m P _ hF _ _ len cap zs HM.out.arg (by omega) HI.out).mono ?_
    rintro e w1 ⟨c, rfl, hb, hC, hc⟩
    have hX1 := HX.out.next hb
    have hb1 := hb0.trans (hb.mono hb0.size)
    have HM1 := Lib.hid (HM.out.below hb)
    have HT1 := Lib.hid (HT.out.below hb)
    have x2 := hX1.c2; have x3 := hX1.c3
    clear hb hb0 HM HT
    go_wp2_with fail
    refine (EL.out _ HM1.out).mono ?_
    rintro e w2 ⟨g, rfl, hb, hR⟩
    have hX2 := hX1.next hb
    have hb2 := hb1.trans (hb.mono hb1.size)
    have HT2 := Lib.hid (HT1.out.below hb)
    have HR2 := Lib.hid hR
    have HC2 := Lib.hid (hC.below hC.lt hb)
    clear hb hb1 hX1 x2 x3 HM1 HT1 hR hC
    go_wp2_with fail
    refine (RK.out _ _ HR2.out HT2.out).mono ?_
    rintro e w3 ⟨rfl, hb⟩
    have hX3 := hX2.next hb
    have hb3 := hb2.trans (hb.mono hb2.size)
    have HR3 := Lib.hid (HR2.out.below hb)
    have HC3 := Lib.hid (HC2.out.below HC2.out.lt hb)
    have x3 := hX3.c3
    have HB3 := Lib.hid hb3
    clear hb hb2 hX2 HR2 HC2 HT2 hb3
    go_wp2_with fail
    go_ret2
  · exact ⟨HB3.out, fun _ => rfl, fun h => absurd hJ h⟩
  · have hba := below_alloc1 w3 (.cells #[.pointer (some ⟨c, 0, none⟩), .slice (some ⟨g, 0, none⟩) len len, .int .i64 k] 61)
    exact ⟨HB3.out.trans (hba.mono HB3.out.size), fun h => absurd h hJ, fun _ => ⟨_, c, g, rfl, ⟨by simp, by simp, by simp, by simp, HC3.out.below HC3.out.lt hba, HR3.out.below hba⟩⟩⟩

/-- The coder, or ErrInvalid. -/
theorem pointCoderFor_no (d p : Int) (b len cap : Nat) (zs : List Int) (k : Int) (hg : gabF d p zs k = false) (hl : -9223372036854775808 ≤ p) (hh : p ≤ 9223372036854775807) (w : World) (hM : Mt w b len zs) (hT : Tab w) :
    Calls Tryd.prog 23 #[.agg (gabC d p (.slice (some ⟨b, 0, none⟩) len cap) k)] w fun e w' => e = .returned (.tuple #[.pointer none, .int .i64 1]) ∧ Below w.heap.size w w' := by
  have hlen := hM.len
  cases hf : fldI d p with
  | false => exact pointCoderFor_A d p hf hl hh _ _ _ _ rfl hM.small k w
  | true =>
    obtain ⟨m, P, rfl, rfl, hF⟩ := fldI_nat hf
    have hF := Fld.of hF
    rw [gabF_yes hF] at hg
    rcases gabB_alt hF.m5 rfl hg with hi | ⟨hi, hk⟩ | ⟨hi, hk, hk2, hj⟩
    · exact pointCoderFor_B m P _ hF b len cap zs k hi w hM
    · exact pointCoderFor_K m P _ hF b len cap zs k hi (by omega) w hM
    · refine (pointCoderFor_C m P _ hF b len cap zs k hi hk (by omega) w hM hT).mono ?_
      rintro e w' ⟨hb, h1, _⟩
      exact ⟨h1 (by omega), hb⟩
theorem pointCoderFor_yes (m P n : Nat) (hF : Fld m P n) (b len cap : Nat) (zs : List Int) (k : Int) (hg : gabB n zs k = true) (w : World) (hM : Mt w b len zs) (hT : Tab w) :
    Calls Tryd.prog 23 #[.agg (gabC m P (.slice (some ⟨b, 0, none⟩) len cap) k)] w fun e w' => ∃ q c g, e = .returned (.tuple #[.pointer (some ⟨q, 0, none⟩), .int .i64 0]) ∧ Below w.heap.size w w' ∧ PC w' q c g m P n len k (nats zs) := by
  have hlen := hM.len
  obtain ⟨h1, h2, h3, h4⟩ := gabB_yes hg
  refine (pointCoderFor_C m P _ hF b len cap zs k (okW_in h1) h3 (by omega) w hM hT).mono ?_
  rintro e w' ⟨hb, _, h5⟩
  obtain ⟨q, c, g, he, hP⟩ := h5 (by omega)
  exact ⟨q, c, g, he, hb, hP⟩
end Go.Proofs.YtcdhdgflgdmhdaaDoor
