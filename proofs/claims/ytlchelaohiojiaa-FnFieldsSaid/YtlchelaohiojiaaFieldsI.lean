/- All fields of a degree, one by one: the program's. -/
import Derived.Test.YtlchelaohiojiaaDraw3
import Derived.Test.YtlchelaohiojiaaNest
import Derived.OwnWalkIn
namespace Go.Proofs.Ytlchelaohiojiaa
open Go.RowKit Go.Shelf
attribute [local go_sem] Oper.semAt_some
set_option linter.unusedVariables false

/-- The polynomials of the fields of a degree. -/
abbrev FieldP (d : Nat) := { P : Nat // fld d P = true }
theorem fld_poly {d : Nat} (x : PolyOf d) (h : irr x.1 = true) : fld d x.1 = true := by
  have h1 := x.2.1; have h2 := x.2.2
  have h4 : nb x.1 ≤ d + 1 := nb_le_of_lt (by rw [Nat.pow_succ]; omega)
  have h5 : d < nb x.1 := (Nat.pow_lt_pow_iff_right (by omega : 1 < 2)).1 (Nat.lt_of_le_of_lt h1 nb_lt)
  simp [fld, h]; omega
/-- Those of some polynomials that are irreducible. -/
def flF (d : Nat) (pre : List (PolyOf d)) : List (FieldP d) := pre.filterMap fun x => if h : irr x.1 = true then some ⟨x.1, fld_poly x h⟩ else none
theorem flF_yes {d : Nat} (pre : List (PolyOf d)) (x : PolyOf d) (h : irr x.1 = true) : flF d (pre ++ [x]) = flF d pre ++ [⟨x.1, fld_poly x h⟩] := by
  simp [flF, List.filterMap_append, h]
theorem flF_no {d : Nat} (pre : List (PolyOf d)) (x : PolyOf d) (h : irr x.1 = false) : flF d (pre ++ [x]) = flF d pre := by
  simp [flF, List.filterMap_append, h]
theorem flF_le {d : Nat} (pre : List (PolyOf d)) : (flF d pre).length ≤ pre.length := List.length_filterMap_le _ _
theorem flF_polys (d : Nat) : ∀ k, k ≤ 2 ^ d → (flF d (polys d k)).map (·.1) = fOf d (2 ^ d + k)
  | 0, _ => by rw [Nat.add_zero, fOf_nil d _ (Nat.le_refl _)]; rfl
  | k + 1, h => by
    have ih := flF_polys d k (by omega)
    rw [polys_succ (by omega), show 2 ^ d + (k + 1) = (2 ^ d + k) + 1 by omega, fOf]
    cases hi : irr (2 ^ d + k) with
    | true => rw [flF_yes _ (polyAt d k (by omega)) hi, List.map_append, ih, if_pos ⟨by omega, rfl⟩]; rfl
    | false => rw [flF_no _ (polyAt d k (by omega)) hi, ih, if_neg (fun h => by cases h.2)]

set_option maxHeartbeats 400000 in
theorem fieldsOf_any (h : Int) (w : World) :
    Calls Try.prog 66 #[.int .i64 h] w fun e w' => e = .returned (.func (.func 119) #[] #[.pointer (some ⟨w.heap.size, 0, none⟩)]) ∧ w.alloc (.cells #[.int .i64 h] 2) = w' := by
  have hmf : ∀ (fn : Fn) (first cap : Array Value) (w : World), (Instr.makeFunc fn first cap).run Try.prog w = .ok (.func fn first cap) w := fun _ _ _ _ => rfl
  go_enter Try.func66, Try.ntmps66
  go_wp2
  go_ret
  exact ⟨rfl, rfl⟩

set_option maxRecDepth 100000 in
set_option maxHeartbeats 4000000 in
/-- There is no such degree: nothing comes. -/
theorem fieldsOf_no (d : Int) (hd : d < 1 ∨ 5 < d) (Bd : Nat) (w : World) (hc : w.cell? ⟨Bd, 0, none⟩ = some (.int .i64 d)) (hlt : Bd < w.heap.size) :
    SeqR Fence.wide 8 Try.prog 119 #[.pointer (some ⟨Bd, 0, none⟩)] (fun _ (x : FieldP d.toNat) => #[.agg #[.int .i64 d, .int .i64 (x.1 : Nat)]]) (fun _ _ _ => False) 1 (fun k => k = Bd) (fun xs => xs = []) (fun _ => False) 64 w := by
  intro l J Jx W hW hJ hJx hY h0
  have hcW := (hW.cell (p := ⟨Bd, 0, none⟩) hlt).trans hc
  have h0' : J [] (W.alloc (.cells #[.func (.yield l) #[] #[]] 37)) := hJ.alloc _ h0
  have HJ := Lib.hid h0'
  have HX := Lib.hid hY
  show CallsIn Fence.wide 8 Try.prog 119 #[.func (.yield l) #[] #[], .pointer (some ⟨Bd, 0, none⟩)] W _
  have hcW2 : (W.alloc (.cells #[.func (.yield l) #[] #[]] 37)).cell? ⟨Bd, 0, none⟩ = some (.int .i64 d) := cell_alloc_l _ hcW
  clear hY h0 h0' hcW
  refine callsIn_of_wp Try.func119 rfl trivial ?_ rfl
  simp only [Try.ntmps119, List.size_toArray, List.length_cons, List.length_nil, Nat.reduceAdd, Nat.reduceSub, Array.replicate_succ, Array.replicate_zero, List.push_toArray, List.append_toArray, List.nil_append, List.cons_append]
  by_cases h1 : d < 1
  · gi_wp2_with fail
    refine bodyPost_ret (results_none rfl _ _ _) rfl ?_
    exact ⟨⟨_, rfl⟩, HJ.out⟩
  · have h2 : 5 < d := by omega
    gi_wp2_with fail
    refine bodyPost_ret (results_none rfl _ _ _) rfl ?_
    exact ⟨⟨_, rfl⟩, HJ.out⟩

set_option maxRecDepth 100000 in
set_option maxHeartbeats 4000000 in
/-- The fields of a degree come in order. -/
theorem fieldsOf_R (d : Nat) (h1 : 1 ≤ d) (h5 : d ≤ 5) (Bd : Nat) (w : World) (hc : w.cell? ⟨Bd, 0, none⟩ = some (.int .i64 d)) (hlt : Bd < w.heap.size) :
    SeqR Fence.wide 8 Try.prog 119 #[.pointer (some ⟨Bd, 0, none⟩)] (fun _ (x : FieldP d) => #[.agg #[.int .i64 d, .int .i64 (x.1 : Nat)]]) (fun _ _ _ => True) 1 (fun k => k = Bd)
      (fun xs => xs.map (·.1) = fOf d (2 * 2 ^ d)) (fun xs => ∃ k, k ≤ 2 ^ d ∧ xs.map (·.1) = fOf d (2 ^ d + k)) 64 w := by
  intro l J Jx W hW hJ hJx hY h0
  have hcW := (hW.cell (p := ⟨Bd, 0, none⟩) hlt).trans hc
  have hBW : Bd < W.heap.size := Nat.lt_of_lt_of_le hlt hW.size
  have h0' : J [] (W.alloc (.cells #[.func (.yield l) #[] #[]] 37)) := hJ.alloc _ h0
  have hp5 : 2 ^ d ≤ 32 := Nat.pow_le_pow_right (n := 2) (by omega) h5
  have g1 : ¬ (d : Int) < 1 := by omega
  have g2 : ¬ 5 < (d : Int) := by omega
  have HJ := Lib.hid h0'
  have HX := Lib.hid hY
  have HA := Lib.hid hJ
  have HAx := Lib.hid hJx
  show CallsIn Fence.wide 8 Try.prog 119 #[.func (.yield l) #[] #[], .pointer (some ⟨Bd, 0, none⟩)] W _
  have hcW2 : (W.alloc (.cells #[.func (.yield l) #[] #[]] 37)).cell? ⟨Bd, 0, none⟩ = some (.int .i64 d) := cell_alloc_l _ hcW
  have hyW := cell_new_l W (.func (.yield l) #[] #[]) 37
  clear hY h0 h0' hcW hJ hJx
  refine callsIn_of_wp_marks Try.func119 rfl trivial ?_ rfl
  simp only [Try.ntmps119, List.size_toArray, List.length_cons, List.length_nil, Nat.reduceAdd, Nat.reduceSub, Array.replicate_succ, Array.replicate_zero, List.push_toArray, List.append_toArray, List.nil_append, List.cons_append]
  gi_wp2_with (refine ⟨trivial, ?_⟩; gi_at_call 68; refine (callsIn_wide.2 (polysOf_any _ _)).mono ?_; rintro e w' ⟨rfl, rfl⟩)
  have c2 := cell_new_l (W.alloc (.cells #[.func (.yield l) #[] #[]] 37)) (.int .i64 d) 2
  simp only [World.size_alloc] at c2
  refine wpIn_rangeFunc_ownG (α := PolyOf d) rfl (by omega) (gf := 121) (lb := #[.pointer (some ⟨W.heap.size + 1, 0, none⟩)]) rfl trivial (enters_of Try.func121 (by kernel_rfl) rfl)
    (polysOf_stops Fence.wide 7 trivial rfl (by omega) (W.heap.size + 1) d (2 ^ d) h5 rfl _ c2.1 (by simp)) (fun _ _ => trivial) (fun _ _ _ _ _ _ _ _ => trivial) (Below.refl _ _) (fun _ => rfl)
    (fun pre V => J (flF d pre) V ∧ V.cell? ⟨W.heap.size, 0, none⟩ = some (.func (.yield l) #[] #[]) ∧ V.cell? ⟨Bd, 0, none⟩ = some (.int .i64 d) ∧ W.heap.size + 1 ≤ V.heap.size)
    (fun c pre V => c = .ret ∧ Jx (flF d pre) V)
    (fun s A B row hs hg hr => ⟨HA.out.own (B' := _) (by simp; omega) _ A B row hs.1 hg hr, cell_kept hs.2.1 hg (fun r e => (hr r e).2), cell_kept hs.2.2.1 hg (fun r e => (hr r e).2), Nat.le_trans hs.2.2.2 hg.size⟩)
    (fun c s A B row hs hg hr => ⟨hs.1, HAx.out.own (B' := _) (by simp; omega) _ A B row hs.2 hg hr⟩)
    ⟨HA.out.alloc _ HJ.out, cell_alloc_l _ hyW.1, cell_alloc_l _ hcW2, by simp⟩
    (fun x => { tmps := #[.func (.yield l) #[] #[], .pointer (some ⟨Bd, 0, none⟩), .pointer (some ⟨W.heap.size, 0, none⟩), .int .i64 x.1, .int .i64 d, .bool false, .bool false, .int .i64 d, .bool false, .bool false, .int .i64 d, .func (.func 121) #[] #[.pointer (some ⟨W.heap.size + 1, 0, none⟩)], .int .i64 x.1, undef, undef, undef, undef, undef, undef, undef, undef, undef, undef], defers := [] }) ?assign ?body ?done ?stop
  case assign =>
    intro l' x V K hK
    gi_wp2
    exact hK
  case body =>
    rintro l' pre x V ⟨hj, hy0, hd0, hsz⟩ hlen
    have hx1 := x.2.1
    have hx2 := x.2.2
    have S := isIrreducible_any ((x.1 : Nat) : Int) (by omega) (by omega) V
    have hle := flF_le pre
    have HV := Lib.hid (And.intro hj hsz)
    cases hi : irr x.1 with
    | false =>
      rw [show irrI ((x.1 : Nat) : Int) = false by simp [irrI, hi]] at S
      have HI := Lib.hid hi
      have HS := Lib.hid S
      have HC := Lib.hid (And.intro hy0 hd0)
      clear S hi hj hy0 hd0
      gi_wp2_with (refine ⟨trivial, ?_⟩; gi_at_call 18; refine (CallsIn.inRound l' (callsIn_wide.2 HS.out)).mono ?_; rintro e V1 ⟨rfl, hb⟩; have HB1 := Lib.hid hb; clear hb)
      refine ⟨fun _ h => (by cases h), ?_⟩
      gi_wp2
      have hsz1 := HB1.out.size
      exact ⟨KeepsFrom.below HB1.out, trivial, by rw [flF_no _ _ HI.out]; exact HA.out.belowW HV.out.1 HB1.out, (HB1.out.cell (p := ⟨W.heap.size, 0, none⟩) (by have := HV.out.2; show W.heap.size < V.heap.size; omega)).trans HC.out.1, (HB1.out.cell (p := ⟨Bd, 0, none⟩) (by have := HV.out.2; show Bd < V.heap.size; omega)).trans HC.out.2, by have := HV.out.2; omega⟩
    | true =>
      rw [show irrI ((x.1 : Nat) : Int) = true by simp [irrI, hi]; omega] at S
      have HI := Lib.hid hi
      have HS := Lib.hid S
      have HC := Lib.hid (And.intro hy0 hd0)
      clear S hi hj hy0 hd0
      gi_wp2_with (refine ⟨trivial, ?_⟩; gi_at_call 18; refine (CallsIn.inRound l' (callsIn_wide.2 HS.out)).mono ?_; rintro e V1 ⟨rfl, hb⟩; have hy1 := (hb.cell (p := ⟨W.heap.size, 0, none⟩) (by have := HV.out.2; show W.heap.size < V.heap.size; omega)).trans HC.out.1; have hd1 := (hb.cell (p := ⟨Bd, 0, none⟩) (by have := HV.out.2; show Bd < V.heap.size; omega)).trans HC.out.2; obtain ⟨fn, tmps, assign, body, hy, hR⟩ := HX.out (flF d pre) ⟨x.1, fld_poly x HI.out⟩ V1 (HA.out.belowW HV.out.1 hb) (by have := HV.out.2; have := hb.size; omega) trivial (by omega); have HB1 := Lib.hid hb; have HR := Lib.hid hR; clear hb hR)
      refine (round_deep HR.out).mono ?_
      rintro e V2 ⟨hrnd, (⟨rfl, hj2⟩ | ⟨rfl, hj2⟩)⟩
      · have HR2 := Lib.hid hrnd
        have HJ2 := Lib.hid hj2
        have h1' := hrnd.cell (p := ⟨W.heap.size, 0, none⟩) (.inr ⟨Nat.le_refl _, by show W.heap.size < W.heap.size + 1; omega⟩) hy1
        have h2' := hrnd.cell (p := ⟨Bd, 0, none⟩) (.inl rfl) hd1
        have hsz2 := hrnd.size
        clear hrnd hj2
        gi_wp2
        exact ⟨((KeepsFrom.below HB1.out).trans (HR2.out.from (by simp; omega))), trivial, by rw [flF_yes _ _ HI.out]; exact HJ2.out, h1', h2', by have := HB1.out.size; have := HV.out.2; omega⟩
      · have HR2 := Lib.hid hrnd
        have HJ2 := Lib.hid hj2
        clear hrnd hj2
        gi_wp2
        exact ⟨((KeepsFrom.below HB1.out).trans (HR2.out.from (by simp; omega))), rfl, by rw [flF_yes _ _ HI.out]; exact HJ2.out⟩
  case done =>
    rintro D ys V hD rfl ⟨hj, hy0, hd0, hsz⟩ hK
    have HV := Lib.hid hj
    clear hj
    gi_wp2
    refine ⟨by simp, .inl ⟨_, _, rfl, run_takeDeferred hK, ?_⟩⟩
    exact ⟨_, results_none rfl _ _ _, ⟨_, rfl⟩, _, .inl ⟨by rw [flF_polys d _ (Nat.le_refl _), show 2 ^ d + 2 ^ d = 2 * 2 ^ d by omega], (HA.out.own (B' := W.heap.size) (Nat.le_refl _)).putObj _ HV.out (by simp at hD; omega) hK rfl⟩⟩
  case stop =>
    rintro D cc pre V hD ⟨k, hk, rfl⟩ ⟨rfl, hj⟩ hK
    have HV := Lib.hid hj
    clear hj
    gi_wp2
    refine ⟨by simp, .inl ⟨_, _, rfl, run_takeDeferred hK, ?_⟩⟩
    exact ⟨_, results_none rfl _ _ _, ⟨_, rfl⟩, _, .inr ⟨⟨k, hk, flF_polys d k hk⟩, (HAx.out.own (B' := W.heap.size) (Nat.le_refl _)).putObj _ HV.out (by simp at hD; omega) hK rfl⟩⟩
end Go.Proofs.Ytlchelaohiojiaa
