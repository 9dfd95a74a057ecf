/- The model's echelon form of rows over a field. -/
import Derived.Test.YtljaabmemjehpaaHW
import Derived.Test.YtljaabmemjehpaaHeld2
import Derived.Test.YtljaabmemjehpaaInv
import Derived.Maps.AppendAt
namespace Go.Proofs.Ytljaabmemjehpaa
open Go.RowKit Go.Joins
set_option linter.unusedVariables false
set_option linter.unusedSimpArgs false

theorem Res.rl {W : World} {B T : Nat} {A : Option Addr} {n cap : Nat} {zs : List Int} (h : Res W B T (.slice A n cap) zs) {k : Nat} (hin : allIn k zs = true) : Rl W .i64 A n (nats zs) := by
  have hl := h.len
  refine ⟨by rw [nats_length]; exact hl, fun h0 => ?_⟩
  obtain ⟨g, rfl, hc⟩ := h.at h0
  refine ⟨g, rfl, block_of_cell hc, fun j hj => ?_⟩
  obtain ⟨g', e, hc'⟩ := h.at hj
  injection e with e; injection e with e
  rw [e, hc', nats_nth hin]

theorem rl_news {W : World} {g n : Nat} {p : List Nat} (h : Rl W .i64 (some ⟨g, 0, none⟩) n p) : ∀ (j : Nat) (u : Value), ((ints p).map (Value.int .i64))[j]? = some u → W.cell? ((⟨g, 0, none⟩ : Addr).add j) = some u := by
  intro j u hu
  have hl := h.len
  have hj : j < p.length := by
    have := (List.getElem?_eq_some_iff.1 hu).1
    simpa [ints] using this
  obtain ⟨g', e, hg, hc⟩ := h.row (by omega)
  injection e with e; injection e with e
  subst e
  have hu' : u = .int .i64 (nth p j : Nat) := by
    simp only [ints, List.getElem?_map, List.getElem?_eq_getElem hj, Option.map_some, Option.some.injEq] at hu
    rw [← hu]; simp [nth, hj]
  rw [hu', ← hc j (by omega)]
  simp only [Addr.add]
  first | rfl | (split <;> first | rfl | (congr 2; omega)) | simp

set_option maxHeartbeats 1600000 in
theorem l00OwnR_any (A : Option Addr) (n cap : Nat) (p : List Nat) (h0 : 0 < n) (hn : n ≤ 1048576) (w : World) (hS : Rl w .i64 A n p) :
    Calls Try.prog 126 #[.slice A n cap] w fun e w' => ∃ A' cap', e = .returned (.slice A' n cap') ∧ Below w.heap.size w w' ∧ OL w' w.heap.size A' n cap' p := by
  obtain ⟨i0, hi, hz0, hz1, hz2⟩ := info_parts Try.infoI
  have hl := hS.len
  have hown : (w.alloc (.cells #[] 2)).ownsRow w.heap.size 2 1 (.slice (some ⟨w.heap.size, 0, none⟩) 0 0) 0 [] := World.ownsRow_made w #[] 0 (Nat.le_refl _) (by unfold maxLen; omega) (by simp)
  obtain ⟨ga, rfl, _, _⟩ := hS.row h0
  have hS2 := hS.below (below_alloc1 w (.cells #[] 2))
  go_enter Try.func126, Try.ntmps126
  go_wp2_with (at_builtin; refine wpList_append_own _ rfl _ _ 27 rfl w.heap.size 2 i0 (.int .i64 0) 1 8 Try.underlying27 hi hz0 hz1 hz2 rfl (by decide) _ _ _ rfl hown ⟨ga, 0, none⟩ n cap ((ints p).map (Value.int .i64)) rfl (by simp [ints]; omega) (rl_news hS2) (ints_one p) (by unfold maxLen; omega) (by omega) (by simp) ?_; intro v' w3 hown' hgrow _; have hb3 : Below w.heap.size w w3 := ((below_alloc1 w _).grown hgrow (by simp) (fun g hg => (hown.lt g hg).1)); obtain ⟨A', cp, hv, hol⟩ := OL.of (n := n) (p := p) (by simpa using hown'))
  subst hv
  clear hown' hgrow hown hS2
  go_wp2_with fail
  go_ret
  exact ⟨_, _, rfl, hb3, hol⟩
theorem OL.at {W : World} {B : Nat} {A : Option Addr} {n cap : Nat} {p : List Nat} (h : OL W B A n cap p) (h0 : 0 < n) : ∃ g, A = some ⟨g, 0, none⟩ ∧ B ≤ g ∧ g < W.heap.size ∧ Rl W .i64 (some ⟨g, 0, none⟩) n p ∧ ∀ j, W.frozen? ⟨g, j, none⟩ = false := by
  obtain ⟨g, e, h1, h2, h3, h4⟩ := h.row h0
  exact ⟨g, e, h1, h2, ⟨h.len, fun _ => ⟨g, rfl, h2, h3⟩⟩, h4⟩
theorem le_range (k : Nat) : (List.range (k + 1)) = List.range k ++ [k] := List.range_succ


theorem EC.inv0 {P N len n : Nat} {rows : List (List Int)} (hn : rows.length = n) (hok : okS N len rows = true) (hN : 0 < N) : EC P N len (rows.map fun r => nth (nats r)) 0 n 0 (fun j => nats (rw' rows j)) := by
  have h1 : ∀ j, j < n → (rw' rows j).length = len ∧ allIn N (rw' rows j) = true := fun j hj => by
    have := okS_get hok (j := j) (by omega)
    simp only [okR, Bool.and_eq_true, decide_eq_true_eq] at this
    exact ⟨by omega, this.2⟩
  refine EC.first ?_ (fun j hj => by rw [nats_length]; exact (h1 j hj).1) (fun j hj i => nats_lt (h1 j hj).2 hN i)
  refine List.ext_getElem (by simp [fs, hn]) (fun j h1 h2 => ?_)
  have hj : j < rows.length := by simpa using h2
  simp [fs, rw', hj]
theorem okS_vec {m P N len : Nat} (hF : Fld m P N) {rows : List (List Int)} (hok : okS N len rows = true) : ∀ r ∈ rows.map (fun r => nth (nats r)), InV N r ∧ OutV len r := fun r hr => by
  obtain ⟨z, hz, rfl⟩ := List.mem_map.1 hr
  unfold okS at hok
  rw [List.all_eq_true] at hok
  have := hok z hz
  simp only [okR, Bool.and_eq_true, decide_eq_true_eq] at this
  exact ⟨fun i => nats_lt this.2 (by have := hF.n2; omega) i, out_nth (by rw [nats_length]; omega)⟩
theorem G1.step {w0 W W' : World} {vs : List Value} (h : G1 w0 vs W) (hb : Below (w0.heap.size + 1) W W') : G1 w0 vs W' :=
  ⟨h.b.trans (hb.mono (by omega)), ⟨fun j v hv => (hb.cell (p := ⟨w0.heap.size, j, none⟩) (by show w0.heap.size < _; omega)).trans (h.x.cell j v hv), Nat.lt_of_lt_of_le h.x.lt hb.size⟩⟩

/-- Rows that are appended one by one to a list of the call's own. -/
structure LW (W : World) (B g len k cp : Nat) (hs : Nat → List Nat) (vs : Nat → Value) (b : Nat → Nat) : Prop where
  head : W.ownsRow B 27 1 (.slice (some ⟨g, 0, none⟩) k cp) k ((List.range k).map vs)
  form : ∀ j, j < k → ∃ cj, vs j = .slice (some ⟨b j, 0, none⟩) len cj
  row : ∀ j, j < k → Rl W .i64 (some ⟨b j, 0, none⟩) len (hs j)
  own : ∀ j, j < k → B ≤ b j ∧ b j ≠ g ∧ b j < W.heap.size ∧ ∀ i, W.frozen? ⟨b j, i, none⟩ = false
theorem LW.hw {W : World} {B g len k cp : Nat} {hs : Nat → List Nat} {vs : Nat → Value} {b : Nat → Nat} (h : LW W B g len k cp hs vs b) : HW W B g len k hs vs b :=
  ⟨(h.head.lt g rfl).2, (h.head.lt g rfl).1, fun j hj => by rw [h.head.cellAt j (by omega)]; simp [hj], fun j => h.head.frozenAt j, h.form, h.row, h.own⟩
theorem LW.cap {W : World} {B g len k cp : Nat} {hs : Nat → List Nat} {vs : Nat → Value} {b : Nat → Nat} (h : LW W B g len k cp hs vs b) : k ≤ cp := by
  rcases h.head.2 with ⟨e, _⟩ | ⟨g', c, cur, e, _, _, h1, _⟩
  · cases e
  · injection e with e1 e2 e3; omega
theorem LW.below {W W' : World} {B g len k cp : Nat} {hs : Nat → List Nat} {vs : Nat → Value} {b : Nat → Nat} (h : LW W B g len k cp hs vs b) (hb : Below W.heap.size W W') : LW W' B g len k cp hs vs b :=
  ⟨ownsRow_below h.head hb, h.form, fun j hj => (h.row j hj).below hb, fun j hj => by
    obtain ⟨h1, h2, h3, h4⟩ := h.own j hj
    exact ⟨h1, h2, Nat.lt_of_lt_of_le h3 hb.size, fun i => (hb.frozen (p := ⟨b j, i, none⟩) h3).trans (h4 i)⟩⟩
theorem Rl.at' {W W' : World} {K : IntKind} {q len : Nat} {p : List Nat} (h : Rl W K (some ⟨q, 0, none⟩) len p) (hg : W'.heap[q]? = W.heap[q]?) (hs : W.heap.size ≤ W'.heap.size) : Rl W' K (some ⟨q, 0, none⟩) len p :=
  ⟨h.len, fun h0 => by
    obtain ⟨x, e, hx, hc⟩ := h.row h0
    injection e with e; injection e with e
    subst e
    exact ⟨q, rfl, by omega, fun j hj => (World.cell?_of_block (w := W) (a := ⟨q, j, none⟩) hg).trans (hc j hj)⟩⟩
theorem LW.snoc {W w1 w2 : World} {B g len k cp g1 c1 : Nat} {hs : Nat → List Nat} {vs : Nat → Value} {b : Nat → Nat} {v' : Value} {O : Obj} (h : LW W B g len k cp hs vs b) (hI : Inj k b) (hb : Below W.heap.size W w1) (hg1 : W.heap.size ≤ g1) (hg2 : g1 < w1.heap.size) (hR : Rl w1 .i64 (some ⟨g1, 0, none⟩) len (hs k)) (hf : ∀ i, w1.frozen? ⟨g1, i, none⟩ = false)
    (hown : w2.ownsRow B 27 1 v' (k + 1) ((List.range k).map vs ++ [.slice (some ⟨g1, 0, none⟩) len c1])) (hgrow : (w1.alloc O).grownBy w2 (some g)) (hat : v'.ownBlock = some g ∨ v'.ownBlock = some (w1.alloc O).heap.size) :
    ∃ g' cp', v' = .slice (some ⟨g', 0, none⟩) (k + 1) cp' ∧ LW w2 B g' len (k + 1) cp' hs (up vs k (.slice (some ⟨g1, 0, none⟩) len c1)) (up b k g1) ∧ Inj (k + 1) (up b k g1) ∧ Below B w1 w2 := by
  rcases ownsRow_forms hown with ⟨_, e⟩ | ⟨g', cp', rfl⟩
  · omega
  have hlt := h.head.lt g rfl
  have hB1 : B ≤ w1.heap.size := by have := hb.size; omega
  have hz : (w1.alloc O).heap.size = w1.heap.size + 1 := by simp
  have hat' : g' = g ∨ g' = w1.heap.size + 1 := by
    simp only [Value.ownBlock, Option.some.injEq] at hat
    rw [hz] at hat; exact hat
  have hs2 : w1.heap.size + 1 ≤ w2.heap.size := by have := hgrow.size; omega
  have hold : ∀ q, q < w1.heap.size → q ≠ g → w2.heap[q]? = w1.heap[q]? := fun q hq hne => (hgrow.block q (by omega) (by simpa using hne)).trans ((below_alloc1 w1 O).block q hq)
  refine ⟨g', cp', rfl, ⟨?_, fun j hj => ?_, fun j hj => ?_, fun j hj => ?_⟩, fun i j hi hj hij => ?_, ((Below.refl _ w1).alloc hB1 _).grown hgrow (by omega) (fun q hq => by simp only [Option.some.injEq] at hq; omega)⟩
  · have e : (List.range (k + 1)).map (up vs k (.slice (some ⟨g1, 0, none⟩) len c1)) = (List.range k).map vs ++ [.slice (some ⟨g1, 0, none⟩) len c1] := by
      rw [le_range, List.map_append, List.map_singleton, up_same]
      congr 1
      refine List.map_congr_left (fun j hj => up_ne _ _ ?_)
      have := List.mem_range.1 hj; omega
    rw [e]; exact hown
  · by_cases e : j = k
    · subst e; rw [up_same, up_same]; exact ⟨_, rfl⟩
    · rw [up_ne _ _ e, up_ne _ _ e]; exact h.form j (by omega)
  · by_cases e : j = k
    · subst e; rw [up_same]; exact hR.at' (hold g1 hg2 (by omega)) (by omega)
    · rw [up_ne _ _ e]
      obtain ⟨o1, o2, o3, o4⟩ := h.own j (by omega)
      have hsz := hb.size
      exact ((h.row j (by omega)).below hb).at' (hold (b j) (by omega) o2) (by omega)
  · by_cases e : j = k
    · subst e; rw [up_same]
      exact ⟨by omega, by omega, by omega, fun i => (World.frozen?_of_block (w := w1) (a := ⟨g1, i, none⟩) (hold g1 hg2 (by omega))).trans (hf i)⟩
    · rw [up_ne _ _ e]
      obtain ⟨o1, o2, o3, o4⟩ := h.own j (by omega)
      have hsz := hb.size
      exact ⟨o1, by omega, by omega, fun i => ((World.frozen?_of_block (w := w1) (a := ⟨b j, i, none⟩) (hold (b j) (by omega) o2)).trans (hb.frozen (p := ⟨b j, i, none⟩) o3)).trans (o4 i)⟩
  · unfold up
    by_cases e1 : i = k
    · rw [if_pos e1, if_neg (by omega)]; have := (h.own j (by omega)).2.2.1; omega
    · rw [if_neg e1]
      by_cases e2 : j = k
      · rw [if_pos e2]; have := (h.own i (by omega)).2.2.1; omega
      · rw [if_neg e2]; exact hI i j (by omega) (by omega) hij

set_option maxRecDepth 100000 in
set_option maxHeartbeats 12800000 in
theorem l04Echelon_any (m P N : Nat) (hF : Fld m P N) (len : Nat) (hl0 : 0 < len) (hl5 : len ≤ 5) {v : Value} (rows : List (List Int)) (h10 : rows.length ≤ 10) (hok : okS N len rows = true) (w : World) (hA : RR w v rows) :
    Calls Try.prog 83 #[.agg #[.int .i64 m, .int .i64 P], .int .i64 (len : Int), v] w fun e w' => ∃ A k cap, e = .returned (.slice A k cap) ∧ k = (echL P N len rows).length ∧ Below w.heap.size w w' ∧ RS w' w.heap.size w'.heap.size (.slice A k cap) (echL P N len rows) := by
  obtain ⟨A, cap, rfl⟩ := hA.is
  obtain ⟨n, hn⟩ : ∃ n, rows.length = n := ⟨_, rfl⟩
  rw [hn] at hA h10 ⊢
  have hN2 := hF.n2
  have HRR := Lib.hid (okS_vec hF hok)
  have HIN : Hid (∀ j, j < n → allIn N (rw' rows j) = true ∧ (rw' rows j).length = len) := Lib.hid (fun j hj => by
    have := okS_get hok (j := j) (by omega)
    simp only [okR, Bool.and_eq_true, decide_eq_true_eq] at this
    exact ⟨this.2, by omega⟩)
  have HE0 := Lib.hid (EC.inv0 (P := P) hn hok (by omega))
  obtain ⟨R, hRdef⟩ : ∃ R, (rows.map fun r => nth (nats r)) = R := ⟨_, rfl⟩
  have HLAST : Hid (∀ at_ hs, EC P N len R len n at_ hs → echL P N len rows = (List.range at_).map fun j => ints (hs j)) := Lib.hid (fun at_ hs h => EC.last hF HRR.out (by rw [hRdef]; exact h))
  rw [hRdef] at HRR HE0
  have HA := Lib.hid hA
  have HN := Lib.hid hn
  clear hA hn hok hRdef
  obtain ⟨i0, hi, hz0, hz1, hz2⟩ := info_parts Try.infoI
  obtain ⟨i1, hi', hz0', hz1', hz2'⟩ := info_parts Try.infoSl
  have hG := G1.start w [.int .i64 m, .int .i64 P] 31
  have HG0 := Lib.hid (hG.next (below_alloc1 _ (.cells #[] 27)))
  have HL0 : Hid (LW ((w.alloc (.cells [.int .i64 m, .int .i64 P].toArray 31)).alloc (.cells #[] 27)) (w.heap.size + 1) (w.heap.size + 1) len 0 0 (fun j => nats (rw' rows j)) (fun _ => undef) (fun _ => 0)) := Lib.hid ⟨by
    have h1 := World.ownsRow_made (base := w.heap.size + 1) (e := 27) (size := 1) (w.alloc (.cells [.int .i64 m, .int .i64 P].toArray 31)) #[] 0 (by simp) (by unfold maxLen; omega) (by simp)
    rw [World.size_alloc] at h1
    exact h1, fun j hj => by omega, fun j hj => by omega, fun j hj => by omega⟩
  clear hG
  go_enter Try.func83, Try.ntmps83
  go_wp2_with fail
  go_loopw [7, 8] (fun lv iv wr => ∃ (k g cp : Nat) (vs : Nat → Value) (b : Nat → Nat), k ≤ n ∧ iv = .int .i64 k ∧ lv = .slice (some ⟨g, 0, none⟩) k cp ∧ G1 w [.int .i64 m, .int .i64 P] wr ∧ LW wr (w.heap.size + 1) g len k cp (fun j => nats (rw' rows j)) vs b ∧ Hid (Inj k b)) (fun _ iv _ => n - (intOf iv).toNat)
  case atStart => exact ⟨0, w.heap.size + 1, 0, _, _, Nat.zero_le _, rfl, rfl, HG0.out, HL0.out, Lib.hid (fun i j hi => by omega)⟩
  case round =>
    obtain ⟨k, g, cp, vs, b, hk, rfl, rfl, hG, hL, HJ⟩ := hrel
    clear HG0 HL0
    by_cases hlt : k < n
    · obtain ⟨_, ga, rfl, hgl, Ak, nk, ck, Bk, Tk, hck, hRk⟩ := (HA.out.next hG.b).row hlt
      have hkk := HIN.out k hlt
      have hnk : nk = len := by have := hRk.len; omega
      subst hnk
      have HRL := Lib.hid (l00OwnR_any Ak nk ck (nats (rw' rows k)) hl0 (by omega) wr (hRk.rl hkk.1))
      have HG4 := Lib.hid hG
      have HL4 := Lib.hid hL
      have hbz := hG.z
      clear hG hL hRk hkk
      go_wp2_with fail
      refine HRL.out.mono ?_
      rintro e w1 ⟨A1, c1, rfl, hb1, hO1⟩
      obtain ⟨g1, rfl, hg1, hg2, hR1, hf1⟩ := hO1.at hl0
      have HG5 := Lib.hid (HG4.out.next hb1)
      have HL5 := Lib.hid (HL4.out.below hb1)
      have HB1 := Lib.hid (And.intro hb1 (And.intro hg1 (And.intro hg2 (And.intro hR1 hf1))))
      have hbz1 := HG5.out.z
      clear hb1 hO1 hg1 hg2 hR1 hf1
      go_wp2_with (at_builtin; refine wpList_append_own_at _ rfl _ _ 24 rfl (w.heap.size + 1) 27 i1 (.slice none 0 0) 1 24 Try.underlying24 hi' hz0' hz1' hz2' rfl (by decide) _ _ _ rfl (HL5.out.head.alloc _) ⟨w1.heap.size, 0, none⟩ 1 1 [.slice (some ⟨g1, 0, none⟩) nk c1] rfl rfl (one_new w1 _ _) (by intro u hu; simp at hu; subst hu; rfl) (by unfold maxLen; omega) (by omega) (by simp; omega) ?_; intro v' w2 hown' hgrow _ hat; have HAP := Lib.hid (And.intro hown' (And.intro hgrow hat)); clear hown' hgrow hat)
      obtain ⟨hown', hgrow, hat⟩ := HAP.out
      obtain ⟨hb1, hg1, hg2, hR1, hf1⟩ := HB1.out
      obtain ⟨g', cp', rfl, hL6, hJ6, hb6⟩ := HL4.out.snoc HJ.out hb1 hg1 hg2 hR1 hf1 hown' hgrow hat
      have HG6 := Lib.hid (HG5.out.step hb6)
      have HL6 := Lib.hid hL6
      clear HAP hown' hgrow hat hb1 hg1 hg2 hR1 hf1 hL6 hb6
      go_wp2_with fail
      go_roundw
      case rel => exact ⟨k + 1, g', cp', _, _, by omega, by go_num, rfl, HG6.out, HL6.out, Lib.hid hJ6⟩
      case measure => simp [intOf]; omega
    · obtain rfl : n = k := by omega
      have hcp := hL.cap
      have HG4 := Lib.hid hG
      have HW4 := Lib.hid hL.hw
      clear hG hL
      go_wp2_with fail
      go_loopw [9, 10] (fun av cv wr => ∃ (at_ cc : Nat) (hs : Nat → List Nat) (vs : Nat → Value) (b : Nat → Nat), cc ≤ len ∧ av = .int .i64 at_ ∧ cv = .int .i64 cc ∧ G1 w [.int .i64 m, .int .i64 P] wr ∧ HW wr (w.heap.size + 1) g len n hs vs b ∧ Hid (Inj n b) ∧ Hid (EC P N len R cc n at_ hs)) (fun _ cv _ => len - (intOf cv).toNat)
      case atStart => exact ⟨0, 0, _, _, _, Nat.zero_le _, rfl, rfl, HG4.out, HW4.out, HJ, HE0⟩
      case round =>
        obtain ⟨at_, cc, hs, vs, b, hcc, rfl, rfl, hG, hW, HJ, HEC⟩ := hrel
        clear HG4 HW4
        have hak := HEC.out.le
        by_cases hcl : cc < len
        · have HG4 := Lib.hid hG
          have HW4 := Lib.hid hW
          clear hG hW
          go_wp2_with fail
          go_loop [11] (fun kv => ∃ k : Nat, at_ ≤ k ∧ k ≤ n ∧ kv = .int .i64 k ∧ Hid (∀ j, at_ ≤ j → j < k → nth (hs j) cc = 0)) (fun kv => n - (intOf kv).toNat)
          case atStart => exact ⟨at_, Nat.le_refl _, hak, rfl, Lib.hid (fun j h1 h2 => by omega)⟩
          case round =>
            obtain ⟨k, hka, hkn', rfl, H0⟩ := hrel
            have hG := HG4.out
            have hW := HW4.out
            by_cases hkn : k < n
            · obtain ⟨ck, hvk⟩ := hW.form k hkn
              have hck := hW.cell k hkn
              rw [hvk] at hck
              have hrk := hW.row k hkn
              obtain ⟨bk, hbk⟩ : ∃ x, b k = x := ⟨_, rfl⟩
              rw [hbk] at hck hrk
              obtain ⟨xk, hxk⟩ : ∃ x, nth (hs k) cc = x := ⟨_, rfl⟩
              obtain ⟨gi, e, hgi, hcells⟩ := hrk.row hl0
              injection e with e; injection e with e
              subst e
              have hce := hcells cc hcl
              rw [hxk] at hce
              have HXK := Lib.hid hxk
              clear hxk hcells hrk hgi
              by_cases hxk0 : xk = 0
              · subst hxk0
                clear hG hW hvk hbk
                go_wp2_with fail
                go_round
                case rel => exact ⟨k + 1, by omega, by omega, by go_num, Lib.hid (fun j h1 h2 => by
                  by_cases e : j = k
                  · subst e; exact HXK.out
                  · exact H0.out j h1 (by omega))⟩
                case measure => simp [intOf]; omega
              · clear hvk HG4 HW4
                have hat : at_ < n := by omega
                obtain ⟨ca, hva⟩ := hW.form at_ hat
                have hca := hW.cell at_ hat
                rw [hva] at hca
                have hfk := hW.free k
                obtain ⟨ba, hba⟩ : ∃ x, b at_ = x := ⟨_, rfl⟩
                rw [hba] at hca
                have HBK := Lib.hid hbk
                have HBA := Lib.hid hba
                have HVA := Lib.hid hva
                obtain ⟨q, hqq⟩ : ∃ q, normW P N len cc (hs k) = q := ⟨_, rfl⟩
                have HQQ := Lib.hid hqq
                have HUP : Hid (∀ i, i < n → ∀ j, nth (up hs k (hs at_) i) j < N) := Lib.hid (fun i hi j => by
                  unfold up
                  split
                  · exact HEC.out.lt at_ hat j
                  · exact HEC.out.lt i hi j)
                have hxn : xk < N := by rw [← HXK.out]; exact HEC.out.lt k hkn cc
                obtain ⟨y0, hy0⟩ : ∃ y, inv P N xk = y := ⟨_, rfl⟩
                have hyn : y0 < N := by rw [← hy0]; exact inv_lt hF _
                have HQL : Hid (∀ j, nth q j < N) := Lib.hid (by
                  rw [← hqq]
                  exact addW_lt hF (lst_length _ _) (HEC.out.len k hkn) (inv_lt hF _) (fun j => by rw [nth_zeros]; have := hF.n2; show 0 < N; omega) (HEC.out.lt k hkn))
                have HIV : Hid (∀ W, Calls Try.prog 127 #[.agg #[.int .i64 m, .int .i64 P], .int .i64 (xk : Int)] W fun e w' => e = .returned (.int .i64 (y0 : Int)) ∧ Below W.heap.size W w') := Lib.hid (fun W => by rw [← hy0]; exact l01Inverse_any m P N hF xk hxn W)
                have HY0 : Hid (addW P (lst (fun _ => 0) len) (hs k) y0 len = q) := Lib.hid (by rw [← hqq, normW, HXK.out, hy0])
                obtain ⟨Φ, hΦ⟩ : ∃ Φ : World → Prop, Φ = fun W => G1 w [.int .i64 m, .int .i64 P] W ∧ HW W (w.heap.size + 1) g len n (up hs k (hs at_)) (up vs k (.slice (some ⟨ba, 0, none⟩) len ca)) (up b k ba) ∧ Rl W .i64 (some ⟨bk, 0, none⟩) len (hs k) ∧ ∀ j, j < n → b j < W.heap.size := ⟨_, rfl⟩
                have F0 : Φ (wr.setCell ⟨g, k, none⟩ (.slice (some ⟨ba, 0, none⟩) len ca)).drew := by
                  rw [hΦ]
                  have h1 := hW.row at_ hat
                  have h2 := hW.own at_ hat
                  have h3 := hW.row k hkn
                  have h4 := hW.own k hkn
                  rw [HBA.out] at h1 h2
                  rw [HBK.out] at h3 h4
                  refine ⟨(hG.set (by have := hW.low; omega) _ _).drew, (hW.set hkn h1 h2.1 h2.2.1 h2.2.2.1 h2.2.2.2).below (Below.refl _ _).drew, (h3.other h4.2.1 _ _).below (Below.refl _ _).drew, fun j hj => ?_⟩
                  have := (hW.own j hj).2.2.1
                  show b j < (World.setCell _ _ _).heap.size
                  rw [size_setCell_]; exact this
                have SP : Hid (∀ W W', Φ W → Below W.heap.size W W' → Φ W') := fun W W' h hb => by
                  rw [hΦ] at h ⊢
                  exact ⟨h.1.next hb, h.2.1.below hb, h.2.2.1.below hb, fun j hj => Nat.lt_of_lt_of_le (h.2.2.2 j hj) hb.size⟩
                have CA : Hid (∀ W, Φ W → G1 w [.int .i64 m, .int .i64 P] W) := fun W h => by rw [hΦ] at h; exact h.1
                have CI : Hid (∀ W, Φ W → W.cell? ⟨g, at_, none⟩ = some (.slice (some ⟨ba, 0, none⟩) len ca)) := fun W h => by
                  rw [hΦ] at h
                  have := h.2.1.cell at_ hat
                  by_cases e : at_ = k
                  · rw [e, up_same] at this; rw [e]; exact this
                  · rw [up_ne _ _ e, HVA.out, HBA.out] at this; exact this
                have CE : Hid (∀ W, Φ W → W.cell? ⟨bk, cc, none⟩ = some (.int .i64 (xk : Int))) := fun W h => by
                  rw [hΦ] at h
                  obtain ⟨gi, e, _, hcells⟩ := h.2.2.1.row hl0
                  injection e with e; injection e with e
                  rw [e, hcells cc hcl, HXK.out]
                have CF : Hid (∀ W, Φ W → W.frozen? ⟨g, at_, none⟩ = false) := fun W h => by rw [hΦ] at h; exact h.2.1.free _
                have CL : Hid (∀ W gz, Φ W → Wr W .i64 gz len (fun _ => 0) → Calls Try.prog 112 #[.agg #[.int .i64 m, .int .i64 P], .slice (some ⟨gz, 0, none⟩) len len, .slice (some ⟨bk, 0, none⟩) len ck, .int .i64 (y0 : Int)] W fun e w' => ∃ D cd, e = .returned (.slice D len cd) ∧ Below W.heap.size W w' ∧ OL w' W.heap.size D len cd q) := fun W gz h hz => by
                  rw [hΦ] at h
                  rw [← HY0.out]
                  exact l04Add_any m P N hF _ _ len len ck (lst (fun _ => 0) len) (hs k) y0 hyn (fun j => by rw [nth_zeros]; have := hF.n2; show 0 < N; omega) (HEC.out.lt k hkn) (by omega) W hz.rl h.2.2.1
                have CX : Hid (∀ (W W0 : World) (g2 : Nat), Φ W → W0.heap.size ≤ g2 → Φ W0 → g2 ≠ g ∧ ∀ j, j < n → b j ≠ g2) := fun W W0 g2 h h2 h0 => by
                  rw [hΦ] at h0
                  exact ⟨by have := h0.2.1.lt; omega, fun j hj => by have := h0.2.2.2 j hj; omega⟩
                have CN : Hid (∀ (W : World) (g2 cd : Nat), Φ W → g2 < W.heap.size → w.heap.size + 1 ≤ g2 → Rl W .i64 (some ⟨g2, 0, none⟩) len q → (∀ j, W.frozen? ⟨g2, j, none⟩ = false) → (g2 ≠ g ∧ ∀ j, j < n → b j ≠ g2) →
                    G1 w [.int .i64 m, .int .i64 P] (W.setCell ⟨g, at_, none⟩ (.slice (some ⟨g2, 0, none⟩) len cd)) ∧ HW (W.setCell ⟨g, at_, none⟩ (.slice (some ⟨g2, 0, none⟩) len cd)) (w.heap.size + 1) g len n (up (up hs k (hs at_)) at_ q) (up (up vs k (.slice (some ⟨ba, 0, none⟩) len ca)) at_ (.slice (some ⟨g2, 0, none⟩) len cd)) (up (up b k ba) at_ g2) ∧ Inj n (up (up b k ba) at_ g2)) := fun W g2 cd h h1 h2 h3 h4 h5 => by
                  rw [hΦ] at h
                  have hba' := HBA.out
                  refine ⟨h.1.set (by have := h.2.1.low; omega) _ _, h.2.1.set hat h3 h2 h5.1 h1 h4, fun x z hx hz hxz => ?_⟩
                  have hv : ∀ j, j < n → up b k ba j ≠ g2 := fun j hj => by
                    unfold up
                    split
                    · rw [← hba']; exact h5.2 at_ hat
                    · exact h5.2 j hj
                  by_cases e1 : x = at_
                  · rw [e1, up_same, up_ne _ _ (by omega)]; exact (hv z hz).symm
                  · rw [up_ne _ _ e1]
                    by_cases e2 : z = at_
                    · rw [e2, up_same]; exact hv x hx
                    · rw [up_ne _ _ e2]
                      unfold up
                      by_cases e3 : x = k
                      · rw [if_pos e3, if_neg (by omega), ← hba']; exact HJ.out at_ z hat hz (by omega)
                      · rw [if_neg e3]
                        by_cases e4 : z = k
                        · rw [if_pos e4, ← hba']; exact HJ.out x at_ hx hat (by omega)
                        · rw [if_neg e4]; exact HJ.out x z hx hz hxz
                have a0 : wr.cell? ⟨w.heap.size, 0, none⟩ = some (.int .i64 m) := hG.x.cell 0 _ rfl
                have a1 : wr.cell? ⟨w.heap.size, 1, none⟩ = some (.int .i64 P) := hG.x.cell 1 _ rfl
                clear hΦ hG hW hbk hba hva hqq hy0
                go_wp2_with fail
                refine wp_region_S (n := 14) (S := Φ) (by kernel_rfl) (by kernel_rfl) F0 (fun G inv hS => ?_)
                clear a0 a1 hck hca hfk hce F0
                refine wpAnyS_take (i := 0) (v := ?_) G inv hS (by decide) rfl (by kernel_rfl) (by kernel_rfl) (fun _ _ _ h => h) (Or.inl ⟨by kernel_rfl, fun W hW => ?_⟩) (fun inv => ?_)
                rotate_left
                · have z0 := (CA.out _ hW).x.cell 0 _ rfl
                  have z1 := (CA.out _ hW).x.cell 1 _ rfl
                  have z2 := CE.out _ hW
                  go_simp
                  try with_reducible rfl
                try simp only [Act.put, List.setIfInBounds_toArray, List.set_cons_zero, List.set_cons_succ]
                refine wpAnyS_take (i := 1) (v := ?_) G inv hS (by decide) rfl (by kernel_rfl) (by kernel_rfl) (fun _ _ _ h => h) (Or.inl ⟨by kernel_rfl, fun W hW => ?_⟩) (fun inv => ?_)
                rotate_left
                · have z0 := (CA.out _ hW).x.cell 0 _ rfl
                  have z1 := (CA.out _ hW).x.cell 1 _ rfl
                  have z2 := CE.out _ hW
                  go_simp
                  try with_reducible rfl
                try simp only [Act.put, List.setIfInBounds_toArray, List.set_cons_zero, List.set_cons_succ]
                refine wpAnyS_take (i := 2) (v := ?_) G inv hS (by decide) rfl (by kernel_rfl) (by kernel_rfl) (fun _ _ _ h => h) (Or.inl ⟨by kernel_rfl, fun W hW => ?_⟩) (fun inv => ?_)
                rotate_left
                · have z0 := (CA.out _ hW).x.cell 0 _ rfl
                  have z1 := (CA.out _ hW).x.cell 1 _ rfl
                  have z2 := CE.out _ hW
                  go_simp
                  try with_reducible rfl
                try simp only [Act.put, List.setIfInBounds_toArray, List.set_cons_zero, List.set_cons_succ]
                refine wpAnyS_take (i := 3) (v := ?_) G inv hS (by decide) rfl (by kernel_rfl) (by kernel_rfl) (fun _ _ _ h => h) (Or.inl ⟨by kernel_rfl, fun W hW => ?_⟩) (fun inv => ?_)
                rotate_left
                · have z0 := (CA.out _ hW).x.cell 0 _ rfl
                  have z1 := (CA.out _ hW).x.cell 1 _ rfl
                  have z2 := CE.out _ hW
                  go_simp
                  try with_reducible rfl
                try simp only [Act.put, List.setIfInBounds_toArray, List.set_cons_zero, List.set_cons_succ]
                refine wpAnyS_take (i := 5) (v := ?_) G inv hS (by decide) rfl (by kernel_rfl) (by kernel_rfl) (fun _ _ _ h => h) (Or.inl ⟨by kernel_rfl, fun W hW => ?_⟩) (fun inv => ?_)
                rotate_left
                · have z0 := (CA.out _ hW).x.cell 0 _ rfl
                  have z1 := (CA.out _ hW).x.cell 1 _ rfl
                  have z2 := CE.out _ hW
                  go_simp
                  try with_reducible rfl
                try simp only [Act.put, List.setIfInBounds_toArray, List.set_cons_zero, List.set_cons_succ]
                refine wpAnyS_take (i := 6) (v := ?_) G inv hS (by decide) rfl (by kernel_rfl) (by kernel_rfl) (fun _ _ _ h => h) (Or.inl ⟨by kernel_rfl, fun W hW => ?_⟩) (fun inv => ?_)
                rotate_left
                · have z0 := (CA.out _ hW).x.cell 0 _ rfl
                  have z1 := (CA.out _ hW).x.cell 1 _ rfl
                  have z2 := CE.out _ hW
                  go_simp
                  try with_reducible rfl
                try simp only [Act.put, List.setIfInBounds_toArray, List.set_cons_zero, List.set_cons_succ]
                refine wpAnyS_take (i := 7) (v := ?_) G inv hS (by decide) rfl (by kernel_rfl) (by kernel_rfl) (fun _ _ _ h => h) (Or.inl ⟨by kernel_rfl, fun W hW => ?_⟩) (fun inv => ?_)
                rotate_left
                · have z0 := (CA.out _ hW).x.cell 0 _ rfl
                  have z1 := (CA.out _ hW).x.cell 1 _ rfl
                  have z2 := CE.out _ hW
                  go_simp
                  try with_reducible rfl
                try simp only [Act.put, List.setIfInBounds_toArray, List.set_cons_zero, List.set_cons_succ]
                refine wpAnyS_take (i := 8) (v := ?_) G inv hS (by decide) rfl (by kernel_rfl) (by kernel_rfl) (fun _ _ _ h => h) (Or.inl ⟨by kernel_rfl, fun W hW => ?_⟩) (fun inv => ?_)
                rotate_left
                · have z0 := (CA.out _ hW).x.cell 0 _ rfl
                  have z1 := (CA.out _ hW).x.cell 1 _ rfl
                  have z2 := CE.out _ hW
                  go_simp
                  try with_reducible rfl
                try simp only [Act.put, List.setIfInBounds_toArray, List.set_cons_zero, List.set_cons_succ]
                refine wpAnyS_take (i := 9) (v := ?_) G inv hS (by decide) rfl (by kernel_rfl) (by kernel_rfl) (fun _ _ _ h => h) (Or.inl ⟨by kernel_rfl, fun W hW => ?_⟩) (fun inv => ?_)
                rotate_left
                · have z0 := (CA.out _ hW).x.cell 0 _ rfl
                  have z1 := (CA.out _ hW).x.cell 1 _ rfl
                  have z2 := CE.out _ hW
                  go_simp
                  try with_reducible rfl
                try simp only [Act.put, List.setIfInBounds_toArray, List.set_cons_zero, List.set_cons_succ]
                refine wpAnyS_take (i := 10) (v := ?_) G inv hS (by decide) rfl (by kernel_rfl) (by kernel_rfl) (fun _ _ _ h => h) (Or.inl ⟨by kernel_rfl, fun W hW => ?_⟩) (fun inv => ?_)
                rotate_left
                · have z0 := (CA.out _ hW).x.cell 0 _ rfl
                  have z1 := (CA.out _ hW).x.cell 1 _ rfl
                  have z2 := CE.out _ hW
                  go_simp
                  try with_reducible rfl
                try simp only [Act.put, List.setIfInBounds_toArray, List.set_cons_zero, List.set_cons_succ]
                refine wpAnyS_two (i := 4) (j := 11) (by kernel_rfl) rfl rfl ?_ ?_
                case refine_1 =>
                  have hbs := (CA.out _ hS).z
                  refine wpList_make_full _ rfl _ _ 27 rfl (w.heap.size + 1) 2 i0 (.int .i64 0) 1 Try.underlying27 hi hz0 hz1 .i64 .i64 (len : Int) (len : Int) len (by simp [Act.eval]) (by simp [Act.eval]) rfl rfl (by rw [hz2]; omega) (by unfold maxLen; omega) hbs ?_
                  intro w2 hown hgrow
                  have hgr := (Below.refl _ _).grown hgrow (Nat.le_refl _) (fun k h => by cases h)
                  have hsz : (wr.setCell ⟨g, k, none⟩ (.slice (some ⟨ba, 0, none⟩) len ca)).drew.heap.size = wr.heap.size := size_setCell_ ..
                  rw [hsz] at hown
                  have HZ := Lib.hid (Wr.made (K := .i64) hown)
                  have F2 : Φ w2 := SP.out _ _ hS hgr
                  clear hown hgrow hgr hbs hsz
                  change (4 ≠ 14 → Φ w2) ∧ _
                  refine ⟨fun _ => F2, ?_⟩
                  try simp only [Act.put, List.setIfInBounds_toArray, List.set_cons_zero, List.set_cons_succ]
                  refine wpAnyS_step (i := 11) (by kernel_rfl) rfl ?_
                  go_wp2_with (go_at_call 127; refine (HIV.out _).mono ?_; rintro e w3 ⟨rfl, hb1⟩)
                  have F3 : Φ w3 := SP.out _ _ F2 hb1
                  replace HZ := Lib.hid (HZ.out.below hb1)
                  clear hb1
                  change (11 ≠ 14 → Φ w3) ∧ _
                  refine ⟨fun _ => F3, ?_⟩
                  refine wpAnyS_step (i := 12) (by kernel_rfl) rfl ?_
                  go_wp2_with (go_at_call 112; refine (CL.out _ _ F3 HZ.out).mono ?_; rintro e w4 ⟨D, cd, rfl, hb1, hO⟩)
                  have F4 : Φ w4 := SP.out _ _ F3 hb1
                  obtain ⟨g2, rfl, hg2, hg3, hR2, hfr2⟩ := hO.at hl0
                  have hnew := CX.out _ _ _ F4 hg2 F3
                  have hlo := Nat.le_trans (CA.out _ F3).z hg2
                  clear hO hb1 hg2
                  change (12 ≠ 14 → Φ w4) ∧ _
                  refine ⟨fun _ => F4, ?_⟩
                  refine wpAnyS_step (i := 13) (by kernel_rfl) rfl ?_
                  go_wp2
                  change (13 ≠ 14 → Φ w4) ∧ _
                  refine ⟨fun _ => F4, ?_⟩
                  have y0 := CI.out _ F4
                  have y1 := CF.out _ F4
                  refine wpAnyS_step (i := 14) (by kernel_rfl) rfl ?_
                  go_wp2
                  refine ⟨fun h => absurd rfl h, ?_⟩
                  refine wpAnyS_done (by kernel_rfl) ?_ _
                  have HEND := CN.out _ g2 cd F4 hg3 hlo hR2 hfr2 hnew
                  go_wp2_with fail
                  go_loopw [13] (fun ii wr => ∃ (i : Nat) (hs' : Nat → List Nat) (vs' : Nat → Value) (b' : Nat → Nat), i ≤ n ∧ ii = .int .i64 i ∧ G1 w [.int .i64 m, .int .i64 P] wr ∧ HW wr (w.heap.size + 1) g len n hs' vs' b' ∧ Hid (Inj n b') ∧ Hid (∀ j, j < n → hs' j = if j < i then stepW P len cc at_ k q hs j else up (up hs k (hs at_)) at_ q j)) (fun ii _ => n - (intOf ii).toNat)
                  case atStart => exact ⟨0, _, _, _, Nat.zero_le _, rfl, HEND.1, HEND.2.1, Lib.hid HEND.2.2, Lib.hid (fun j hj => by rw [if_neg (by omega)])⟩
                  case round =>
                    obtain ⟨i, hs', vs', b', hi', rfl, hG, hW, HJ, HE⟩ := hrel
                    clear HEND
                    by_cases hlt : i < n
                    · by_cases hia : i = at_
                      · subst hia
                        have HG4 := Lib.hid hG
                        have HW4 := Lib.hid hW
                        clear hG hW
                        go_wp2_with fail
                        go_roundw
                        case rel => exact ⟨i + 1, hs', vs', b', by omega, by go_num, HG4.out, HW4.out, HJ, Lib.hid (fun j hj => by
                          rw [HE.out j hj]
                          by_cases e : j < i
                          · rw [if_pos e, if_pos (by omega)]
                          · rw [if_neg e]
                            by_cases e2 : j = i
                            · subst e2; rw [if_pos (by omega), up_same, stepW, if_pos rfl]
                            · rw [if_neg (by omega)])⟩
                        case measure => simp [intOf]; omega
                      · have hei : hs' i = up hs k (hs at_) i := by rw [HE.out i hlt, if_neg (by omega), up_ne _ _ hia]
                        have heq : hs' at_ = q := by
                          rw [HE.out at_ hat]
                          split
                          · rw [stepW, if_pos rfl]
                          · exact up_same _ _ _
                        obtain ⟨ci, hvi⟩ := hW.form i hlt
                        obtain ⟨ca, hva⟩ := hW.form at_ hat
                        have hci := hW.cell i hlt
                        have hca := hW.cell at_ hat
                        rw [hvi] at hci
                        rw [hva] at hca
                        obtain ⟨bi, hbi⟩ : ∃ x, b' i = x := ⟨_, rfl⟩
                        obtain ⟨ba, hba⟩ : ∃ x, b' at_ = x := ⟨_, rfl⟩
                        rw [hbi] at hci
                        rw [hba] at hca
                        have hri := hW.row i hlt
                        have hra := hW.row at_ hat
                        rw [hbi] at hri
                        rw [hba] at hra
                        obtain ⟨x, hx⟩ : ∃ x, nth (hs' i) cc = x := ⟨_, rfl⟩
                        obtain ⟨gi, e, hgi, hcells⟩ := hri.row hl0
                        injection e with e; injection e with e
                        subst e
                        have hce := hcells cc hcl
                        rw [hx] at hce
                        have HX := Lib.hid hx
                        have HEI := Lib.hid hei
                        have HEQ := Lib.hid heq
                        have HBI := Lib.hid hbi
                        have HBA := Lib.hid hba
                        have HVI := Lib.hid hvi
                        have HVA := Lib.hid hva
                        clear hx hei heq hcells hri hra hbi hba hvi hva
                        by_cases hx0 : x = 0
                        · subst hx0
                          have HG4 := Lib.hid hG
                          have HW4 := Lib.hid hW
                          clear hG hW
                          go_wp2_with fail
                          go_roundw
                          case rel => exact ⟨i + 1, hs', vs', b', by omega, by go_num, HG4.out, HW4.out, HJ, Lib.hid (fun j hj => by
                            by_cases e2 : j = i
                            · subst e2; rw [if_pos (by omega), stepW, if_neg hia, ← HEI.out, if_pos HX.out]
                            · rw [HE.out j hj]
                              by_cases e : j < i
                              · rw [if_pos e, if_pos (by omega)]
                              · rw [if_neg e, if_neg (by omega)])⟩
                          case measure => simp [intOf]; omega
                        · have hxn : x < N := by rw [← HX.out, HEI.out]; exact HUP.out i hlt cc
                          obtain ⟨Φ, hΦ⟩ : ∃ Φ : World → Prop, Φ = fun W => G1 w [.int .i64 m, .int .i64 P] W ∧ HW W (w.heap.size + 1) g len n hs' vs' b' := ⟨_, rfl⟩
                          have F0 : Φ wr.drew := by rw [hΦ]; exact ⟨hG.drew, hW.below (Below.refl _ wr).drew⟩
                          have SP : Hid (∀ W W', Φ W → Below W.heap.size W W' → Φ W') := fun W W' h hb => by rw [hΦ] at h ⊢; exact ⟨h.1.next hb, h.2.below hb⟩
                          have CA : Hid (∀ W, Φ W → G1 w [.int .i64 m, .int .i64 P] W) := fun W h => by rw [hΦ] at h; exact h.1
                          have CI : Hid (∀ W, Φ W → W.cell? ⟨g, i, none⟩ = some (.slice (some ⟨bi, 0, none⟩) len ci)) := fun W h => by rw [hΦ] at h; have := h.2.cell i hlt; rwa [HVI.out, HBI.out] at this
                          have CT : Hid (∀ W, Φ W → W.cell? ⟨g, at_, none⟩ = some (.slice (some ⟨ba, 0, none⟩) len ca)) := fun W h => by rw [hΦ] at h; have := h.2.cell at_ hat; rwa [HVA.out, HBA.out] at this
                          have CE : Hid (∀ W, Φ W → W.cell? ⟨bi, cc, none⟩ = some (.int .i64 (x : Int))) := fun W h => by
                            rw [hΦ] at h
                            obtain ⟨gi, e, _, hcells⟩ := (h.2.row i hlt).row hl0
                            injection e with e; injection e with e
                            rw [← HBI.out, e, hcells cc hcl, HX.out]
                          have CF : Hid (∀ W, Φ W → W.frozen? ⟨g, i, none⟩ = false) := fun W h => by rw [hΦ] at h; exact h.2.free _
                          have CL : Hid (∀ W, Φ W → Calls Try.prog 112 #[.agg #[.int .i64 m, .int .i64 P], .slice (some ⟨bi, 0, none⟩) len ci, .slice (some ⟨ba, 0, none⟩) len ca, .int .i64 (x : Int)] W fun e w' => ∃ D cd, e = .returned (.slice D len cd) ∧ Below W.heap.size W w' ∧ OL w' W.heap.size D len cd (addW P (hs' i) q x len)) := fun W h => by
                            rw [hΦ] at h
                            have h1 := h.2.row i hlt
                            have h2 := h.2.row at_ hat
                            rw [HBI.out] at h1
                            rw [HBA.out, HEQ.out] at h2
                            exact l04Add_any m P N hF _ _ len ci ca (hs' i) q x hxn (by rw [HEI.out]; exact HUP.out i hlt) HQL.out (by omega) W h1 h2
                          have CX : Hid (∀ (W W0 : World) (g2 : Nat), Φ W → W0.heap.size ≤ g2 → Φ W0 → g2 ≠ g ∧ ∀ j, j < n → b' j ≠ g2) := fun W W0 g2 h h2 h0 => by
                            rw [hΦ] at h0
                            exact ⟨by have := h0.2.lt; omega, fun j hj => by have := (h0.2.own j hj).2.2.1; omega⟩
                          have CN : Hid (∀ (W : World) (g2 cd : Nat), Φ W → g2 < W.heap.size → w.heap.size + 1 ≤ g2 → Rl W .i64 (some ⟨g2, 0, none⟩) len (addW P (hs' i) q x len) → (∀ j, W.frozen? ⟨g2, j, none⟩ = false) → (g2 ≠ g ∧ ∀ j, j < n → b' j ≠ g2) →
                              G1 w [.int .i64 m, .int .i64 P] (W.setCell ⟨g, i, none⟩ (.slice (some ⟨g2, 0, none⟩) len cd)) ∧ HW (W.setCell ⟨g, i, none⟩ (.slice (some ⟨g2, 0, none⟩) len cd)) (w.heap.size + 1) g len n (up hs' i (addW P (hs' i) q x len)) (up vs' i (.slice (some ⟨g2, 0, none⟩) len cd)) (up b' i g2) ∧ Inj n (up b' i g2)) := fun W g2 cd h h1 h2 h3 h4 h5 => by
                            rw [hΦ] at h
                            refine ⟨h.1.set (by have := h.2.low; omega) _ _, h.2.set hlt h3 h2 h5.1 h1 h4, fun a c ha hc hac => ?_⟩
                            unfold up
                            by_cases e1 : a = i
                            · rw [if_pos e1, if_neg (by omega)]; exact (h5.2 c hc).symm
                            · rw [if_neg e1]
                              by_cases e2 : c = i
                              · rw [if_pos e2]; exact h5.2 a ha
                              · rw [if_neg e2]; exact HJ.out a c ha hc hac
                          have a0 := (CA.out _ F0).x.cell 0 _ rfl
                          have a1 := (CA.out _ F0).x.cell 1 _ rfl
                          clear hΦ hG hW hgi
                          have gb1 : ((i : Int) != (at_ : Int)) = true := by simp; omega
                          have gb2 : ((x : Int) != 0) = true := by simp; omega
                          go_wp2_with fail
                          refine wp_region_S (n := 20) (S := Φ) (by kernel_rfl) (by kernel_rfl) F0 (fun G inv hS => ?_)
                          clear a0 a1 hci hca hce F0
                          refine wpAnyS_take (i := 0) (v := ?_) G inv hS (by decide) rfl (by kernel_rfl) (by kernel_rfl) (fun _ _ _ h => h) (Or.inl ⟨by kernel_rfl, fun W hW => ?_⟩) (fun inv => ?_)
                          rotate_left
                          · have z0 := (CA.out _ hW).x.cell 0 _ rfl
                            have z1 := (CA.out _ hW).x.cell 1 _ rfl
                            have z2 := CI.out _ hW
                            have z3 := CT.out _ hW
                            have z4 := CE.out _ hW
                            go_simp
                            try with_reducible rfl
                          try simp only [Act.put, List.setIfInBounds_toArray, List.set_cons_zero, List.set_cons_succ]
                          refine wpAnyS_take (i := 1) (v := ?_) G inv hS (by decide) rfl (by kernel_rfl) (by kernel_rfl) (fun _ _ _ h => h) (Or.inl ⟨by kernel_rfl, fun W hW => ?_⟩) (fun inv => ?_)
                          rotate_left
                          · have z0 := (CA.out _ hW).x.cell 0 _ rfl
                            have z1 := (CA.out _ hW).x.cell 1 _ rfl
                            have z2 := CI.out _ hW
                            have z3 := CT.out _ hW
                            have z4 := CE.out _ hW
                            go_simp
                            try with_reducible rfl
                          try simp only [Act.put, List.setIfInBounds_toArray, List.set_cons_zero, List.set_cons_succ]
                          refine wpAnyS_take (i := 2) (v := ?_) G inv hS (by decide) rfl (by kernel_rfl) (by kernel_rfl) (fun _ _ _ h => h) (Or.inl ⟨by kernel_rfl, fun W hW => ?_⟩) (fun inv => ?_)
                          rotate_left
                          · have z0 := (CA.out _ hW).x.cell 0 _ rfl
                            have z1 := (CA.out _ hW).x.cell 1 _ rfl
                            have z2 := CI.out _ hW
                            have z3 := CT.out _ hW
                            have z4 := CE.out _ hW
                            go_simp
                            try with_reducible rfl
                          try simp only [Act.put, List.setIfInBounds_toArray, List.set_cons_zero, List.set_cons_succ]
                          refine wpAnyS_take (i := 3) (v := ?_) G inv hS (by decide) rfl (by kernel_rfl) (by kernel_rfl) (fun _ _ _ h => h) (Or.inl ⟨by kernel_rfl, fun W hW => ?_⟩) (fun inv => ?_)
                          rotate_left
                          · have z0 := (CA.out _ hW).x.cell 0 _ rfl
                            have z1 := (CA.out _ hW).x.cell 1 _ rfl
                            have z2 := CI.out _ hW
                            have z3 := CT.out _ hW
                            have z4 := CE.out _ hW
                            go_simp
                            try with_reducible rfl
                          try simp only [Act.put, List.setIfInBounds_toArray, List.set_cons_zero, List.set_cons_succ]
                          refine wpAnyS_take (i := 4) (v := ?_) G inv hS (by decide) rfl (by kernel_rfl) (by kernel_rfl) (fun _ _ _ h => h) (Or.inl ⟨by kernel_rfl, fun W hW => ?_⟩) (fun inv => ?_)
                          rotate_left
                          · have z0 := (CA.out _ hW).x.cell 0 _ rfl
                            have z1 := (CA.out _ hW).x.cell 1 _ rfl
                            have z2 := CI.out _ hW
                            have z3 := CT.out _ hW
                            have z4 := CE.out _ hW
                            go_simp
                            try with_reducible rfl
                          try simp only [Act.put, List.setIfInBounds_toArray, List.set_cons_zero, List.set_cons_succ]
                          refine wpAnyS_take (i := 5) (v := ?_) G inv hS (by decide) rfl (by kernel_rfl) (by kernel_rfl) (fun _ _ _ h => h) (Or.inl ⟨by kernel_rfl, fun W hW => ?_⟩) (fun inv => ?_)
                          rotate_left
                          · have z0 := (CA.out _ hW).x.cell 0 _ rfl
                            have z1 := (CA.out _ hW).x.cell 1 _ rfl
                            have z2 := CI.out _ hW
                            have z3 := CT.out _ hW
                            have z4 := CE.out _ hW
                            go_simp
                            try with_reducible rfl
                          try simp only [Act.put, List.setIfInBounds_toArray, List.set_cons_zero, List.set_cons_succ]
                          refine wpAnyS_take (i := 6) (v := ?_) G inv hS (by decide) rfl (by kernel_rfl) (by kernel_rfl) (fun _ _ _ h => h) (Or.inl ⟨by kernel_rfl, fun W hW => ?_⟩) (fun inv => ?_)
                          rotate_left
                          · have z0 := (CA.out _ hW).x.cell 0 _ rfl
                            have z1 := (CA.out _ hW).x.cell 1 _ rfl
                            have z2 := CI.out _ hW
                            have z3 := CT.out _ hW
                            have z4 := CE.out _ hW
                            go_simp
                            try with_reducible rfl
                          try simp only [Act.put, List.setIfInBounds_toArray, List.set_cons_zero, List.set_cons_succ]
                          refine wpAnyS_take (i := 7) (v := ?_) G inv hS (by decide) rfl (by kernel_rfl) (by kernel_rfl) (fun _ _ _ h => h) (Or.inl ⟨by kernel_rfl, fun W hW => ?_⟩) (fun inv => ?_)
                          rotate_left
                          · have z0 := (CA.out _ hW).x.cell 0 _ rfl
                            have z1 := (CA.out _ hW).x.cell 1 _ rfl
                            have z2 := CI.out _ hW
                            have z3 := CT.out _ hW
                            have z4 := CE.out _ hW
                            go_simp
                            try with_reducible rfl
                          try simp only [Act.put, List.setIfInBounds_toArray, List.set_cons_zero, List.set_cons_succ]
                          refine wpAnyS_take (i := 8) (v := ?_) G inv hS (by decide) rfl (by kernel_rfl) (by kernel_rfl) (fun _ _ _ h => h) (Or.inl ⟨by kernel_rfl, fun W hW => ?_⟩) (fun inv => ?_)
                          rotate_left
                          · have z0 := (CA.out _ hW).x.cell 0 _ rfl
                            have z1 := (CA.out _ hW).x.cell 1 _ rfl
                            have z2 := CI.out _ hW
                            have z3 := CT.out _ hW
                            have z4 := CE.out _ hW
                            go_simp
                            try with_reducible rfl
                          try simp only [Act.put, List.setIfInBounds_toArray, List.set_cons_zero, List.set_cons_succ]
                          refine wpAnyS_take (i := 9) (v := ?_) G inv hS (by decide) rfl (by kernel_rfl) (by kernel_rfl) (fun _ _ _ h => h) (Or.inl ⟨by kernel_rfl, fun W hW => ?_⟩) (fun inv => ?_)
                          rotate_left
                          · have z0 := (CA.out _ hW).x.cell 0 _ rfl
                            have z1 := (CA.out _ hW).x.cell 1 _ rfl
                            have z2 := CI.out _ hW
                            have z3 := CT.out _ hW
                            have z4 := CE.out _ hW
                            go_simp
                            try with_reducible rfl
                          try simp only [Act.put, List.setIfInBounds_toArray, List.set_cons_zero, List.set_cons_succ]
                          refine wpAnyS_take (i := 10) (v := ?_) G inv hS (by decide) rfl (by kernel_rfl) (by kernel_rfl) (fun _ _ _ h => h) (Or.inl ⟨by kernel_rfl, fun W hW => ?_⟩) (fun inv => ?_)
                          rotate_left
                          · have z0 := (CA.out _ hW).x.cell 0 _ rfl
                            have z1 := (CA.out _ hW).x.cell 1 _ rfl
                            have z2 := CI.out _ hW
                            have z3 := CT.out _ hW
                            have z4 := CE.out _ hW
                            go_simp
                            try with_reducible rfl
                          try simp only [Act.put, List.setIfInBounds_toArray, List.set_cons_zero, List.set_cons_succ]
                          refine wpAnyS_take (i := 11) (v := ?_) G inv hS (by decide) rfl (by kernel_rfl) (by kernel_rfl) (fun _ _ _ h => h) (Or.inl ⟨by kernel_rfl, fun W hW => ?_⟩) (fun inv => ?_)
                          rotate_left
                          · have z0 := (CA.out _ hW).x.cell 0 _ rfl
                            have z1 := (CA.out _ hW).x.cell 1 _ rfl
                            have z2 := CI.out _ hW
                            have z3 := CT.out _ hW
                            have z4 := CE.out _ hW
                            go_simp
                            try with_reducible rfl
                          try simp only [Act.put, List.setIfInBounds_toArray, List.set_cons_zero, List.set_cons_succ]
                          refine wpAnyS_take (i := 12) (v := ?_) G inv hS (by decide) rfl (by kernel_rfl) (by kernel_rfl) (fun _ _ _ h => h) (Or.inl ⟨by kernel_rfl, fun W hW => ?_⟩) (fun inv => ?_)
                          rotate_left
                          · have z0 := (CA.out _ hW).x.cell 0 _ rfl
                            have z1 := (CA.out _ hW).x.cell 1 _ rfl
                            have z2 := CI.out _ hW
                            have z3 := CT.out _ hW
                            have z4 := CE.out _ hW
                            go_simp
                            try with_reducible rfl
                          try simp only [Act.put, List.setIfInBounds_toArray, List.set_cons_zero, List.set_cons_succ]
                          refine wpAnyS_take (i := 13) (v := ?_) G inv hS (by decide) rfl (by kernel_rfl) (by kernel_rfl) (fun _ _ _ h => h) (Or.inl ⟨by kernel_rfl, fun W hW => ?_⟩) (fun inv => ?_)
                          rotate_left
                          · have z0 := (CA.out _ hW).x.cell 0 _ rfl
                            have z1 := (CA.out _ hW).x.cell 1 _ rfl
                            have z2 := CI.out _ hW
                            have z3 := CT.out _ hW
                            have z4 := CE.out _ hW
                            go_simp
                            try with_reducible rfl
                          try simp only [Act.put, List.setIfInBounds_toArray, List.set_cons_zero, List.set_cons_succ]
                          refine wpAnyS_take (i := 14) (v := ?_) G inv hS (by decide) rfl (by kernel_rfl) (by kernel_rfl) (fun _ _ _ h => h) (Or.inl ⟨by kernel_rfl, fun W hW => ?_⟩) (fun inv => ?_)
                          rotate_left
                          · have z0 := (CA.out _ hW).x.cell 0 _ rfl
                            have z1 := (CA.out _ hW).x.cell 1 _ rfl
                            have z2 := CI.out _ hW
                            have z3 := CT.out _ hW
                            have z4 := CE.out _ hW
                            go_simp
                            try with_reducible rfl
                          try simp only [Act.put, List.setIfInBounds_toArray, List.set_cons_zero, List.set_cons_succ]
                          refine wpAnyS_take (i := 15) (v := ?_) G inv hS (by decide) rfl (by kernel_rfl) (by kernel_rfl) (fun _ _ _ h => h) (Or.inl ⟨by kernel_rfl, fun W hW => ?_⟩) (fun inv => ?_)
                          rotate_left
                          · have z0 := (CA.out _ hW).x.cell 0 _ rfl
                            have z1 := (CA.out _ hW).x.cell 1 _ rfl
                            have z2 := CI.out _ hW
                            have z3 := CT.out _ hW
                            have z4 := CE.out _ hW
                            go_simp
                            try with_reducible rfl
                          try simp only [Act.put, List.setIfInBounds_toArray, List.set_cons_zero, List.set_cons_succ]
                          refine wpAnyS_take (i := 16) (v := ?_) G inv hS (by decide) rfl (by kernel_rfl) (by kernel_rfl) (fun _ _ _ h => h) (Or.inl ⟨by kernel_rfl, fun W hW => ?_⟩) (fun inv => ?_)
                          rotate_left
                          · have z0 := (CA.out _ hW).x.cell 0 _ rfl
                            have z1 := (CA.out _ hW).x.cell 1 _ rfl
                            have z2 := CI.out _ hW
                            have z3 := CT.out _ hW
                            have z4 := CE.out _ hW
                            go_simp
                            try with_reducible rfl
                          try simp only [Act.put, List.setIfInBounds_toArray, List.set_cons_zero, List.set_cons_succ]
                          refine wpAnyS_take (i := 17) (v := ?_) G inv hS (by decide) rfl (by kernel_rfl) (by kernel_rfl) (fun _ _ _ h => h) (Or.inl ⟨by kernel_rfl, fun W hW => ?_⟩) (fun inv => ?_)
                          rotate_left
                          · have z0 := (CA.out _ hW).x.cell 0 _ rfl
                            have z1 := (CA.out _ hW).x.cell 1 _ rfl
                            have z2 := CI.out _ hW
                            have z3 := CT.out _ hW
                            have z4 := CE.out _ hW
                            go_simp
                            try with_reducible rfl
                          try simp only [Act.put, List.setIfInBounds_toArray, List.set_cons_zero, List.set_cons_succ]
                          refine wpAnyS_step (i := 18) (by kernel_rfl) rfl ?_
                          go_wp2_with (go_at_call 112; refine (CL.out _ hS).mono ?_; rintro e w1 ⟨D, cd, rfl, hb1, hO⟩)
                          have F1 : Φ w1 := SP.out _ _ hS hb1
                          obtain ⟨g2, rfl, hg2, hg3, hR2, hfr2⟩ := hO.at hl0
                          have hnew := CX.out _ _ _ F1 hg2 hS
                          have hlo := Nat.le_trans (CA.out _ hS).z hg2
                          clear hO hb1 hg2
                          change (18 ≠ 20 → Φ w1) ∧ _
                          refine ⟨fun _ => F1, ?_⟩
                          refine wpAnyS_step (i := 19) (by kernel_rfl) rfl ?_
                          go_wp2
                          change (19 ≠ 20 → Φ w1) ∧ _
                          refine ⟨fun _ => F1, ?_⟩
                          have y0 := CI.out _ F1
                          have y1 := CF.out _ F1
                          refine wpAnyS_step (i := 20) (by kernel_rfl) rfl ?_
                          go_wp2
                          refine ⟨fun h => absurd rfl h, ?_⟩
                          refine wpAnyS_done (by kernel_rfl) ?_ _
                          have HEND := CN.out _ g2 cd F1 hg3 hlo hR2 hfr2 hnew
                          go_wp2_with fail
                          go_roundw
                          case rel => exact ⟨i + 1, _, _, _, by omega, by go_num, HEND.1, HEND.2.1, Lib.hid HEND.2.2, Lib.hid (fun j hj => by
                            by_cases e2 : j = i
                            · subst e2; rw [up_same, if_pos (by omega), stepW, if_neg hia, ← HEI.out, if_neg (by rw [HX.out]; exact hx0), HX.out]
                            · rw [up_ne _ _ e2, HE.out j hj]
                              by_cases e : j < i
                              · rw [if_pos e, if_pos (by omega)]
                              · rw [if_neg e, if_neg (by omega)])⟩
                          case measure => simp [intOf]; omega
                    · obtain rfl : i = n := by omega
                      have HG4 := Lib.hid hG
                      have HW4 := Lib.hid hW
                      clear hG hW
                      go_wp2_with fail
                      go_roundw
                      case rel => exact ⟨at_ + 1, cc + 1, hs', vs', b', by omega, by go_num, by go_num, HG4.out, HW4.out, HJ, Lib.hid ((HEC.out.step hF HRR.out hcl hka hkn (by rw [HXK.out]; exact hxk0) H0.out).congr (fun j hj => by rw [HE.out j hj, if_pos hj, HQQ.out]))⟩
                      case measure => simp [intOf]; omega
                case refine_2 =>
                  go_wp2_with (go_at_call 127; refine (HIV.out _).mono ?_; rintro e w2 ⟨rfl, hb1⟩)
                  have F2 : Φ w2 := SP.out _ _ hS hb1
                  clear hb1
                  change (11 ≠ 14 → Φ w2) ∧ _
                  refine ⟨fun _ => F2, ?_⟩
                  have hbs := (CA.out _ F2).z
                  refine wpAnyS_step (i := 4) (by kernel_rfl) rfl ?_
                  refine wpList_make_full _ rfl _ _ 27 rfl (w.heap.size + 1) 2 i0 (.int .i64 0) 1 Try.underlying27 hi hz0 hz1 .i64 .i64 (len : Int) (len : Int) len (by simp [Act.eval]) (by simp [Act.eval]) rfl rfl (by rw [hz2]; omega) (by unfold maxLen; omega) hbs ?_
                  intro w3 hown hgrow
                  have hgr := (Below.refl _ _).grown hgrow (Nat.le_refl _) (fun k h => by cases h)
                  have HZ := Lib.hid (Wr.made (K := .i64) hown)
                  have F3 : Φ w3 := SP.out _ _ F2 hgr
                  clear hown hgrow hgr hbs
                  change (4 ≠ 14 → Φ w3) ∧ _
                  refine ⟨fun _ => F3, ?_⟩
                  try simp only [Act.put, List.setIfInBounds_toArray, List.set_cons_zero, List.set_cons_succ]
                  refine wpAnyS_step (i := 12) (by kernel_rfl) rfl ?_
                  go_wp2_with (go_at_call 112; refine (CL.out _ _ F3 HZ.out).mono ?_; rintro e w4 ⟨D, cd, rfl, hb1, hO⟩)
                  have F4 : Φ w4 := SP.out _ _ F3 hb1
                  obtain ⟨g2, rfl, hg2, hg3, hR2, hfr2⟩ := hO.at hl0
                  have hnew := CX.out _ _ _ F4 hg2 F3
                  have hlo := Nat.le_trans (CA.out _ F3).z hg2
                  clear hO hb1 hg2
                  change (12 ≠ 14 → Φ w4) ∧ _
                  refine ⟨fun _ => F4, ?_⟩
                  refine wpAnyS_step (i := 13) (by kernel_rfl) rfl ?_
                  go_wp2
                  change (13 ≠ 14 → Φ w4) ∧ _
                  refine ⟨fun _ => F4, ?_⟩
                  have y0 := CI.out _ F4
                  have y1 := CF.out _ F4
                  refine wpAnyS_step (i := 14) (by kernel_rfl) rfl ?_
                  go_wp2
                  refine ⟨fun h => absurd rfl h, ?_⟩
                  refine wpAnyS_done (by kernel_rfl) ?_ _
                  have HEND := CN.out _ g2 cd F4 hg3 hlo hR2 hfr2 hnew
                  go_wp2_with fail
                  go_loopw [13] (fun ii wr => ∃ (i : Nat) (hs' : Nat → List Nat) (vs' : Nat → Value) (b' : Nat → Nat), i ≤ n ∧ ii = .int .i64 i ∧ G1 w [.int .i64 m, .int .i64 P] wr ∧ HW wr (w.heap.size + 1) g len n hs' vs' b' ∧ Hid (Inj n b') ∧ Hid (∀ j, j < n → hs' j = if j < i then stepW P len cc at_ k q hs j else up (up hs k (hs at_)) at_ q j)) (fun ii _ => n - (intOf ii).toNat)
                  case atStart => exact ⟨0, _, _, _, Nat.zero_le _, rfl, HEND.1, HEND.2.1, Lib.hid HEND.2.2, Lib.hid (fun j hj => by rw [if_neg (by omega)])⟩
                  case round =>
                    obtain ⟨i, hs', vs', b', hi', rfl, hG, hW, HJ, HE⟩ := hrel
                    clear HEND
                    by_cases hlt : i < n
                    · by_cases hia : i = at_
                      · subst hia
                        have HG4 := Lib.hid hG
                        have HW4 := Lib.hid hW
                        clear hG hW
                        go_wp2_with fail
                        go_roundw
                        case rel => exact ⟨i + 1, hs', vs', b', by omega, by go_num, HG4.out, HW4.out, HJ, Lib.hid (fun j hj => by
                          rw [HE.out j hj]
                          by_cases e : j < i
                          · rw [if_pos e, if_pos (by omega)]
                          · rw [if_neg e]
                            by_cases e2 : j = i
                            · subst e2; rw [if_pos (by omega), up_same, stepW, if_pos rfl]
                            · rw [if_neg (by omega)])⟩
                        case measure => simp [intOf]; omega
                      · have hei : hs' i = up hs k (hs at_) i := by rw [HE.out i hlt, if_neg (by omega), up_ne _ _ hia]
                        have heq : hs' at_ = q := by
                          rw [HE.out at_ hat]
                          split
                          · rw [stepW, if_pos rfl]
                          · exact up_same _ _ _
                        obtain ⟨ci, hvi⟩ := hW.form i hlt
                        obtain ⟨ca, hva⟩ := hW.form at_ hat
                        have hci := hW.cell i hlt
                        have hca := hW.cell at_ hat
                        rw [hvi] at hci
                        rw [hva] at hca
                        obtain ⟨bi, hbi⟩ : ∃ x, b' i = x := ⟨_, rfl⟩
                        obtain ⟨ba, hba⟩ : ∃ x, b' at_ = x := ⟨_, rfl⟩
                        rw [hbi] at hci
                        rw [hba] at hca
                        have hri := hW.row i hlt
                        have hra := hW.row at_ hat
                        rw [hbi] at hri
                        rw [hba] at hra
                        obtain ⟨x, hx⟩ : ∃ x, nth (hs' i) cc = x := ⟨_, rfl⟩
                        obtain ⟨gi, e, hgi, hcells⟩ := hri.row hl0
                        injection e with e; injection e with e
                        subst e
                        have hce := hcells cc hcl
                        rw [hx] at hce
                        have HX := Lib.hid hx
                        have HEI := Lib.hid hei
                        have HEQ := Lib.hid heq
                        have HBI := Lib.hid hbi
                        have HBA := Lib.hid hba
                        have HVI := Lib.hid hvi
                        have HVA := Lib.hid hva
                        clear hx hei heq hcells hri hra hbi hba hvi hva
                        by_cases hx0 : x = 0
                        · subst hx0
                          have HG4 := Lib.hid hG
                          have HW4 := Lib.hid hW
                          clear hG hW
                          go_wp2_with fail
                          go_roundw
                          case rel => exact ⟨i + 1, hs', vs', b', by omega, by go_num, HG4.out, HW4.out, HJ, Lib.hid (fun j hj => by
                            by_cases e2 : j = i
                            · subst e2; rw [if_pos (by omega), stepW, if_neg hia, ← HEI.out, if_pos HX.out]
                            · rw [HE.out j hj]
                              by_cases e : j < i
                              · rw [if_pos e, if_pos (by omega)]
                              · rw [if_neg e, if_neg (by omega)])⟩
                          case measure => simp [intOf]; omega
                        · have hxn : x < N := by rw [← HX.out, HEI.out]; exact HUP.out i hlt cc
                          obtain ⟨Φ, hΦ⟩ : ∃ Φ : World → Prop, Φ = fun W => G1 w [.int .i64 m, .int .i64 P] W ∧ HW W (w.heap.size + 1) g len n hs' vs' b' := ⟨_, rfl⟩
                          have F0 : Φ wr.drew := by rw [hΦ]; exact ⟨hG.drew, hW.below (Below.refl _ wr).drew⟩
                          have SP : Hid (∀ W W', Φ W → Below W.heap.size W W' → Φ W') := fun W W' h hb => by rw [hΦ] at h ⊢; exact ⟨h.1.next hb, h.2.below hb⟩
                          have CA : Hid (∀ W, Φ W → G1 w [.int .i64 m, .int .i64 P] W) := fun W h => by rw [hΦ] at h; exact h.1
                          have CI : Hid (∀ W, Φ W → W.cell? ⟨g, i, none⟩ = some (.slice (some ⟨bi, 0, none⟩) len ci)) := fun W h => by rw [hΦ] at h; have := h.2.cell i hlt; rwa [HVI.out, HBI.out] at this
                          have CT : Hid (∀ W, Φ W → W.cell? ⟨g, at_, none⟩ = some (.slice (some ⟨ba, 0, none⟩) len ca)) := fun W h => by rw [hΦ] at h; have := h.2.cell at_ hat; rwa [HVA.out, HBA.out] at this
                          have CE : Hid (∀ W, Φ W → W.cell? ⟨bi, cc, none⟩ = some (.int .i64 (x : Int))) := fun W h => by
                            rw [hΦ] at h
                            obtain ⟨gi, e, _, hcells⟩ := (h.2.row i hlt).row hl0
                            injection e with e; injection e with e
                            rw [← HBI.out, e, hcells cc hcl, HX.out]
                          have CF : Hid (∀ W, Φ W → W.frozen? ⟨g, i, none⟩ = false) := fun W h => by rw [hΦ] at h; exact h.2.free _
                          have CL : Hid (∀ W, Φ W → Calls Try.prog 112 #[.agg #[.int .i64 m, .int .i64 P], .slice (some ⟨bi, 0, none⟩) len ci, .slice (some ⟨ba, 0, none⟩) len ca, .int .i64 (x : Int)] W fun e w' => ∃ D cd, e = .returned (.slice D len cd) ∧ Below W.heap.size W w' ∧ OL w' W.heap.size D len cd (addW P (hs' i) q x len)) := fun W h => by
                            rw [hΦ] at h
                            have h1 := h.2.row i hlt
                            have h2 := h.2.row at_ hat
                            rw [HBI.out] at h1
                            rw [HBA.out, HEQ.out] at h2
                            exact l04Add_any m P N hF _ _ len ci ca (hs' i) q x hxn (by rw [HEI.out]; exact HUP.out i hlt) HQL.out (by omega) W h1 h2
                          have CX : Hid (∀ (W W0 : World) (g2 : Nat), Φ W → W0.heap.size ≤ g2 → Φ W0 → g2 ≠ g ∧ ∀ j, j < n → b' j ≠ g2) := fun W W0 g2 h h2 h0 => by
                            rw [hΦ] at h0
                            exact ⟨by have := h0.2.lt; omega, fun j hj => by have := (h0.2.own j hj).2.2.1; omega⟩
                          have CN : Hid (∀ (W : World) (g2 cd : Nat), Φ W → g2 < W.heap.size → w.heap.size + 1 ≤ g2 → Rl W .i64 (some ⟨g2, 0, none⟩) len (addW P (hs' i) q x len) → (∀ j, W.frozen? ⟨g2, j, none⟩ = false) → (g2 ≠ g ∧ ∀ j, j < n → b' j ≠ g2) →
                              G1 w [.int .i64 m, .int .i64 P] (W.setCell ⟨g, i, none⟩ (.slice (some ⟨g2, 0, none⟩) len cd)) ∧ HW (W.setCell ⟨g, i, none⟩ (.slice (some ⟨g2, 0, none⟩) len cd)) (w.heap.size + 1) g len n (up hs' i (addW P (hs' i) q x len)) (up vs' i (.slice (some ⟨g2, 0, none⟩) len cd)) (up b' i g2) ∧ Inj n (up b' i g2)) := fun W g2 cd h h1 h2 h3 h4 h5 => by
                            rw [hΦ] at h
                            refine ⟨h.1.set (by have := h.2.low; omega) _ _, h.2.set hlt h3 h2 h5.1 h1 h4, fun a c ha hc hac => ?_⟩
                            unfold up
                            by_cases e1 : a = i
                            · rw [if_pos e1, if_neg (by omega)]; exact (h5.2 c hc).symm
                            · rw [if_neg e1]
                              by_cases e2 : c = i
                              · rw [if_pos e2]; exact h5.2 a ha
                              · rw [if_neg e2]; exact HJ.out a c ha hc hac
                          have a0 := (CA.out _ F0).x.cell 0 _ rfl
                          have a1 := (CA.out _ F0).x.cell 1 _ rfl
                          clear hΦ hG hW hgi
                          have gb1 : ((i : Int) != (at_ : Int)) = true := by simp; omega
                          have gb2 : ((x : Int) != 0) = true := by simp; omega
                          go_wp2_with fail
                          refine wp_region_S (n := 20) (S := Φ) (by kernel_rfl) (by kernel_rfl) F0 (fun G inv hS => ?_)
                          clear a0 a1 hci hca hce F0
                          refine wpAnyS_take (i := 0) (v := ?_) G inv hS (by decide) rfl (by kernel_rfl) (by kernel_rfl) (fun _ _ _ h => h) (Or.inl ⟨by kernel_rfl, fun W hW => ?_⟩) (fun inv => ?_)
                          rotate_left
                          · have z0 := (CA.out _ hW).x.cell 0 _ rfl
                            have z1 := (CA.out _ hW).x.cell 1 _ rfl
                            have z2 := CI.out _ hW
                            have z3 := CT.out _ hW
                            have z4 := CE.out _ hW
                            go_simp
                            try with_reducible rfl
                          try simp only [Act.put, List.setIfInBounds_toArray, List.set_cons_zero, List.set_cons_succ]
                          refine wpAnyS_take (i := 1) (v := ?_) G inv hS (by decide) rfl (by kernel_rfl) (by kernel_rfl) (fun _ _ _ h => h) (Or.inl ⟨by kernel_rfl, fun W hW => ?_⟩) (fun inv => ?_)
                          rotate_left
                          · have z0 := (CA.out _ hW).x.cell 0 _ rfl
                            have z1 := (CA.out _ hW).x.cell 1 _ rfl
                            have z2 := CI.out _ hW
                            have z3 := CT.out _ hW
                            have z4 := CE.out _ hW
                            go_simp
                            try with_reducible rfl
                          try simp only [Act.put, List.setIfInBounds_toArray, List.set_cons_zero, List.set_cons_succ]
                          refine wpAnyS_take (i := 2) (v := ?_) G inv hS (by decide) rfl (by kernel_rfl) (by kernel_rfl) (fun _ _ _ h => h) (Or.inl ⟨by kernel_rfl, fun W hW => ?_⟩) (fun inv => ?_)
                          rotate_left
                          · have z0 := (CA.out _ hW).x.cell 0 _ rfl
                            have z1 := (CA.out _ hW).x.cell 1 _ rfl
                            have z2 := CI.out _ hW
                            have z3 := CT.out _ hW
                            have z4 := CE.out _ hW
                            go_simp
                            try with_reducible rfl
                          try simp only [Act.put, List.setIfInBounds_toArray, List.set_cons_zero, List.set_cons_succ]
                          refine wpAnyS_take (i := 3) (v := ?_) G inv hS (by decide) rfl (by kernel_rfl) (by kernel_rfl) (fun _ _ _ h => h) (Or.inl ⟨by kernel_rfl, fun W hW => ?_⟩) (fun inv => ?_)
                          rotate_left
                          · have z0 := (CA.out _ hW).x.cell 0 _ rfl
                            have z1 := (CA.out _ hW).x.cell 1 _ rfl
                            have z2 := CI.out _ hW
                            have z3 := CT.out _ hW
                            have z4 := CE.out _ hW
                            go_simp
                            try with_reducible rfl
                          try simp only [Act.put, List.setIfInBounds_toArray, List.set_cons_zero, List.set_cons_succ]
                          refine wpAnyS_take (i := 4) (v := ?_) G inv hS (by decide) rfl (by kernel_rfl) (by kernel_rfl) (fun _ _ _ h => h) (Or.inl ⟨by kernel_rfl, fun W hW => ?_⟩) (fun inv => ?_)
                          rotate_left
                          · have z0 := (CA.out _ hW).x.cell 0 _ rfl
                            have z1 := (CA.out _ hW).x.cell 1 _ rfl
                            have z2 := CI.out _ hW
                            have z3 := CT.out _ hW
                            have z4 := CE.out _ hW
                            go_simp
                            try with_reducible rfl
                          try simp only [Act.put, List.setIfInBounds_toArray, List.set_cons_zero, List.set_cons_succ]
                          refine wpAnyS_take (i := 5) (v := ?_) G inv hS (by decide) rfl (by kernel_rfl) (by kernel_rfl) (fun _ _ _ h => h) (Or.inl ⟨by kernel_rfl, fun W hW => ?_⟩) (fun inv => ?_)
                          rotate_left
                          · have z0 := (CA.out _ hW).x.cell 0 _ rfl
                            have z1 := (CA.out _ hW).x.cell 1 _ rfl
                            have z2 := CI.out _ hW
                            have z3 := CT.out _ hW
                            have z4 := CE.out _ hW
                            go_simp
                            try with_reducible rfl
                          try simp only [Act.put, List.setIfInBounds_toArray, List.set_cons_zero, List.set_cons_succ]
                          refine wpAnyS_take (i := 6) (v := ?_) G inv hS (by decide) rfl (by kernel_rfl) (by kernel_rfl) (fun _ _ _ h => h) (Or.inl ⟨by kernel_rfl, fun W hW => ?_⟩) (fun inv => ?_)
                          rotate_left
                          · have z0 := (CA.out _ hW).x.cell 0 _ rfl
                            have z1 := (CA.out _ hW).x.cell 1 _ rfl
                            have z2 := CI.out _ hW
                            have z3 := CT.out _ hW
                            have z4 := CE.out _ hW
                            go_simp
                            try with_reducible rfl
                          try simp only [Act.put, List.setIfInBounds_toArray, List.set_cons_zero, List.set_cons_succ]
                          refine wpAnyS_take (i := 7) (v := ?_) G inv hS (by decide) rfl (by kernel_rfl) (by kernel_rfl) (fun _ _ _ h => h) (Or.inl ⟨by kernel_rfl, fun W hW => ?_⟩) (fun inv => ?_)
                          rotate_left
                          · have z0 := (CA.out _ hW).x.cell 0 _ rfl
                            have z1 := (CA.out _ hW).x.cell 1 _ rfl
                            have z2 := CI.out _ hW
                            have z3 := CT.out _ hW
                            have z4 := CE.out _ hW
                            go_simp
                            try with_reducible rfl
                          try simp only [Act.put, List.setIfInBounds_toArray, List.set_cons_zero, List.set_cons_succ]
                          refine wpAnyS_take (i := 8) (v := ?_) G inv hS (by decide) rfl (by kernel_rfl) (by kernel_rfl) (fun _ _ _ h => h) (Or.inl ⟨by kernel_rfl, fun W hW => ?_⟩) (fun inv => ?_)
                          rotate_left
                          · have z0 := (CA.out _ hW).x.cell 0 _ rfl
                            have z1 := (CA.out _ hW).x.cell 1 _ rfl
                            have z2 := CI.out _ hW
                            have z3 := CT.out _ hW
                            have z4 := CE.out _ hW
                            go_simp
                            try with_reducible rfl
                          try simp only [Act.put, List.setIfInBounds_toArray, List.set_cons_zero, List.set_cons_succ]
                          refine wpAnyS_take (i := 9) (v := ?_) G inv hS (by decide) rfl (by kernel_rfl) (by kernel_rfl) (fun _ _ _ h => h) (Or.inl ⟨by kernel_rfl, fun W hW => ?_⟩) (fun inv => ?_)
                          rotate_left
                          · have z0 := (CA.out _ hW).x.cell 0 _ rfl
                            have z1 := (CA.out _ hW).x.cell 1 _ rfl
                            have z2 := CI.out _ hW
                            have z3 := CT.out _ hW
                            have z4 := CE.out _ hW
                            go_simp
                            try with_reducible rfl
                          try simp only [Act.put, List.setIfInBounds_toArray, List.set_cons_zero, List.set_cons_succ]
                          refine wpAnyS_take (i := 10) (v := ?_) G inv hS (by decide) rfl (by kernel_rfl) (by kernel_rfl) (fun _ _ _ h => h) (Or.inl ⟨by kernel_rfl, fun W hW => ?_⟩) (fun inv => ?_)
                          rotate_left
                          · have z0 := (CA.out _ hW).x.cell 0 _ rfl
                            have z1 := (CA.out _ hW).x.cell 1 _ rfl
                            have z2 := CI.out _ hW
                            have z3 := CT.out _ hW
                            have z4 := CE.out _ hW
                            go_simp
                            try with_reducible rfl
                          try simp only [Act.put, List.setIfInBounds_toArray, List.set_cons_zero, List.set_cons_succ]
                          refine wpAnyS_take (i := 11) (v := ?_) G inv hS (by decide) rfl (by kernel_rfl) (by kernel_rfl) (fun _ _ _ h => h) (Or.inl ⟨by kernel_rfl, fun W hW => ?_⟩) (fun inv => ?_)
                          rotate_left
                          · have z0 := (CA.out _ hW).x.cell 0 _ rfl
                            have z1 := (CA.out _ hW).x.cell 1 _ rfl
                            have z2 := CI.out _ hW
                            have z3 := CT.out _ hW
                            have z4 := CE.out _ hW
                            go_simp
                            try with_reducible rfl
                          try simp only [Act.put, List.setIfInBounds_toArray, List.set_cons_zero, List.set_cons_succ]
                          refine wpAnyS_take (i := 12) (v := ?_) G inv hS (by decide) rfl (by kernel_rfl) (by kernel_rfl) (fun _ _ _ h => h) (Or.inl ⟨by kernel_rfl, fun W hW => ?_⟩) (fun inv => ?_)
                          rotate_left
                          · have z0 := (CA.out _ hW).x.cell 0 _ rfl
                            have z1 := (CA.out _ hW).x.cell 1 _ rfl
                            have z2 := CI.out _ hW
                            have z3 := CT.out _ hW
                            have z4 := CE.out _ hW
                            go_simp
                            try with_reducible rfl
                          try simp only [Act.put, List.setIfInBounds_toArray, List.set_cons_zero, List.set_cons_succ]
                          refine wpAnyS_take (i := 13) (v := ?_) G inv hS (by decide) rfl (by kernel_rfl) (by kernel_rfl) (fun _ _ _ h => h) (Or.inl ⟨by kernel_rfl, fun W hW => ?_⟩) (fun inv => ?_)
                          rotate_left
                          · have z0 := (CA.out _ hW).x.cell 0 _ rfl
                            have z1 := (CA.out _ hW).x.cell 1 _ rfl
                            have z2 := CI.out _ hW
                            have z3 := CT.out _ hW
                            have z4 := CE.out _ hW
                            go_simp
                            try with_reducible rfl
                          try simp only [Act.put, List.setIfInBounds_toArray, List.set_cons_zero, List.set_cons_succ]
                          refine wpAnyS_take (i := 14) (v := ?_) G inv hS (by decide) rfl (by kernel_rfl) (by kernel_rfl) (fun _ _ _ h => h) (Or.inl ⟨by kernel_rfl, fun W hW => ?_⟩) (fun inv => ?_)
                          rotate_left
                          · have z0 := (CA.out _ hW).x.cell 0 _ rfl
                            have z1 := (CA.out _ hW).x.cell 1 _ rfl
                            have z2 := CI.out _ hW
                            have z3 := CT.out _ hW
                            have z4 := CE.out _ hW
                            go_simp
                            try with_reducible rfl
                          try simp only [Act.put, List.setIfInBounds_toArray, List.set_cons_zero, List.set_cons_succ]
                          refine wpAnyS_take (i := 15) (v := ?_) G inv hS (by decide) rfl (by kernel_rfl) (by kernel_rfl) (fun _ _ _ h => h) (Or.inl ⟨by kernel_rfl, fun W hW => ?_⟩) (fun inv => ?_)
                          rotate_left
                          · have z0 := (CA.out _ hW).x.cell 0 _ rfl
                            have z1 := (CA.out _ hW).x.cell 1 _ rfl
                            have z2 := CI.out _ hW
                            have z3 := CT.out _ hW
                            have z4 := CE.out _ hW
                            go_simp
                            try with_reducible rfl
                          try simp only [Act.put, List.setIfInBounds_toArray, List.set_cons_zero, List.set_cons_succ]
                          refine wpAnyS_take (i := 16) (v := ?_) G inv hS (by decide) rfl (by kernel_rfl) (by kernel_rfl) (fun _ _ _ h => h) (Or.inl ⟨by kernel_rfl, fun W hW => ?_⟩) (fun inv => ?_)
                          rotate_left
                          · have z0 := (CA.out _ hW).x.cell 0 _ rfl
                            have z1 := (CA.out _ hW).x.cell 1 _ rfl
                            have z2 := CI.out _ hW
                            have z3 := CT.out _ hW
                            have z4 := CE.out _ hW
                            go_simp
                            try with_reducible rfl
                          try simp only [Act.put, List.setIfInBounds_toArray, List.set_cons_zero, List.set_cons_succ]
                          refine wpAnyS_take (i := 17) (v := ?_) G inv hS (by decide) rfl (by kernel_rfl) (by kernel_rfl) (fun _ _ _ h => h) (Or.inl ⟨by kernel_rfl, fun W hW => ?_⟩) (fun inv => ?_)
                          rotate_left
                          · have z0 := (CA.out _ hW).x.cell 0 _ rfl
                            have z1 := (CA.out _ hW).x.cell 1 _ rfl
                            have z2 := CI.out _ hW
                            have z3 := CT.out _ hW
                            have z4 := CE.out _ hW
                            go_simp
                            try with_reducible rfl
                          try simp only [Act.put, List.setIfInBounds_toArray, List.set_cons_zero, List.set_cons_succ]
                          refine wpAnyS_step (i := 18) (by kernel_rfl) rfl ?_
                          go_wp2_with (go_at_call 112; refine (CL.out _ hS).mono ?_; rintro e w1 ⟨D, cd, rfl, hb1, hO⟩)
                          have F1 : Φ w1 := SP.out _ _ hS hb1
                          obtain ⟨g2, rfl, hg2, hg3, hR2, hfr2⟩ := hO.at hl0
                          have hnew := CX.out _ _ _ F1 hg2 hS
                          have hlo := Nat.le_trans (CA.out _ hS).z hg2
                          clear hO hb1 hg2
                          change (18 ≠ 20 → Φ w1) ∧ _
                          refine ⟨fun _ => F1, ?_⟩
                          refine wpAnyS_step (i := 19) (by kernel_rfl) rfl ?_
                          go_wp2
                          change (19 ≠ 20 → Φ w1) ∧ _
                          refine ⟨fun _ => F1, ?_⟩
                          have y0 := CI.out _ F1
                          have y1 := CF.out _ F1
                          refine wpAnyS_step (i := 20) (by kernel_rfl) rfl ?_
                          go_wp2
                          refine ⟨fun h => absurd rfl h, ?_⟩
                          refine wpAnyS_done (by kernel_rfl) ?_ _
                          have HEND := CN.out _ g2 cd F1 hg3 hlo hR2 hfr2 hnew
                          go_wp2_with fail
                          go_roundw
                          case rel => exact ⟨i + 1, _, _, _, by omega, by go_num, HEND.1, HEND.2.1, Lib.hid HEND.2.2, Lib.hid (fun j hj => by
                            by_cases e2 : j = i
                            · subst e2; rw [up_same, if_pos (by omega), stepW, if_neg hia, ← HEI.out, if_neg (by rw [HX.out]; exact hx0), HX.out]
                            · rw [up_ne _ _ e2, HE.out j hj]
                              by_cases e : j < i
                              · rw [if_pos e, if_pos (by omega)]
                              · rw [if_neg e, if_neg (by omega)])⟩
                          case measure => simp [intOf]; omega
                    · obtain rfl : i = n := by omega
                      have HG4 := Lib.hid hG
                      have HW4 := Lib.hid hW
                      clear hG hW
                      go_wp2_with fail
                      go_roundw
                      case rel => exact ⟨at_ + 1, cc + 1, hs', vs', b', by omega, by go_num, by go_num, HG4.out, HW4.out, HJ, Lib.hid ((HEC.out.step hF HRR.out hcl hka hkn (by rw [HXK.out]; exact hxk0) H0.out).congr (fun j hj => by rw [HE.out j hj, if_pos hj, HQQ.out]))⟩
                      case measure => simp [intOf]; omega
            · obtain rfl : k = n := by omega
              clear hG hW
              go_wp2_with fail
              go_roundw
              case rel => exact ⟨at_, cc + 1, hs, vs, b, by omega, rfl, by go_num, HG4.out, HW4.out, HJ, Lib.hid (HEC.out.skip (fun j h1 h2 => H0.out j h1 h2))⟩
              case measure => simp [intOf]; omega
        · obtain rfl : cc = len := by omega
          have hrs := hW.rs (cap := cp) HJ.out hak (by omega) hl5
          have HRS := Lib.hid (hrs.wide (B' := w.heap.size) (by omega))
          have HB := Lib.hid hG.b
          clear hG hW hrs
          have HLL := Lib.hid (HLAST.out at_ hs HEC.out)
          go_wp2_with fail
          go_ret
          exact ⟨_, at_, _, rfl, by rw [HLL.out]; simp, HB.out, by rw [HLL.out]; exact HRS.out⟩
end Go.Proofs.Ytljaabmemjehpaa
