/- A grid whose rows a function tells: single rows written, rows moved. · A row put among rows in echelon form: the program's rest and span. · A row put among rows in echelon form: the program's span. -/
import Derived.Test.YtilghmfffdmnjaaDoorGrid
import Derived.Laws.IdiomCopy
import Derived.Test.YtilghmfffdmnjaaDoorColPure
import Derived.Test.YtilghmfffdmnjaaDoorTz
import Derived.Test.YtilghmfffdmnjaaDoorStep
namespace Go.Proofs.YtilghmfffdmnjaaDoor
open Go.RowKit Go.Joins
set_option linter.unusedVariables false

/-- At the block q of the world W lies a grid of n rows and c columns; its cells hold the numbers that f tells. -/
structure CAt (W : World) (q n : Nat) (f : Nat → Nat) (c : Int) : Prop where
  c0 : W.cell? ⟨q, 0, none⟩ = some (.int .i64 n)
  row : ∀ j, j < 10 → W.cell? ⟨q, 1 + j, none⟩ = some (.int .u32 (f j : Nat))
  c11 : W.cell? ⟨q, 11, none⟩ = some (.int .i64 c)
  free : ∀ j, j < 12 → W.frozen? ⟨q, j, none⟩ = false
  lt : q < W.heap.size
  len : n ≤ 10
  r32 : ∀ j, f j < 4294967296
theorem GAt.toC {W : World} {q : Nat} {L : List Nat} {c : Int} (h : GAt W q L c) : CAt W q L.length (nth L) c := ⟨h.c0, h.row, h.c11, h.free, h.lt, h.len, h.r32⟩
theorem CAt.toG {W : World} {q n : Nat} {f : Nat → Nat} {c : Int} (h : CAt W q n f c) (L : List Nat) (hn : L.length = n) (hf : ∀ j, nth L j = f j) : GAt W q L c :=
  ⟨by rw [hn]; exact h.c0, fun j hj => by rw [hf]; exact h.row j hj, h.c11, h.free, h.lt, by rw [hn]; exact h.len, fun j => by rw [hf]; exact h.r32 j⟩
theorem CAt.congr {W : World} {q n : Nat} {f g : Nat → Nat} {c : Int} (h : CAt W q n f c) (hf : ∀ j, g j = f j) : CAt W q n g c :=
  ⟨h.c0, fun j hj => by rw [hf]; exact h.row j hj, h.c11, h.free, h.lt, h.len, fun j => by rw [hf]; exact h.r32 j⟩
theorem CAt.drewN {W : World} {q n : Nat} {f : Nat → Nat} {c : Int} (h : CAt W q n f c) (k : Nat) : CAt (W.drewN k) q n f c := ⟨h.c0, h.row, h.c11, h.free, h.lt, h.len, h.r32⟩
theorem cat_other (W : World) (q i j : Nat) (v : Value) (hne : j ≠ i) : (W.setCell ⟨q, i, none⟩ v).cell? ⟨q, j, none⟩ = W.cell? ⟨q, j, none⟩ :=
  World.cell?_setCell_other W ⟨q, i, none⟩ ⟨q, j, none⟩ _ (fun e => hne (by injection e with _ e _; exact e.symm))
theorem CAt.setRow {W : World} {q n : Nat} {f : Nat → Nat} {c : Int} (h : CAt W q n f c) (i : Nat) (hi : i < 10) (x : Nat) (hx : x < 4294967296) :
    CAt (W.setCell ⟨q, 1 + i, none⟩ (.int .u32 x)) q n (fun j => if j = i then x else f j) c := by
  refine ⟨?_, fun j hj => ?_, ?_, fun j hj => ?_, ?_, h.len, fun j => ?_⟩
  · rw [cat_other _ _ _ _ _ (by omega)]; exact h.c0
  · by_cases e : j = i
    · subst e
      rw [World.cell?_setCell_same' _ _ _ (by rw [h.row j hj]; rfl)]
      simp
    · rw [cat_other _ _ _ _ _ (by omega), h.row j hj]
      simp [e]
  · rw [cat_other _ _ _ _ _ (by omega)]; exact h.c11
  · rw [World.frozen?_setCell]; exact h.free j hj
  · show q < (Array.modify _ _ _).size
    rw [Array.size_modify]; exact h.lt
  · show (if j = i then x else f j) < _
    split
    · exact hx
    · exact h.r32 j
theorem CAt.setLen {W : World} {q n : Nat} {f : Nat → Nat} {c : Int} (h : CAt W q n f c) (m : Nat) (hm : m ≤ 10) :
    CAt (W.setCell ⟨q, 0, none⟩ (.int .i64 m)) q m f c := by
  refine ⟨World.cell?_setCell_same' _ _ _ (by rw [h.c0]; rfl), fun j hj => ?_, ?_, fun j hj => ?_, ?_, hm, h.r32⟩
  · rw [cat_other _ _ _ _ _ (by omega)]; exact h.row j hj
  · rw [cat_other _ _ _ _ _ (by omega)]; exact h.c11
  · rw [World.frozen?_setCell]; exact h.free j hj
  · show q < (Array.modify _ _ _).size
    rw [Array.size_modify]; exact h.lt
/-- The rows from p to below n, as they are moved. -/
def movedC (f : Nat → Nat) (p n : Nat) : List Value := (List.range (n - p)).map fun j => .int .u32 (f (p + j) : Nat)
theorem movedC_len (f : Nat → Nat) (p n : Nat) : (movedC f p n).length = n - p := by simp [movedC]
theorem movedC_get {f : Nat → Nat} {p n j : Nat} {v : Value} (h : (movedC f p n)[j]? = some v) : j < n - p ∧ v = .int .u32 (f (p + j) : Nat) := by
  have hj : j < n - p := by
    have := (List.getElem?_eq_some_iff.1 h).1
    rwa [movedC_len] at this
  refine ⟨hj, ?_⟩
  simp [movedC, hj] at h
  exact h.symm
theorem CAt.move {W : World} {q n : Nat} {f : Nat → Nat} {c : Int} (h : CAt W q n f c) (p o : Nat) (hp : p ≤ n) (hn : n < 10) (ho : o = p + 2) :
    CAt (W.setCells q o (movedC f p n)) q n (fun j => if p < j ∧ j ≤ n then f (j - 1) else f j) c := by
  subst ho
  have hl := movedC_len f p n
  have hout : ∀ i, (i < p + 2 ∨ p + 2 + (n - p) ≤ i) → (W.setCells q (p + 2) (movedC f p n)).cell? ⟨q, i, none⟩ = W.cell? ⟨q, i, none⟩ := fun i hi =>
    World.cell?_setCells_out q _ _ _ ⟨q, i, none⟩ (fun _ _ => by rw [hl]; exact hi)
  refine ⟨?_, fun j hj => ?_, ?_, fun j hj => ?_, ?_, h.len, fun j => ?_⟩
  · rw [hout _ (by omega)]; exact h.c0
  · by_cases e : p < j ∧ j ≤ n
    · simp only [e, and_self, if_true]
      have hlt : j - 1 - p < (movedC f p n).length := by rw [hl]; omega
      have hi := World.cell?_setCells_in q (movedC f p n) (p + 2) W (fun j hj => by
        rw [hl] at hj
        have := h.row (p + 1 + j) (by omega)
        rw [show p + 2 + j = 1 + (p + 1 + j) by omega, this]; rfl) (j - 1 - p) hlt
      rw [show p + 2 + (j - 1 - p) = 1 + j by omega] at hi
      rw [hi]
      have hg := movedC_get (List.getElem?_eq_getElem hlt)
      first | rw [hg.2, show p + (j - 1 - p) = j - 1 by omega] | rw [List.getElem?_eq_getElem hlt, hg.2, show p + (j - 1 - p) = j - 1 by omega]
    · rw [if_neg e, hout _ (by omega)]; exact h.row j hj
  · rw [hout _ (by omega)]; exact h.c11
  · rw [World.frozen?_setCells]; exact h.free j hj
  · have := (Only.setCells (b := q) (movedC f p n) (p + 2) W (Only.refl q W)).size
    rw [this]; exact h.lt
  · show (if p < j ∧ j ≤ n then f (j - 1) else f j) < _
    split
    · exact h.r32 _
    · exact h.r32 j
theorem CAt.only {W W' : World} {q b n : Nat} {f : Nat → Nat} {c : Int} (h : CAt W q n f c) (hb : Only b W W') (hq : q ≠ b) : CAt W' q n f c := by
  have hg : W'.heap[q]? = W.heap[q]? := hb.block q hq
  exact ⟨(World.cell?_of_block (w := W) (a := ⟨q, 0, none⟩) hg).trans h.c0, fun j hj => (World.cell?_of_block (w := W) (a := ⟨q, 1 + j, none⟩) hg).trans (h.row j hj), (World.cell?_of_block (w := W) (a := ⟨q, 11, none⟩) hg).trans h.c11, fun j hj => (World.frozen?_of_block (w := W) (a := ⟨q, j, none⟩) hg).trans (h.free j hj), by rw [hb.size]; exact h.lt, h.len, h.r32⟩
end Go.Proofs.YtilghmfffdmnjaaDoor
namespace Go.Proofs.YtilghmfffdmnjaaDoor
open Go.RowKit Go.Joins
set_option linter.unusedVariables false

theorem Tab.only {w w' : World} {q : Nat} (h : Tab w) (ho : Only q w w') (hq : 1 < q) : Tab w' := by
  have hg : w'.heap[1]? = w.heap[1]? := ho.block _ (by omega)
  exact ⟨fun j hj => (World.cell?_of_block (w := w) (a := ⟨1, j, none⟩) hg).trans (h.1 j hj), by rw [ho.size]; exact h.2⟩
theorem Only.drewN {b : Nat} {w w' : World} (h : Only b w w') (k : Nat) : Only b w (w'.drewN k) := ⟨h.os, h.tape, h.output, h.size, h.block⟩
theorem Only.drewL {b : Nat} {w w' : World} {k : Nat} (h : Only b (w.drewN k) w') : Only b w w' := ⟨h.os, h.tape, h.output, h.size, h.block⟩

set_option maxHeartbeats 1600000 in
theorem rest_any (q : Nat) (L : List Nat) (c : Int) (hE : Ech L) (hL : ∀ j, nth L j < 2 ^ 20) (r : Nat) (hr : r < 2 ^ 20) (w : World) (hG : GAt w q L c) (hT : Tab w) :
    Calls Tryd.prog 129 #[.pointer (some ⟨q, 0, none⟩), .int .u32 r] w fun e w' => e = .returned (.int .u32 (rest L r : Nat)) ∧ ∃ k, w' = w.drewN k := by
  have hl := hG.len
  rw [← restTo_all]
  go_enter Tryd.func129, Tryd.ntmps129
  go_wp2_with (go_at_call 90; refine (all_any q L c _ hG).mono ?_; rintro e w1 ⟨rfl, q0, rfl⟩)
  go_loop [1, 10] (fun s i => ∃ j : Nat, j ≤ L.length ∧ i = .int .i64 j ∧ s = .int .u32 (restTo L r j : Nat)) (fun _ i => L.length - (intOf i).toNat)
  case atStart => exact ⟨0, Nat.zero_le _, rfl, rfl⟩
  case round =>
    obtain ⟨j, hj, rfl, rfl⟩ := hrel
    by_cases hlj : j < L.length
    · have hrow := (hG.drewN q0).row j (by omega)
      have hx := hL j
      have hne := nth_ne hE hlj
      have hcs := restTo_succ r hlj
      have hcl := restTo_lt hr hL j (by omega)
      generalize restTo L r j = s at hcs hcl ⊢
      generalize nth L j = x at hrow hx hcs hne
      have hld : ld x < 20 := ld_lt hx hne
      have LX := Lib.hid (lead_any x hne (by omega) (w.drewN q0) (hT.drewN q0))
      generalize ld x = l at hld LX hcs
      clear hT
      by_cases hb : s.testBit l = true
      · rw [if_pos hb] at hcs
        have HB := Lib.hid hb
        have HCS := Lib.hid hcs
        clear hb hcs
        go_wp2_with (first | (go_at_call 119; refine LX.out.mono ?_; rintro e w1 ⟨rfl, rfl⟩) | (go_at_call 121; refine (has_any s l (by omega) (by omega) _).mono ?_; rw [HB.out]; rintro e w1 ⟨rfl, rfl⟩) | (go_at_call 91; refine (plus_any s x (by omega) (by omega) _).mono ?_; rw [← HCS.out]; rintro e w1 ⟨rfl, rfl⟩))
        go_round
        case rel => exact ⟨j + 1, by omega, by go_num, rfl⟩
        case measure => simp [intOf]; omega
      · rw [if_neg hb] at hcs
        have HB := Lib.hid (show s.testBit l = false by simpa using hb)
        have HCS := Lib.hid hcs
        clear hb hcs
        go_wp2_with (first | (go_at_call 119; refine LX.out.mono ?_; rintro e w1 ⟨rfl, rfl⟩) | (go_at_call 121; refine (has_any s l (by omega) (by omega) _).mono ?_; rw [HB.out]; rintro e w1 ⟨rfl, rfl⟩))
        go_round
        case rel => exact ⟨j + 1, by omega, by go_num, by rw [HCS.out]⟩
        case measure => simp [intOf]; omega
    · obtain rfl : j = L.length := by omega
      go_wp2_with fail
      go_ret
      exact ⟨rfl, _, rfl⟩
end Go.Proofs.YtilghmfffdmnjaaDoor
namespace Go.Proofs.YtilghmfffdmnjaaDoor
open Go.RowKit Go.Joins
set_option linter.unusedVariables false

theorem step_copy_row {P : Program} {ops : Array Oper} {o : Oper} {a : Act} {w : World} {K : Act → World → Prop} {Q : Exit → Act → World → Prop} {E : Prop} (hgd : o.guard = none) (d s : Operand) (dT sT : TypeId)
    (ho : o.op = .call { callee := .builtin .copy, args := #[d, s], argTypes := #[dT, sT] }) (elem : TypeId) (hu : P.underlying dT = some (.slice elem)) (hsz : (P.info? elem).map (·.size) = some 1)
    (dp sp : Option Addr) (dLen dCap sLen sCap : Nat) (hd : a.eval d = .slice dp dLen dCap) (hs : a.eval s = .slice sp sLen sCap)
    (b off : Nat) (cs : List Value) (hn : cs.length = Nat.min sLen dLen)
    (hpos : 0 < cs.length → dp = some ⟨b, off, none⟩ ∧ ∃ ad, sp = some ad ∧ ∀ j v, cs[j]? = some v → w.cell? (ad.add j) = some v)
    (hc : ∀ j, j < cs.length → (w.cell? ⟨b, off + j, none⟩).isSome = true) (hf : ∀ j, j < cs.length → w.frozen? ⟨b, off + j, none⟩ = false) (h1 : ∀ v ∈ cs, v.oneCell' = true)
    (h : K (a.put o.dst (goInt cs.length)) (w.setCells b off cs)) :
    if Region.wanted o (yielded ops a.tmps) = true then Oper.wp P o a w K Q else E := by
  have hw : Region.wanted o (yielded ops a.tmps) = true := by simp [Region.wanted, hgd]
  rw [if_pos hw]
  by_cases h0 : cs.length = 0
  · obtain rfl : cs = [] := List.eq_nil_of_length_eq_zero h0
    have hrun := run_copy_none (P := P) w dT sT o.type elem dp sp dLen dCap sLen sCap hu hsz (by simpa using hn.symm)
    unfold Oper.wp
    simp [execOp, ho, resolve, invoke, builtin, hd, hs, hrun, Result.andThen]
    exact h
  · obtain ⟨rfl, ad, rfl, hsrc⟩ := hpos (by omega)
    have hrun := run_copy_cells (P := P) w dT sT o.type elem b off dLen dCap ad sLen sCap cs hu hsz hn hsrc hc hf h1
    unfold Oper.wp
    simp [execOp, ho, resolve, invoke, builtin, hd, hs, hrun, Result.andThen]
    exact h
theorem Tryd.infoRow : (Tryd.prog.info? 100).map (·.size) = some 1 := by kernel_rfl
theorem movedC_one (f : Nat → Nat) (p n : Nat) : ∀ v ∈ movedC f p n, v.oneCell' = true := by
  intro v hv
  simp only [movedC, List.mem_map] at hv
  obtain ⟨j, _, rfl⟩ := hv
  rfl
theorem movedC_src {W : World} {q n : Nat} {f : Nat → Nat} {c : Int} (h : CAt W q n f c) (p : Nat) : ∀ j v, (movedC f p n)[j]? = some v → W.cell? ((⟨q, 1 + p, none⟩ : Addr).add j) = some v := by
  intro j v hv
  obtain ⟨hj, rfl⟩ := movedC_get hv
  have hl := h.len
  have := h.row (p + j) (by omega)
  rw [show 1 + (p + j) = 1 + p + j by omega] at this
  rw [← this]
  simp only [Addr.add]
  first | rfl | (split <;> first | rfl | (congr 2; omega)) | simp

theorem movedC_dst {W : World} {q n : Nat} {f : Nat → Nat} {c : Int} (h : CAt W q n f c) (p : Nat) (hn : n < 10) : ∀ j, j < (movedC f p n).length → (W.cell? ⟨q, p + 2 + j, none⟩).isSome = true ∧ W.frozen? ⟨q, p + 2 + j, none⟩ = false := by
  intro j hj
  rw [movedC_len] at hj
  have h1 := h.row (p + 1 + j) (by omega)
  rw [show 1 + (p + 1 + j) = p + 2 + j by omega] at h1
  exact ⟨by rw [h1]; rfl, h.free (p + 2 + j) (by omega)⟩
theorem CAt.last {W : World} {q n : Nat} {L : List Nat} {R : Nat} {c : Int} (hn : L.length = n) (h : CAt W q n (part L R n) c) (h10 : n < 10) (hR : R < 4294967296) (p : Nat) (hp : p = place L R) :
    GAt (((W.setCells q (p + 2) (movedC (part L R n) p n)).setCell ⟨q, 1 + p, none⟩ (.int .u32 R)).setCell ⟨q, 0, none⟩ (.int .i64 ((n : Int) + 1))) q (ins L R) c := by
  subst hp
  have hpl := place_le L R
  have h1 := h.move (place L R) _ (by omega) h10 rfl
  have h2 := (h1.setRow (place L R) (by omega) R hR).setLen (n + 1) (by omega)
  refine h2.toG (ins L R) (by rw [ins_len, hn]) (fun j => ?_)
  rw [ins_fn, hn]

set_option maxRecDepth 100000 in
set_option maxHeartbeats 6400000 in
theorem span_any (q : Nat) (L : List Nat) (c : Int) (hE : Ech L) (hL : ∀ j, nth L j < 2 ^ 20) (r : Nat) (hr : r < 2 ^ 20) (w : World) (hG : GAt w q L c) (hT : Tab w) (hq : 1 < q) (hlen : rest L r ≠ 0 → L.length < 10) :
    Calls Tryd.prog 118 #[.pointer (some ⟨q, 0, none⟩), .int .u32 r] w fun e w' => e = .returned (.bool (decide (rest L r ≠ 0))) ∧ GAt w' q (add L r) c ∧ Only q w w' := by
  have hl := hG.len
  have hRl := rest_lt hr hL
  have S := rest_any q L c hE hL r hr w hG hT
  have HG := Lib.hid hG
  have HT := Lib.hid hT
  clear hG hT
  by_cases hz : rest L r = 0
  · rw [add_zero_rest hz]
    rw [hz] at S
    have HZ := Lib.hid hz
    have HS := Lib.hid S
    clear S hz hRl
    go_enter Tryd.func118, Tryd.ntmps118
    go_wp2_with (go_at_call 129; refine HS.out.mono ?_; rintro e w1 ⟨rfl, q1, rfl⟩)
    go_ret
    exact ⟨ret_bool (by rw [HZ.out]; rfl), HG.out.drewN _, (Only.refl _ _).drewN _⟩
  · have hl10 := hlen hz
    rw [add_rest hz]
    have hld := ld_lt hRl hz
    obtain ⟨R, hR⟩ : ∃ R, rest L r = R := ⟨_, rfl⟩
    rw [hR] at S hz hRl hld ⊢
    have LR := Lib.hid (fun w hT => lead_any R hz (by omega) w hT)
    have HS := Lib.hid S
    have HHE := Lib.hid hE
    have HHL := Lib.hid hL
    have HZ := Lib.hid hz
    have hzi : ¬ (R : Int) = 0 := by omega
    obtain ⟨lR, hlR⟩ : ∃ lR, ld R = lR := ⟨_, rfl⟩
    rw [hlR] at LR hld
    have HLR := Lib.hid hlR
    clear S hz hlen hE hL hR hlR
    go_enter Tryd.func118, Tryd.ntmps118
    go_wp2_with (first | (go_at_call 129; refine HS.out.mono ?_; rintro e w1 ⟨rfl, q1, rfl⟩) | (go_at_call 90; refine (all_any q L c _ (HG.out.drewN q1)).mono ?_; rintro e w1 ⟨rfl, q2, rfl⟩))
    go_loopw [5, 16] (fun p i wr => ∃ k : Nat, k ≤ L.length ∧ i = .int .i64 k ∧ p = .int .i64 (placeTo L R k : Nat) ∧ CAt wr q L.length (part L R k) c ∧ Only q w wr) (fun _ i _ => L.length - (intOf i).toNat)
    case atStart => exact ⟨0, Nat.zero_le _, rfl, rfl, (HG.out.toC.congr (part_zero L R)).drewN (q1 + q2), (Only.refl _ _).drewN (q1 + q2)⟩
    case round =>
      obtain ⟨k, hk, rfl, rfl, hC, hO⟩ := hrel
      have hpl := placeTo_le (q := R) hk
      by_cases hlk : k < L.length
      · have hpx := part_succ L R k
        have hrow := hC.row k (by omega)
        have hfr := hC.free (1 + k) (by omega)
        have hpk : part L R k k = nth L k := by unfold part; rw [if_neg (by omega)]
        have hpt := placeTo_succ R hlk
        have hx := HHL.out k
        have hne := nth_ne HHE.out hlk
        rw [hpk] at hrow
        obtain ⟨x, hxx⟩ : ∃ x, nth L k = x := ⟨_, rfl⟩
        rw [hxx] at hrow hx hne hpx hpt
        have hlx := ld_lt hx hne
        have LX := Lib.hid (fun w hT => lead_any x hne (by omega) w hT)
        obtain ⟨lx, hlx0⟩ : ∃ lx, ld x = lx := ⟨_, rfl⟩
        rw [hlx0] at LX hlx hpt
        rw [HLR.out] at hpt
        obtain ⟨p, hp⟩ : ∃ p, placeTo L R k = p := ⟨_, rfl⟩
        rw [hp] at hpt hpl ⊢
        have HPT := Lib.hid hpt
        have HPX := Lib.hid hpx
        have HC := Lib.hid hC
        have HO := Lib.hid hO
        have HT1 := Lib.hid (HT.out.only hO hq)
        have HPK := Lib.hid (hpk.trans hxx)
        clear hpk hpt hpx hxx hlx0 hp hC hO hne
        by_cases hb : x.testBit lR = true
        · have hcx : chg R x = x ^^^ R := by rw [chg, HLR.out, if_pos hb]
          have HB := Lib.hid hb
          have hset := (HC.out.setRow k (by omega) (x ^^^ R) (by have := Nat.xor_lt_two_pow hx hRl; omega)).congr (g := part L R (k + 1)) (fun j => by rw [HPX.out, hcx])
          have HSET := Lib.hid (show CAt (World.drew (wr.setCell ⟨q, 1 + k, none⟩ (.int .u32 ((x ^^^ R : Nat) : Int)))) q L.length (part L R (k + 1)) c from hset.drewN 1)
          have HO2 := Lib.hid (show Only q w (World.drew (wr.setCell ⟨q, 1 + k, none⟩ (.int .u32 ((x ^^^ R : Nat) : Int)))) from (HO.out.setCell (1 + k) (.int .u32 ((x ^^^ R : Nat) : Int))).drewN 1)
          have HT2 := Lib.hid (HT.out.only HO2.out hq)
          clear hb hcx hset
          go_wp2_with (first | (go_at_call 119; refine (LR.out _ HT1.out).mono ?_; rintro e w1 ⟨rfl, rfl⟩) | (go_at_call 121; refine (has_any x lR (by omega) (by omega) _).mono ?_; rw [HB.out]; rintro e w1 ⟨rfl, rfl⟩))
          go_region_with (go_at_call 91; refine (plus_any x R (by omega) (by omega) _).mono ?_; rintro e w1 ⟨rfl, rfl⟩)
          all_goals
            by_cases hlt : lx < lR
            · rw [if_pos hlt] at HPT
              go_wp2_with (go_at_call 119; first | (refine (LX.out _ HT2.out).mono ?_; rintro e w1 ⟨rfl, rfl⟩) | (refine (LR.out _ HT2.out).mono ?_; rintro e w1 ⟨rfl, rfl⟩))
              go_roundw
              case rel => exact ⟨k + 1, by omega, by go_num, by rw [HPT.out]; go_num, HSET.out, HO2.out⟩
              case measure => simp [intOf]; omega
            · rw [if_neg hlt] at HPT
              go_wp2_with (go_at_call 119; first | (refine (LX.out _ HT2.out).mono ?_; rintro e w1 ⟨rfl, rfl⟩) | (refine (LR.out _ HT2.out).mono ?_; rintro e w1 ⟨rfl, rfl⟩))
              go_roundw
              case rel => exact ⟨k + 1, by omega, by go_num, by rw [HPT.out], HSET.out, HO2.out⟩
              case measure => simp [intOf]; omega
        · have HB := Lib.hid (show x.testBit lR = false by simpa using hb)
          have hcx : chg R x = x := by rw [chg, HLR.out, if_neg hb]
          have hset := HC.out.congr (g := part L R (k + 1)) (fun j => by
            rw [HPX.out, hcx]
            by_cases e : j = k
            · subst e; rw [if_pos rfl, HPK.out]
            · rw [if_neg e])
          have HSET := Lib.hid hset
          clear hb hcx hset
          by_cases hlt : lx < lR
          · rw [if_pos hlt] at HPT
            go_wp2_with (first | (go_at_call 119; first | (refine (LX.out _ HT1.out).mono ?_; rintro e w1 ⟨rfl, rfl⟩) | (refine (LR.out _ HT1.out).mono ?_; rintro e w1 ⟨rfl, rfl⟩)) | (go_at_call 121; refine (has_any x lR (by omega) (by omega) _).mono ?_; rw [HB.out]; rintro e w1 ⟨rfl, rfl⟩))
            go_roundw
            case rel => exact ⟨k + 1, by omega, by go_num, by rw [HPT.out]; go_num, HSET.out, HO.out⟩
            case measure => simp [intOf]; omega
          · rw [if_neg hlt] at HPT
            go_wp2_with (first | (go_at_call 119; first | (refine (LX.out _ HT1.out).mono ?_; rintro e w1 ⟨rfl, rfl⟩) | (refine (LR.out _ HT1.out).mono ?_; rintro e w1 ⟨rfl, rfl⟩)) | (go_at_call 121; refine (has_any x lR (by omega) (by omega) _).mono ?_; rw [HB.out]; rintro e w1 ⟨rfl, rfl⟩))
            go_roundw
            case rel => exact ⟨k + 1, by omega, by go_num, by rw [HPT.out], HSET.out, HO.out⟩
            case measure => simp [intOf]; omega
      · obtain ⟨n, hn⟩ : ∃ n, L.length = n := ⟨_, rfl⟩
        obtain rfl : k = n := by omega
        rw [hn] at hC hl hl10 ⊢
        have hpp : placeTo L R k = place L R := by rw [← hn]; exact placeTo_all L R
        obtain ⟨p, hp⟩ : ∃ p, placeTo L R k = p := ⟨_, rfl⟩
        rw [hp] at hpl hpp ⊢
        have HPP := Lib.hid hpp
        have HN := Lib.hid hn
        have HC := Lib.hid hC
        have HO := Lib.hid hO
        have c0 := hC.c0
        have hp1 : ∃ p1 : Nat, p1 = p + 1 ∧ IntKind.i64.wrap ((p : Int) + 1) = (p1 : Int) := ⟨p + 1, rfl, by
          have : p + 1 ≤ 10 := by omega
          simp [IntKind.wrap, IntKind.signed, IntKind.bits]; omega⟩
        obtain ⟨p1, hp1, hpw⟩ := hp1
        have hp10 : (p1 : Int) ≤ 10 := by omega
        have hpk : (p : Int) ≤ (k : Int) := by omega
        have hk10 : (k : Int) ≤ 10 := by omega
        have hne2 : ¬ 10 = p := by omega
        have HP1 := Lib.hid hp1
        have HCD := Lib.hid (show CAt wr.drew q k (part L R k) c from HC.out.drewN 1)
        have HLN := Lib.hid (movedC_len (part L R k) p k)
        have hc1 : (((wr.drew.setCells q (p + 2) (movedC (part L R k) p k)).setCell ⟨q, 1 + p, none⟩ (.int .u32 R))).cell? ⟨q, 0, none⟩ = some (.int .i64 k) := by
          rw [cat_other _ _ _ _ _ (by omega)]
          exact (HCD.out.move p _ (by omega) hl10 rfl).c0
        clear hpp hn hp hp1 hC hO HHE HHL HT
        have hMv := HCD.out.move p _ (by omega) hl10 rfl
        have cr := hMv.row p (by omega)
        have cr0 := hMv.c0
        have fr := hMv.free (1 + p) (by omega)
        have f0 := hMv.free 0 (by omega)
        have HFIN := Lib.hid (CAt.last HN.out HCD.out hl10 (by omega) p HPP.out)
        have HOD := Lib.hid (Only.setCells (movedC (part L R k) p k) (p + 2) wr.drew (HO.out.drewN 1))
        clear hMv
        by_cases hne1 : 10 = p1
        · subst hne1
          go_wp2_with fail
          go_region_law (refine step_copy_row rfl (.tmp 46) (.tmp 55) 121 121 rfl 100 Tryd.underlying121 Tryd.infoRow _ _ _ _ _ _ rfl rfl q (p + 2) (movedC (part L R k) p k) (by rw [HLN.out]; have := HP1.out; show _ = min _ _; omega) (fun h => by rw [HLN.out] at h; have := HP1.out; exfalso; omega) (fun j hj => (movedC_dst HCD.out p hl10 j hj).1) (fun j hj => (movedC_dst HCD.out p hl10 j hj).2) (movedC_one _ _ _) ?_)
          all_goals
            go_wp2_with fail
            go_ret
            exact ⟨ret_bool (by simp [HZ.out]), HFIN.out, (HOD.out.setCell _ _).setCell _ _⟩
        · go_wp2_with fail
          go_region_law (refine step_copy_row rfl (.tmp 46) (.tmp 55) 121 121 rfl 100 Tryd.underlying121 Tryd.infoRow _ _ _ _ _ _ rfl rfl q (p + 2) (movedC (part L R k) p k) (by rw [HLN.out]; have := HP1.out; show _ = min _ _; omega) (fun h => ⟨by rw [show 1 + p1 = p + 2 by have := HP1.out; omega], _, rfl, movedC_src HCD.out p⟩) (fun j hj => (movedC_dst HCD.out p hl10 j hj).1) (fun j hj => (movedC_dst HCD.out p hl10 j hj).2) (movedC_one _ _ _) ?_)
          all_goals
            go_wp2_with fail
            go_ret
            exact ⟨ret_bool (by simp [HZ.out]), HFIN.out, (HOD.out.setCell _ _).setCell _ _⟩
end Go.Proofs.YtilghmfffdmnjaaDoor
