/- A list of rows alone, without columns: the program's rest and span over it. · A list of rows as a value; the echelon form of the rows of a list: the program's. · The space of all sums of rows of a space and of a grid; the echelon form: the program's. -/
import Derived.Test.YtilghmfffdmnjaaDoorSpan2
import Derived.Test.YtilghmfffdmnjaaDoorSp1
import Derived.Test.YtilghmfffdmnjaaDoorHeld2
import Derived.Test.YtilghmfffdmnjaaDoorRowsV
namespace Go.Proofs.YtilghmfffdmnjaaDoor
open Go.RowKit Go.Joins
set_option linter.unusedVariables false

/-- A list whose rows a function tells. -/
structure RCt (W : World) (q n : Nat) (f : Nat → Nat) : Prop where
  c0 : W.cell? ⟨q, 0, none⟩ = some (.int .i64 n)
  row : ∀ j, j < 10 → W.cell? ⟨q, 1 + j, none⟩ = some (.int .u32 (f j : Nat))
  free : ∀ j, j < 11 → W.frozen? ⟨q, j, none⟩ = false
  lt : q < W.heap.size
  len : n ≤ 10
  r32 : ∀ j, f j < 4294967296
theorem RAt.toC {W : World} {q : Nat} {L : List Nat} (h : RAt W q L) : RCt W q L.length (nth L) := ⟨h.c0, h.row, h.free, h.lt, h.len, h.r32⟩
theorem RCt.toG {W : World} {q n : Nat} {f : Nat → Nat} (h : RCt W q n f) (L : List Nat) (hn : L.length = n) (hf : ∀ j, nth L j = f j) : RAt W q L :=
  ⟨by rw [hn]; exact h.c0, fun j hj => by rw [hf]; exact h.row j hj, h.free, h.lt, by rw [hn]; exact h.len, fun j => by rw [hf]; exact h.r32 j⟩
theorem RCt.congr {W : World} {q n : Nat} {f g : Nat → Nat} (h : RCt W q n f) (hf : ∀ j, g j = f j) : RCt W q n g :=
  ⟨h.c0, fun j hj => by rw [hf]; exact h.row j hj, h.free, h.lt, h.len, fun j => by rw [hf]; exact h.r32 j⟩
theorem RCt.drewN {W : World} {q n : Nat} {f : Nat → Nat} (h : RCt W q n f) (k : Nat) : RCt (W.drewN k) q n f := ⟨h.c0, h.row, h.free, h.lt, h.len, h.r32⟩
theorem rct_other (W : World) (q i j : Nat) (v : Value) (hne : j ≠ i) : (W.setCell ⟨q, i, none⟩ v).cell? ⟨q, j, none⟩ = W.cell? ⟨q, j, none⟩ :=
  World.cell?_setCell_other W ⟨q, i, none⟩ ⟨q, j, none⟩ _ (fun e => hne (by injection e with _ e _; exact e.symm))
theorem RCt.setRow {W : World} {q n : Nat} {f : Nat → Nat} (h : RCt W q n f) (i : Nat) (hi : i < 10) (x : Nat) (hx : x < 4294967296) :
    RCt (W.setCell ⟨q, 1 + i, none⟩ (.int .u32 x)) q n (fun j => if j = i then x else f j) := by
  refine ⟨?_, fun j hj => ?_, fun j hj => ?_, ?_, h.len, fun j => ?_⟩
  · rw [rct_other _ _ _ _ _ (by omega)]; exact h.c0
  · by_cases e : j = i
    · subst e
      rw [World.cell?_setCell_same' _ _ _ (by rw [h.row j hj]; rfl)]
      simp
    · rw [rct_other _ _ _ _ _ (by omega), h.row j hj]
      simp [e]
  · rw [World.frozen?_setCell]; exact h.free j hj
  · show q < (Array.modify _ _ _).size
    rw [Array.size_modify]; exact h.lt
  · show (if j = i then x else f j) < _
    split
    · exact hx
    · exact h.r32 j
theorem RCt.setLen {W : World} {q n : Nat} {f : Nat → Nat} (h : RCt W q n f) (m : Nat) (hm : m ≤ 10) :
    RCt (W.setCell ⟨q, 0, none⟩ (.int .i64 m)) q m f := by
  refine ⟨World.cell?_setCell_same' _ _ _ (by rw [h.c0]; rfl), fun j hj => ?_, fun j hj => ?_, ?_, hm, h.r32⟩
  · rw [rct_other _ _ _ _ _ (by omega)]; exact h.row j hj
  · rw [World.frozen?_setCell]; exact h.free j hj
  · show q < (Array.modify _ _ _).size
    rw [Array.size_modify]; exact h.lt
theorem RCt.move {W : World} {q n : Nat} {f : Nat → Nat} (h : RCt W q n f) (p o : Nat) (hp : p ≤ n) (hn : n < 10) (ho : o = p + 2) :
    RCt (W.setCells q o (movedC f p n)) q n (fun j => if p < j ∧ j ≤ n then f (j - 1) else f j) := by
  subst ho
  have hl := movedC_len f p n
  have hout : ∀ i, (i < p + 2 ∨ p + 2 + (n - p) ≤ i) → (W.setCells q (p + 2) (movedC f p n)).cell? ⟨q, i, none⟩ = W.cell? ⟨q, i, none⟩ := fun i hi =>
    World.cell?_setCells_out q _ _ _ ⟨q, i, none⟩ (fun _ _ => by rw [hl]; exact hi)
  refine ⟨?_, fun j hj => ?_, fun j hj => ?_, ?_, h.len, fun j => ?_⟩
  · rw [hout _ (by omega)]; exact h.c0
  · by_cases e : p < j ∧ j ≤ n
    · simp only [e, and_self, if_true]
      have hlt : j - 1 - p < (movedC f p n).length := by rw [hl]; omega
      have hi := World.cell?_setCells_in q (movedC f p n) (p + 2) W (fun j hj => by
        rw [hl] at hj
        have := h.row (p + 1 + j) (by omega)
        rw [show p + 2 + j = 1 + (p + 1 + j) by omega, this]; rfl) (j - 1 - p) hlt
      rw [show p + 2 + (j - 1 - p) = 1 + j by omega] at hi
      rw [hi]
      have hg := movedC_get (List.getElem?_eq_getElem hlt)
      first | rw [hg.2, show p + (j - 1 - p) = j - 1 by omega] | rw [List.getElem?_eq_getElem hlt, hg.2, show p + (j - 1 - p) = j - 1 by omega]
    · rw [if_neg e, hout _ (by omega)]; exact h.row j hj
  · rw [World.frozen?_setCells]; exact h.free j hj
  · have := (Only.setCells (b := q) (movedC f p n) (p + 2) W (Only.refl q W)).size
    rw [this]; exact h.lt
  · show (if p < j ∧ j ≤ n then f (j - 1) else f j) < _
    split
    · exact h.r32 _
    · exact h.r32 j
set_option maxHeartbeats 1600000 in
theorem rest_r (q : Nat) (L : List Nat) (hE : Ech L) (hL : ∀ j, nth L j < 2 ^ 20) (r : Nat) (hr : r < 2 ^ 20) (w : World) (hG : RAt w q L) (hT : Tab w) :
    Calls Tryd.prog 129 #[.pointer (some ⟨q, 0, none⟩), .int .u32 r] w fun e w' => e = .returned (.int .u32 (rest L r : Nat)) ∧ ∃ k, w' = w.drewN k := by
  have hl := hG.len
  rw [← restTo_all]
  go_enter Tryd.func129, Tryd.ntmps129
  go_wp2_with (go_at_call 90; refine (all_r q L _ hG).mono ?_; rintro e w1 ⟨rfl, q0, rfl⟩)
  go_loop [1, 10] (fun s i => ∃ j : Nat, j ≤ L.length ∧ i = .int .i64 j ∧ s = .int .u32 (restTo L r j : Nat)) (fun _ i => L.length - (intOf i).toNat)
  case atStart => exact ⟨0, Nat.zero_le _, rfl, rfl⟩
  case round =>
    obtain ⟨j, hj, rfl, rfl⟩ := hrel
    by_cases hlj : j < L.length
    · have hrow := (hG.drewN q0).row j (by omega)
      have hx := hL j
      have hne := nth_ne hE hlj
      have hcs := restTo_succ r hlj
      have hcl := restTo_lt hr hL j (by omega)
      generalize restTo L r j = s at hcs hcl ⊢
      generalize nth L j = x at hrow hx hcs hne
      have hld : ld x < 20 := ld_lt hx hne
      have LX := Lib.hid (lead_any x hne (by omega) (w.drewN q0) (hT.drewN q0))
      generalize ld x = l at hld LX hcs
      clear hT
      by_cases hb : s.testBit l = true
      · rw [if_pos hb] at hcs
        have HB := Lib.hid hb
        have HCS := Lib.hid hcs
        clear hb hcs
        go_wp2_with (first | (go_at_call 119; refine LX.out.mono ?_; rintro e w1 ⟨rfl, rfl⟩) | (go_at_call 121; refine (has_any s l (by omega) (by omega) _).mono ?_; rw [HB.out]; rintro e w1 ⟨rfl, rfl⟩) | (go_at_call 91; refine (plus_any s x (by omega) (by omega) _).mono ?_; rw [← HCS.out]; rintro e w1 ⟨rfl, rfl⟩))
        go_round
        case rel => exact ⟨j + 1, by omega, by go_num, rfl⟩
        case measure => simp [intOf]; omega
      · rw [if_neg hb] at hcs
        have HB := Lib.hid (show s.testBit l = false by simpa using hb)
        have HCS := Lib.hid hcs
        clear hb hcs
        go_wp2_with (first | (go_at_call 119; refine LX.out.mono ?_; rintro e w1 ⟨rfl, rfl⟩) | (go_at_call 121; refine (has_any s l (by omega) (by omega) _).mono ?_; rw [HB.out]; rintro e w1 ⟨rfl, rfl⟩))
        go_round
        case rel => exact ⟨j + 1, by omega, by go_num, by rw [HCS.out]⟩
        case measure => simp [intOf]; omega
    · obtain rfl : j = L.length := by omega
      go_wp2_with fail
      go_ret
      exact ⟨rfl, _, rfl⟩
theorem movedR_src {W : World} {q n : Nat} {f : Nat → Nat} (h : RCt W q n f) (p : Nat) : ∀ j v, (movedC f p n)[j]? = some v → W.cell? ((⟨q, 1 + p, none⟩ : Addr).add j) = some v := by
  intro j v hv
  obtain ⟨hj, rfl⟩ := movedC_get hv
  have hl := h.len
  have := h.row (p + j) (by omega)
  rw [show 1 + (p + j) = 1 + p + j by omega] at this
  rw [← this]
  simp only [Addr.add]
  first | rfl | (split <;> first | rfl | (congr 2; omega)) | simp

theorem movedR_dst {W : World} {q n : Nat} {f : Nat → Nat} (h : RCt W q n f) (p : Nat) (hn : n < 10) : ∀ j, j < (movedC f p n).length → (W.cell? ⟨q, p + 2 + j, none⟩).isSome = true ∧ W.frozen? ⟨q, p + 2 + j, none⟩ = false := by
  intro j hj
  rw [movedC_len] at hj
  have h1 := h.row (p + 1 + j) (by omega)
  rw [show 1 + (p + 1 + j) = p + 2 + j by omega] at h1
  exact ⟨by rw [h1]; rfl, h.free (p + 2 + j) (by omega)⟩
theorem RCt.last {W : World} {q n : Nat} {L : List Nat} {R : Nat} (hn : L.length = n) (h : RCt W q n (part L R n)) (h10 : n < 10) (hR : R < 4294967296) (p : Nat) (hp : p = place L R) :
    RAt (((W.setCells q (p + 2) (movedC (part L R n) p n)).setCell ⟨q, 1 + p, none⟩ (.int .u32 R)).setCell ⟨q, 0, none⟩ (.int .i64 ((n : Int) + 1))) q (ins L R) := by
  subst hp
  have hpl := place_le L R
  have h1 := h.move (place L R) _ (by omega) h10 rfl
  have h2 := (h1.setRow (place L R) (by omega) R hR).setLen (n + 1) (by omega)
  refine h2.toG (ins L R) (by rw [ins_len, hn]) (fun j => ?_)
  rw [ins_fn, hn]

set_option maxRecDepth 100000 in
set_option maxHeartbeats 6400000 in
theorem span_r (q : Nat) (L : List Nat) (hE : Ech L) (hL : ∀ j, nth L j < 2 ^ 20) (r : Nat) (hr : r < 2 ^ 20) (w : World) (hG : RAt w q L) (hT : Tab w) (hq : 1 < q) (hlen : rest L r ≠ 0 → L.length < 10) :
    Calls Tryd.prog 118 #[.pointer (some ⟨q, 0, none⟩), .int .u32 r] w fun e w' => e = .returned (.bool (decide (rest L r ≠ 0))) ∧ RAt w' q (add L r) ∧ Only q w w' := by
  have hl := hG.len
  have hRl := rest_lt hr hL
  have S := rest_r q L hE hL r hr w hG hT
  have HG := Lib.hid hG
  have HT := Lib.hid hT
  clear hG hT
  by_cases hz : rest L r = 0
  · rw [add_zero_rest hz]
    rw [hz] at S
    have HZ := Lib.hid hz
    have HS := Lib.hid S
    clear S hz hRl
    go_enter Tryd.func118, Tryd.ntmps118
    go_wp2_with (go_at_call 129; refine HS.out.mono ?_; rintro e w1 ⟨rfl, q1, rfl⟩)
    go_ret
    exact ⟨ret_bool (by rw [HZ.out]; rfl), HG.out.drewN _, (Only.refl _ _).drewN _⟩
  · have hl10 := hlen hz
    rw [add_rest hz]
    have hld := ld_lt hRl hz
    obtain ⟨R, hR⟩ : ∃ R, rest L r = R := ⟨_, rfl⟩
    rw [hR] at S hz hRl hld ⊢
    have LR := Lib.hid (fun w hT => lead_any R hz (by omega) w hT)
    have HS := Lib.hid S
    have HHE := Lib.hid hE
    have HHL := Lib.hid hL
    have HZ := Lib.hid hz
    have hzi : ¬ (R : Int) = 0 := by omega
    obtain ⟨lR, hlR⟩ : ∃ lR, ld R = lR := ⟨_, rfl⟩
    rw [hlR] at LR hld
    have HLR := Lib.hid hlR
    clear S hz hlen hE hL hR hlR
    go_enter Tryd.func118, Tryd.ntmps118
    go_wp2_with (first | (go_at_call 129; refine HS.out.mono ?_; rintro e w1 ⟨rfl, q1, rfl⟩) | (go_at_call 90; refine (all_r q L _ (HG.out.drewN q1)).mono ?_; rintro e w1 ⟨rfl, q2, rfl⟩))
    go_loopw [5, 16] (fun p i wr => ∃ k : Nat, k ≤ L.length ∧ i = .int .i64 k ∧ p = .int .i64 (placeTo L R k : Nat) ∧ RCt wr q L.length (part L R k) ∧ Only q w wr) (fun _ i _ => L.length - (intOf i).toNat)
    case atStart => exact ⟨0, Nat.zero_le _, rfl, rfl, (HG.out.toC.congr (part_zero L R)).drewN (q1 + q2), (Only.refl _ _).drewN (q1 + q2)⟩
    case round =>
      obtain ⟨k, hk, rfl, rfl, hC, hO⟩ := hrel
      have hpl := placeTo_le (q := R) hk
      by_cases hlk : k < L.length
      · have hpx := part_succ L R k
        have hrow := hC.row k (by omega)
        have hfr := hC.free (1 + k) (by omega)
        have hpk : part L R k k = nth L k := by unfold part; rw [if_neg (by omega)]
        have hpt := placeTo_succ R hlk
        have hx := HHL.out k
        have hne := nth_ne HHE.out hlk
        rw [hpk] at hrow
        obtain ⟨x, hxx⟩ : ∃ x, nth L k = x := ⟨_, rfl⟩
        rw [hxx] at hrow hx hne hpx hpt
        have hlx := ld_lt hx hne
        have LX := Lib.hid (fun w hT => lead_any x hne (by omega) w hT)
        obtain ⟨lx, hlx0⟩ : ∃ lx, ld x = lx := ⟨_, rfl⟩
        rw [hlx0] at LX hlx hpt
        rw [HLR.out] at hpt
        obtain ⟨p, hp⟩ : ∃ p, placeTo L R k = p := ⟨_, rfl⟩
        rw [hp] at hpt hpl ⊢
        have HPT := Lib.hid hpt
        have HPX := Lib.hid hpx
        have HC := Lib.hid hC
        have HO := Lib.hid hO
        have HT1 := Lib.hid (HT.out.only hO hq)
        have HPK := Lib.hid (hpk.trans hxx)
        clear hpk hpt hpx hxx hlx0 hp hC hO hne
        by_cases hb : x.testBit lR = true
        · have hcx : chg R x = x ^^^ R := by rw [chg, HLR.out, if_pos hb]
          have HB := Lib.hid hb
          have hset := (HC.out.setRow k (by omega) (x ^^^ R) (by have := Nat.xor_lt_two_pow hx hRl; omega)).congr (g := part L R (k + 1)) (fun j => by rw [HPX.out, hcx])
          have HSET := Lib.hid (show RCt (World.drew (wr.setCell ⟨q, 1 + k, none⟩ (.int .u32 ((x ^^^ R : Nat) : Int)))) q L.length (part L R (k + 1)) from hset.drewN 1)
          have HO2 := Lib.hid (show Only q w (World.drew (wr.setCell ⟨q, 1 + k, none⟩ (.int .u32 ((x ^^^ R : Nat) : Int)))) from (HO.out.setCell (1 + k) (.int .u32 ((x ^^^ R : Nat) : Int))).drewN 1)
          have HT2 := Lib.hid (HT.out.only HO2.out hq)
          clear hb hcx hset
          go_wp2_with (first | (go_at_call 119; refine (LR.out _ HT1.out).mono ?_; rintro e w1 ⟨rfl, rfl⟩) | (go_at_call 121; refine (has_any x lR (by omega) (by omega) _).mono ?_; rw [HB.out]; rintro e w1 ⟨rfl, rfl⟩))
          go_region_with (go_at_call 91; refine (plus_any x R (by omega) (by omega) _).mono ?_; rintro e w1 ⟨rfl, rfl⟩)
          all_goals
            by_cases hlt : lx < lR
            · rw [if_pos hlt] at HPT
              go_wp2_with (go_at_call 119; first | (refine (LX.out _ HT2.out).mono ?_; rintro e w1 ⟨rfl, rfl⟩) | (refine (LR.out _ HT2.out).mono ?_; rintro e w1 ⟨rfl, rfl⟩))
              go_roundw
              case rel => exact ⟨k + 1, by omega, by go_num, by rw [HPT.out]; go_num, HSET.out, HO2.out⟩
              case measure => simp [intOf]; omega
            · rw [if_neg hlt] at HPT
              go_wp2_with (go_at_call 119; first | (refine (LX.out _ HT2.out).mono ?_; rintro e w1 ⟨rfl, rfl⟩) | (refine (LR.out _ HT2.out).mono ?_; rintro e w1 ⟨rfl, rfl⟩))
              go_roundw
              case rel => exact ⟨k + 1, by omega, by go_num, by rw [HPT.out], HSET.out, HO2.out⟩
              case measure => simp [intOf]; omega
        · have HB := Lib.hid (show x.testBit lR = false by simpa using hb)
          have hcx : chg R x = x := by rw [chg, HLR.out, if_neg hb]
          have hset := HC.out.congr (g := part L R (k + 1)) (fun j => by
            rw [HPX.out, hcx]
            by_cases e : j = k
            · subst e; rw [if_pos rfl, HPK.out]
            · rw [if_neg e])
          have HSET := Lib.hid hset
          clear hb hcx hset
          by_cases hlt : lx < lR
          · rw [if_pos hlt] at HPT
            go_wp2_with (first | (go_at_call 119; first | (refine (LX.out _ HT1.out).mono ?_; rintro e w1 ⟨rfl, rfl⟩) | (refine (LR.out _ HT1.out).mono ?_; rintro e w1 ⟨rfl, rfl⟩)) | (go_at_call 121; refine (has_any x lR (by omega) (by omega) _).mono ?_; rw [HB.out]; rintro e w1 ⟨rfl, rfl⟩))
            go_roundw
            case rel => exact ⟨k + 1, by omega, by go_num, by rw [HPT.out]; go_num, HSET.out, HO.out⟩
            case measure => simp [intOf]; omega
          · rw [if_neg hlt] at HPT
            go_wp2_with (first | (go_at_call 119; first | (refine (LX.out _ HT1.out).mono ?_; rintro e w1 ⟨rfl, rfl⟩) | (refine (LR.out _ HT1.out).mono ?_; rintro e w1 ⟨rfl, rfl⟩)) | (go_at_call 121; refine (has_any x lR (by omega) (by omega) _).mono ?_; rw [HB.out]; rintro e w1 ⟨rfl, rfl⟩))
            go_roundw
            case rel => exact ⟨k + 1, by omega, by go_num, by rw [HPT.out], HSET.out, HO.out⟩
            case measure => simp [intOf]; omega
      · obtain ⟨n, hn⟩ : ∃ n, L.length = n := ⟨_, rfl⟩
        obtain rfl : k = n := by omega
        rw [hn] at hC hl hl10 ⊢
        have hpp : placeTo L R k = place L R := by rw [← hn]; exact placeTo_all L R
        obtain ⟨p, hp⟩ : ∃ p, placeTo L R k = p := ⟨_, rfl⟩
        rw [hp] at hpl hpp ⊢
        have HPP := Lib.hid hpp
        have HN := Lib.hid hn
        have HC := Lib.hid hC
        have HO := Lib.hid hO
        have c0 := hC.c0
        have hp1 : ∃ p1 : Nat, p1 = p + 1 ∧ IntKind.i64.wrap ((p : Int) + 1) = (p1 : Int) := ⟨p + 1, rfl, by
          have : p + 1 ≤ 10 := by omega
          simp [IntKind.wrap, IntKind.signed, IntKind.bits]; omega⟩
        obtain ⟨p1, hp1, hpw⟩ := hp1
        have hp10 : (p1 : Int) ≤ 10 := by omega
        have hpk : (p : Int) ≤ (k : Int) := by omega
        have hk10 : (k : Int) ≤ 10 := by omega
        have hne2 : ¬ 10 = p := by omega
        have HP1 := Lib.hid hp1
        have HCD := Lib.hid (show RCt wr.drew q k (part L R k) from HC.out.drewN 1)
        have HLN := Lib.hid (movedC_len (part L R k) p k)
        have hc1 : (((wr.drew.setCells q (p + 2) (movedC (part L R k) p k)).setCell ⟨q, 1 + p, none⟩ (.int .u32 R))).cell? ⟨q, 0, none⟩ = some (.int .i64 k) := by
          rw [rct_other _ _ _ _ _ (by omega)]
          exact (HCD.out.move p _ (by omega) hl10 rfl).c0
        clear hpp hn hp hp1 hC hO HHE HHL HT
        have hMv := HCD.out.move p _ (by omega) hl10 rfl
        have cr := hMv.row p (by omega)
        have cr0 := hMv.c0
        have fr := hMv.free (1 + p) (by omega)
        have f0 := hMv.free 0 (by omega)
        have HFIN := Lib.hid (RCt.last HN.out HCD.out hl10 (by omega) p HPP.out)
        have HOD := Lib.hid (Only.setCells (movedC (part L R k) p k) (p + 2) wr.drew (HO.out.drewN 1))
        clear hMv
        by_cases hne1 : 10 = p1
        · subst hne1
          go_wp2_with fail
          go_region_law (refine step_copy_row rfl (.tmp 46) (.tmp 55) 121 121 rfl 100 Tryd.underlying121 Tryd.infoRow _ _ _ _ _ _ rfl rfl q (p + 2) (movedC (part L R k) p k) (by rw [HLN.out]; have := HP1.out; show _ = min _ _; omega) (fun h => by rw [HLN.out] at h; have := HP1.out; exfalso; omega) (fun j hj => (movedR_dst HCD.out p hl10 j hj).1) (fun j hj => (movedR_dst HCD.out p hl10 j hj).2) (movedC_one _ _ _) ?_)
          all_goals
            go_wp2_with fail
            go_ret
            exact ⟨ret_bool (by simp [HZ.out]), HFIN.out, (HOD.out.setCell _ _).setCell _ _⟩
        · go_wp2_with fail
          go_region_law (refine step_copy_row rfl (.tmp 46) (.tmp 55) 121 121 rfl 100 Tryd.underlying121 Tryd.infoRow _ _ _ _ _ _ rfl rfl q (p + 2) (movedC (part L R k) p k) (by rw [HLN.out]; have := HP1.out; show _ = min _ _; omega) (fun h => ⟨by rw [show 1 + p1 = p + 2 by have := HP1.out; omega], _, rfl, movedR_src HCD.out p⟩) (fun j hj => (movedR_dst HCD.out p hl10 j hj).1) (fun j hj => (movedR_dst HCD.out p hl10 j hj).2) (movedC_one _ _ _) ?_)
          all_goals
            go_wp2_with fail
            go_ret
            exact ⟨ret_bool (by simp [HZ.out]), HFIN.out, (HOD.out.setCell _ _).setCell _ _⟩
end Go.Proofs.YtilghmfffdmnjaaDoor
namespace Go.Proofs.YtilghmfffdmnjaaDoor
open Go.RowKit Go.Joins
set_option linter.unusedVariables false


set_option maxRecDepth 100000 in
set_option maxHeartbeats 3200000 in
theorem spanned_r (C : Nat) (L : List Nat) (hC : C ≤ 10) (hL : ∀ r ∈ L, r < 2 ^ C) (q : Nat) (w : World) (hG : RAt w q L) (hT : Tab w) :
    Calls Tryd.prog 117 #[.pointer (some ⟨q, 0, none⟩)] w fun e w' => e = .returned (.agg (rowsC (joined [] L))) ∧ Below w.heap.size w w' := by
  have hl := hG.len
  have hb := below_alloc2 w (.cells #[.int .i64 0, .int .u32 0, .int .u32 0, .int .u32 0, .int .u32 0, .int .u32 0, .int .u32 0, .int .u32 0, .int .u32 0, .int .u32 0, .int .u32 0] 103) (.cells #[.int .i64 0, .int .u32 0, .int .u32 0, .int .u32 0, .int .u32 0, .int .u32 0, .int .u32 0, .int .u32 0, .int .u32 0, .int .u32 0, .int .u32 0] 103)
  have hR := (RAt.start w 103).room.below (below_alloc1 _ (.cells #[.int .i64 0, .int .u32 0, .int .u32 0, .int .u32 0, .int .u32 0, .int .u32 0, .int .u32 0, .int .u32 0, .int .u32 0, .int .u32 0, .int .u32 0] 103))
  have hS := RAt.start (w.alloc (.cells #[.int .i64 0, .int .u32 0, .int .u32 0, .int .u32 0, .int .u32 0, .int .u32 0, .int .u32 0, .int .u32 0, .int .u32 0, .int .u32 0, .int .u32 0] 103)) 103
  rw [World.size_alloc] at hS
  have HG := Lib.hid (hG.below hb)
  have HS := Lib.hid hS
  have HR := Lib.hid hR
  have HB := Lib.hid hb
  have hq := hG.lt
  clear hR hb hS hG
  go_enter Tryd.func117, Tryd.ntmps117
  go_wp2_with (go_at_call 90; refine (all_r q L _ HG.out).mono ?_; rintro e w1 ⟨rfl, q0, rfl⟩)
  go_loopw [9] (fun i wr => ∃ k : Nat, k ≤ L.length ∧ i = .int .i64 k ∧ RAt wr (w.heap.size + 1) (joined [] (L.take k)) ∧ RAt wr q L ∧ RRoom wr w.heap.size ∧ Below w.heap.size w wr) (fun i _ => L.length - (intOf i).toNat)
  case atStart => exact ⟨0, Nat.zero_le _, rfl, HS.out.drewN q0, HG.out.drewN q0, HR.out.drewN q0, HB.out.trans (below_draws _ _ _)⟩
  case round =>
    obtain ⟨k, hk, rfl, hS, hG, hR, hb⟩ := hrel
    clear HG HS HR HB
    by_cases hlt : k < L.length
    · have hrow := hG.row k (by omega)
      have hJ := joined_spec (L.take k) Ech.nil
      have hJl := joined_lt (L := []) Ech.nil (by simp) (take_lt hL k)
      have hx : nth L k < 2 ^ C := nth_bound hL k
      have hx20 := lt20 (by omega) hL k
      have hjt := joined_take (L := []) hlt
      have hTr := hT.below hb
      have S := span_r (w.heap.size + 1) (joined [] (L.take k)) hJ.1 (lt20 (by omega) hJl) (nth L k) hx20 wr hS hTr (by have := hT.2; omega) (fun h => Nat.lt_of_lt_of_le (span_len hJ.1 hJl hx h) hC)
      rw [← hjt] at S
      generalize nth L k = x at hrow S hx20
      have HS := Lib.hid S
      have HG := Lib.hid hG
      have HR := Lib.hid hR
      have HB := Lib.hid hb
      clear S hG hR hb hJ hJl hjt hTr hx hS
      go_wp2_with (go_at_call 118; refine HS.out.mono ?_; rintro e w2 ⟨rfl, hG2, hO2⟩)
      go_roundw
      case rel => exact ⟨k + 1, by omega, by go_num, hG2, HG.out.only hO2 (by omega), HR.out.only hO2 (by omega), hO2.below HB.out (by omega)⟩
      case measure => simp [intOf]; omega
    · obtain rfl : k = L.length := by omega
      rw [List.take_length] at hS
      obtain ⟨g0, g1, g2, g3, g4, g5, g6, g7, g8, g9, g10⟩ := hS.facts
      obtain ⟨⟨u0, u1, u2, u3, u4, u5, u6, u7, u8, u9, u10, d0, d1, d2, d3, d4, d5, d6, d7, d8, d9, d10⟩, f0, f1, f2, f3, f4, f5, f6, f7, f8, f9, f10⟩ := hR.facts
      have hfin := RAt.store11 hR (joined [] L) hS.len hS.r32
      have HFIN := Lib.hid hfin
      have HB := Lib.hid hb
      clear hfin hR hS hG hb
      go_wp2_with fail
      refine bodyPost_ret (v := .agg (rowsC (joined [] L))) (rows_result (p := 2) (fn := Tryd.f117) rfl _ rfl HFIN.out) rfl ⟨rfl, ?_⟩
      exact (only11 wr _ _ _ _ _ _ _ _ _ _ _ _).below HB.out (by omega)
end Go.Proofs.YtilghmfffdmnjaaDoor
namespace Go.Proofs.YtilghmfffdmnjaaDoor
open Go.RowKit Go.Joins Go.ChangeShapes Go.WideShapes Go.Deep
set_option linter.unusedVariables false
set_option linter.unusedSimpArgs false

/-- A grid that is stored where there is room for one. -/
theorem grid_store {W : World} {q : Nat} (hR : Room W q) (L : List Nat) (c : Int) (hl : L.length ≤ 10) (hr : ∀ j, nth L j < 4294967296) :
    ∃ W2, Sem.run Tryd.prog (storeCells ⟨q, 0, none⟩ (gridC L c).toList) W = .ok () W2 ∧ GAt W2 q L c ∧ Only q W W2 := by
  refine ⟨_, run_storeCells_cells (P := Tryd.prog) q 0 (gridC L c).toList 0 _ (fun j hj => ?_) (fun j hj => ?_) (fun v hv => ?_), GAt.store hR L c hl hr, Only.setCells _ _ _ (Only.refl _ _)⟩
  · exact (hR.there j (by simpa [gridC] using hj)).1
  · exact (hR.there j (by simpa [gridC] using hj)).2
  · simp [gridC] at hv
    rcases hv with rfl | rfl | rfl | rfl | rfl | rfl | rfl | rfl | rfl | rfl | rfl | rfl <;> rfl

set_option maxRecDepth 100000 in
set_option maxHeartbeats 3200000 in
theorem joined_any (C : Nat) (c : Int) (L M : List Nat) (hC : C ≤ 10) (hE : Ech L) (hL : ∀ r ∈ L, r < 2 ^ C) (hM : ∀ r ∈ M, r < 2 ^ C) (hm : M.length ≤ 10) (w : World) (hT : Tab w) :
    Calls Tryd.prog 94 #[.agg (gridC L C), .agg (gridC M c)] w fun e w' => e = .returned (.agg (gridC (joined L M) C)) ∧ Below w.heap.size w w' := by
  have hl : L.length ≤ 10 := Nat.le_trans (hE.len hL) hC
  have hG := (GAt.start w L C 105 hl (lt32 (by omega) hL)).below (below_alloc2 _ (.cells (gridC M c) 105) (.cells (gridC [] 0) 105))
  have hH : GAt (((w.alloc (.cells (gridC L C) 105)).alloc (.cells (gridC M c) 105)).alloc (.cells (gridC [] 0) 105)) (w.heap.size + 1) M c := by
    have := (GAt.start (w.alloc (.cells (gridC L C) 105)) M c 105 hm (lt32 (by omega) hM)).below (below_alloc1 _ (.cells (gridC [] 0) 105))
    simpa using this
  have hR : Room (((w.alloc (.cells (gridC L C) 105)).alloc (.cells (gridC M c) 105)).alloc (.cells (gridC [] 0) 105)) (w.heap.size + 1 + 1) := by
    have := (GAt.start ((w.alloc (.cells (gridC L C) 105)).alloc (.cells (gridC M c) 105)) [] 0 105 (by simp) (by intro j; simp [nth])).room
    simpa using this
  have hb := below_alloc3 w (.cells (gridC L C) 105) (.cells (gridC M c) 105) (.cells (gridC [] 0) 105)
  have HG := Lib.hid hG
  have HH := Lib.hid hH
  have HR := Lib.hid hR
  have HB := Lib.hid hb
  clear hG hR hb
  go_enter Tryd.func94, Tryd.ntmps94
  go_wp2_with (go_at_call 90; refine (all_any (w.heap.size + 1) M c _ hH).mono ?_; rintro e w1 ⟨rfl, q0, rfl⟩)
  clear hH
  go_loopw [10] (fun i wr => ∃ k : Nat, k ≤ M.length ∧ i = .int .i64 k ∧ GAt wr w.heap.size (joined L (M.take k)) C ∧ GAt wr (w.heap.size + 1) M c ∧ Room wr (w.heap.size + 1 + 1) ∧ Below w.heap.size w wr) (fun i _ => M.length - (intOf i).toNat)
  case atStart => exact ⟨0, Nat.zero_le _, rfl, HG.out.drewN q0, HH.out.drewN q0, HR.out.drewN q0, HB.out.trans (below_draws _ _ _)⟩
  case round =>
    obtain ⟨k, hk, rfl, hG, hH, hR, hb⟩ := hrel
    clear HG HH HR HB
    by_cases hlt : k < M.length
    · have hrow := hH.row k (by omega)
      have hJ := joined_spec (M.take k) hE
      have hJl := joined_lt hE hL (take_lt hM k)
      have hx : nth M k < 2 ^ C := nth_bound hM k
      have hx20 := lt20 (by omega) hM k
      have hjt := joined_take (L := L) hlt
      have hTr := hT.below hb
      have S := span_any w.heap.size (joined L (M.take k)) C hJ.1 (lt20 (by omega) hJl) (nth M k) hx20 wr hG hTr hT.2 (fun h => Nat.lt_of_lt_of_le (span_len hJ.1 hJl hx h) hC)
      rw [← hjt] at S
      generalize nth M k = x at hrow S hx20
      have HS := Lib.hid S
      have HH := Lib.hid hH
      have HR := Lib.hid hR
      have HB := Lib.hid hb
      clear S hH hR hb hJ hJl hjt hTr hx hG
      go_wp2_with (go_at_call 118; refine HS.out.mono ?_; rintro e w2 ⟨rfl, hG2, hO2⟩)
      go_roundw
      case rel => exact ⟨k + 1, by omega, by go_num, hG2, HH.out.only hO2 (by omega), HR.out.only hO2 (by omega), hO2.below HB.out (Nat.le_refl _)⟩
      case measure => simp [intOf]; omega
    · obtain rfl : k = M.length := by omega
      rw [List.take_length] at hG
      obtain ⟨g0, g1, g2, g3, g4, g5, g6, g7, g8, g9, g10, g11⟩ := hG.facts
      obtain ⟨⟨u0, u1, u2, u3, u4, u5, u6, u7, u8, u9, u10, u11, d0, d1, d2, d3, d4, d5, d6, d7, d8, d9, d10, d11⟩, f0, f1, f2, f3, f4, f5, f6, f7, f8, f9, f10, f11⟩ := hR.facts
      have hfin := GAt.store12 hR (joined L M) C hG.len hG.r32
      have HFIN := Lib.hid hfin
      have HB := Lib.hid hb
      clear hfin hR hH hG hb
      go_wp2_with fail
      refine bodyPost_ret (v := .agg (gridC (joined L M) C)) (grid_result (p := 4) (fn := Tryd.f94) rfl _ rfl HFIN.out) rfl ⟨rfl, ?_⟩
      exact (only12 wr _ _ _ _ _ _ _ _ _ _ _ _ _).below HB.out (by omega)

set_option maxRecDepth 100000 in
set_option maxHeartbeats 3200000 in
theorem echelon_any (C : Nat) (L : List Nat) (hC : C ≤ 10) (hL : ∀ r ∈ L, r < 2 ^ C) (hl : L.length ≤ 10) (w : World) (hT : Tab w) :
    Calls Tryd.prog 77 #[.agg (gridC L C)] w fun e w' => e = .returned (.agg (gridC (joined [] L) C)) ∧ Below w.heap.size w w' := by
  have hG := (GAt.start w L C 105 hl (lt32 (by omega) hL)).below (below_alloc1 _ (.cells (gridC [] 0) 105))
  have hR : Room ((w.alloc (.cells (gridC L C) 105)).alloc (.cells (gridC [] 0) 105)) (w.heap.size + 1) := by
    have := (GAt.start (w.alloc (.cells (gridC L C) 105)) [] 0 105 (by simp) (by intro j; simp [nth])).room
    simpa using this
  have hb := below_alloc2 w (.cells (gridC L C) 105) (.cells (gridC [] 0) 105)
  have HJ := Lib.hid (joined_lt .nil (by simp) hL)
  have HE := Lib.hid (joined_spec L Ech.nil).1
  obtain ⟨Φ, hΦ⟩ : ∃ Φ : World → Prop, Φ = fun W => GAt W w.heap.size L C ∧ Room W (w.heap.size + 1) ∧ Below w.heap.size w W := ⟨_, rfl⟩
  have F0 : Φ (World.drew ((w.alloc (.cells (gridC L C) 105)).alloc (.cells (gridC [] 0) 105))) := by rw [hΦ]; exact ⟨hG.drewN 1, hR.drewN 1, hb.drew⟩
  have SP : Hid (∀ W W', Φ W → Below W.heap.size W W' → Φ W') := Lib.hid fun W W' h hb => by
    rw [hΦ] at h ⊢
    exact ⟨h.1.below hb, h.2.1.below hb, h.2.2.trans (hb.mono h.2.2.size)⟩
  have C11 : Hid (∀ W, Φ W → W.cell? ⟨w.heap.size, 11, none⟩ = some (.int .i64 C)) := Lib.hid fun W h => by rw [hΦ] at h; exact h.1.c11
  have CR : Hid (∀ W, Φ W → Room W (w.heap.size + 1)) := Lib.hid fun W h => by rw [hΦ] at h; exact h.2.1
  have CB : Hid (∀ W, Φ W → Below w.heap.size w W) := Lib.hid fun W h => by rw [hΦ] at h; exact h.2.2
  have CS : Hid (∀ W, Φ W → Calls Tryd.prog 117 #[.pointer (some ⟨w.heap.size, 0, none⟩)] W fun e w' => e = .returned (.agg (rowsC (joined [] L))) ∧ Below W.heap.size W w') := Lib.hid fun W h => by
    have hB := CB.out W h
    rw [hΦ] at h
    exact spanned_r C L hC hL w.heap.size W h.1.toR (hT.below hB)
  clear hG hR hb hΦ
  simp only [rowsC] at CS
  go_enter Tryd.func77, Tryd.ntmps77
  go_wp2_with fail
  refine wp_region_S (n := 5) (S := Φ) (by kernel_rfl) (by kernel_rfl) F0 (fun G inv hS => ?_)
  clear F0
  refine wpAnyS_take (i := 0) (v := ?_) G inv hS (by decide) rfl (by kernel_rfl) (by kernel_rfl) (fun _ _ _ h => h) (Or.inl ⟨by kernel_rfl, fun W hW => ?_⟩) (fun inv => ?_)
  rotate_left
  · have z0 := C11.out _ hW
    go_simp
    try with_reducible rfl
  try simp only [Act.put, List.setIfInBounds_toArray, List.set_cons_zero, List.set_cons_succ]
  refine wpAnyS_take (i := 2) (v := ?_) G inv hS (by decide) rfl (by kernel_rfl) (by kernel_rfl) (fun _ _ _ h => h) (Or.inl ⟨by kernel_rfl, fun W hW => ?_⟩) (fun inv => ?_)
  rotate_left
  · have z0 := C11.out _ hW
    go_simp
    try with_reducible rfl
  try simp only [Act.put, List.setIfInBounds_toArray, List.set_cons_zero, List.set_cons_succ]
  refine wpAnyS_take (i := 3) (v := ?_) G inv hS (by decide) rfl (by kernel_rfl) (by kernel_rfl) (fun _ _ _ h => h) (Or.inl ⟨by kernel_rfl, fun W hW => ?_⟩) (fun inv => ?_)
  rotate_left
  · have z0 := C11.out _ hW
    go_simp
    try with_reducible rfl
  try simp only [Act.put, List.setIfInBounds_toArray, List.set_cons_zero, List.set_cons_succ]
  refine wpAnyS_step (i := 1) (by kernel_rfl) rfl ?_
  go_wp2_with (go_at_call 117; refine (CS.out _ hS).mono ?_; rintro e w3 ⟨rfl, hb3⟩)
  have F2 : Φ w3 := SP.out _ _ hS hb3
  clear hb3
  change (1 ≠ 5 → Φ w3) ∧ _
  refine ⟨fun _ => F2, ?_⟩
  have inv := HeadInv.setD (i := 1) inv (by kernel_rfl) (by decide)
  refine wpAnyS_take (i := 4) (v := ?_) G inv F2 (by decide) rfl (by kernel_rfl) (by kernel_rfl) (fun _ _ _ h => h) (Or.inl ⟨by kernel_rfl, fun W hW => ?_⟩) (fun inv => ?_)
  rotate_left
  · have z0 := C11.out _ hW
    go_simp
    try with_reducible rfl
  try simp only [Act.put, List.setIfInBounds_toArray, List.set_cons_zero, List.set_cons_succ]
  obtain ⟨⟨u0, u1, u2, u3, u4, u5, u6, u7, u8, u9, u10, u11, d0, d1, d2, d3, d4, d5, d6, d7, d8, d9, d10, d11⟩, f0, f1, f2, f3, f4, f5, f6, f7, f8, f9, f10, f11⟩ := (CR.out _ F2).facts
  have HFIN := Lib.hid (GAt.store12 (CR.out _ F2) (joined [] L) C (Nat.le_trans (HE.out.len HJ.out) hC) (lt32 (by omega) HJ.out))
  refine wpAnyS_step (i := 5) (by kernel_rfl) rfl ?_
  go_wp2
  refine ⟨fun h => absurd rfl h, ?_⟩
  refine wpAnyS_done (by kernel_rfl) ?_ _
  have HB := Lib.hid (CB.out _ F2)
  clear hS inv G
  go_wp2_with fail
  refine bodyPost_ret (v := .agg (gridC (joined [] L) C)) (grid_result (p := 2) (fn := Tryd.f77) rfl _ rfl HFIN.out) rfl ⟨rfl, ?_⟩
  exact (only12 w3 _ _ _ _ _ _ _ _ _ _ _ _ _).below HB.out (by omega)
end Go.Proofs.YtilghmfffdmnjaaDoor
