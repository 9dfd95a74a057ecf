/- A list of rows out of a list of numbers: the program's rowsFor. -/
import Derived.Test.YtibennpdffgomaaDoorRowsV
import Derived.Test.YtibennpdffgomaaDoorValid
import Derived.Test.YtibennpdffgomaaDoorDivPure
namespace Go.Proofs.YtibennpdffgomaaDoor
open Go.RowKit Go.Joins
set_option linter.unusedVariables false

theorem rows_results {fn : Func} {p u : Tmp} (h : fn.results = #[.cell p 101, .tmp u]) (tmps : Array Value) {W : World} {q : Nat} {L : List Nat}
    (hp : tmps.getD p undef = .pointer (some ⟨q, 0, none⟩)) (hG : RAt W q L) : (results fn tmps).run Tryd.prog W = .ok (.tuple #[.agg (rowsC L), tmps.getD u undef]) W := by
  rw [results_cell_tmp h, hp]
  simp [asAddr, hG.load, Result.andThen]
theorem nats_take_succ {xs : List Int} {k x : Nat} (h : k < xs.length) (hx : xs[k]?.getD 0 = x) : nats (xs.take (k + 1)) = nats (xs.take k) ++ [x] := by
  have e : xs[k]? = some (xs[k]) := List.getElem?_eq_getElem h
  rw [e] at hx
  simp only [Option.getD_some] at hx
  rw [List.take_succ_eq_append_getElem h, nats, List.map_append, hx]
  simp [nats]

set_option maxRecDepth 100000 in
set_option maxHeartbeats 6400000 in
theorem rowsFor_row (C most : Nat) (hC : C ≤ 20) (hm : most ≤ 10) (A : Option Addr) (n cap : Nat) (xs : List Int) (hlen : xs.length = n) (hn : n ≤ most) (w : World) (hcell : 0 < n → ∃ g, A = some ⟨g, 0, none⟩ ∧ g < w.heap.size ∧ ∀ j, j < n → w.cell? ⟨g, j, none⟩ = some (.int .i64 (xs[j]?.getD 0))) :
    Calls Tryd.prog 64 #[.int .i64 C, .int .i64 most, .slice A n cap] w fun e w' => ∃ L, e = .returned (.tuple #[.agg (rowsC L), .bool (allIn (2 ^ C) xs)]) ∧ Below w.heap.size w w' ∧ (allIn (2 ^ C) xs = true → L = nats xs) ∧ L.length ≤ 10 ∧ ∀ j, nth L j < 4294967296 := by
  have hp : 2 ^ C ≤ 1048576 := Nat.pow_le_pow_right (n := 2) (by omega) hC
  have hpc : ((2 ^ C : Nat) : Int) = 2 ^ C := by simp
  have hb := below_alloc2 w (.cells #[.int .i64 0, .int .u32 0, .int .u32 0, .int .u32 0, .int .u32 0, .int .u32 0, .int .u32 0, .int .u32 0, .int .u32 0, .int .u32 0, .int .u32 0] 101) (.cells #[.int .i64 0, .int .u32 0, .int .u32 0, .int .u32 0, .int .u32 0, .int .u32 0, .int .u32 0, .int .u32 0, .int .u32 0, .int .u32 0, .int .u32 0] 101)
  have hR := (RAt.start w 101).room.below (below_alloc1 _ (.cells #[.int .i64 0, .int .u32 0, .int .u32 0, .int .u32 0, .int .u32 0, .int .u32 0, .int .u32 0, .int .u32 0, .int .u32 0, .int .u32 0, .int .u32 0] 101))
  have hS := RAt.start (w.alloc (.cells #[.int .i64 0, .int .u32 0, .int .u32 0, .int .u32 0, .int .u32 0, .int .u32 0, .int .u32 0, .int .u32 0, .int .u32 0, .int .u32 0, .int .u32 0] 101)) 101
  rw [World.size_alloc] at hS
  have h1 : ¬ ((n : Int) > (most : Int)) := by omega
  have HCELL := Lib.hid hcell
  obtain ⟨bl, hbl⟩ : ∃ b, allIn (2 ^ C) xs = b := ⟨_, rfl⟩
  rw [hbl]
  have HBL := Lib.hid hbl
  clear hbl
  have HS := Lib.hid hS; have HR := Lib.hid hR; have HB := Lib.hid hb
  clear hS hR hb hcell
  go_enter Tryd.func64, Tryd.ntmps64
  go_wp2_with fail
  go_loopw [18] (fun i wr => ∃ k : Nat, k ≤ n ∧ i = .int .i64 k ∧ RAt wr (w.heap.size + 1) (nats (xs.take k)) ∧ RRoom wr w.heap.size ∧ Below w.heap.size w wr ∧ Hid (∀ j, j < k → 0 ≤ xs[j]?.getD 0 ∧ xs[j]?.getD 0 < ((2 ^ C : Nat) : Int))) (fun i _ => n - (intOf i).toNat)
  case atStart => exact ⟨0, Nat.zero_le _, rfl, HS.out, HR.out, HB.out, Lib.hid fun j h => by omega⟩
  case round =>
    obtain ⟨k, hk, rfl, hS, hR, hB, HA⟩ := hrel
    clear HS HR HB
    by_cases hlt : k < n
    · obtain ⟨g, rfl, hg, hcl⟩ := HCELL.out (by omega)
      have hc := (hB.cell (p := ⟨g, k, none⟩) hg).trans (hcl k hlt)
      clear hcl
      by_cases hz : 0 ≤ xs[k]?.getD 0 ∧ xs[k]?.getD 0 < 2 ^ C
      · obtain ⟨x, hx⟩ : ∃ x : Nat, xs[k]?.getD 0 = x := ⟨(xs[k]?.getD 0).toNat, by omega⟩
        have hts := nats_take_succ (k := k) (by omega) hx
        have HA2 : Hid (∀ j, j < k + 1 → 0 ≤ xs[j]?.getD 0 ∧ xs[j]?.getD 0 < ((2 ^ C : Nat) : Int)) := Lib.hid fun j hj => by
          rcases Nat.lt_succ_iff_lt_or_eq.1 hj with h | h
          · exact HA.out j h
          · subst h; exact ⟨hz.1, by rw [hpc]; exact hz.2⟩
        rw [hx] at hc hz
        have HT := Lib.hid hts
        have HD := Lib.hid (decide_eq_true hz)
        have hx20 : x < 1048576 := by omega
        have hlk : (nats (xs.take k)).length = k := by rw [nats_length, List.length_take]; omega
        have HLK := Lib.hid hlk
        have e1 : IntKind.u32.wrap (x : Int) = x := by rw [IntKind.wrap_u32g]; omega
        have HR := Lib.hid hR; have HB := Lib.hid hB
        clear hts hz hx hlk HA hR hB
        go_wp2_with (first | (go_at_call 97; refine (isRow_any C (by omega) _ _).mono ?_; rw [HD.out]; rintro e w1 ⟨rfl, rfl⟩) | (go_at_call 93; refine (push_r (w.heap.size + 1) (nats (xs.take k)) x (by omega) _ hS (by rw [HLK.out]; omega)).mono ?_; rintro e w2 ⟨rfl, hG2, hO2⟩))
        go_roundw
        case rel => exact ⟨k + 1, by omega, by go_num, by rw [HT.out]; exact hG2, HR.out.only hO2 (by omega), hO2.below HB.out (by omega), HA2⟩
        case measure => simp [intOf]; omega
      · have ha : allIn (2 ^ C) xs = false := allIn_no k (by omega) (by rw [hpc]; omega)
        obtain rfl : bl = false := HBL.out.symm.trans ha
        clear ha
        generalize xs[k]?.getD 0 = z at hc hz
        have HD := Lib.hid (decide_eq_false hz)
        clear hz
        obtain ⟨g0, g1, g2, g3, g4, g5, g6, g7, g8, g9, g10⟩ := hS.facts
        obtain ⟨⟨u0, u1, u2, u3, u4, u5, u6, u7, u8, u9, u10, d0, d1, d2, d3, d4, d5, d6, d7, d8, d9, d10⟩, f0, f1, f2, f3, f4, f5, f6, f7, f8, f9, f10⟩ := hR.facts
        have HFIN := Lib.hid (RAt.store11 hR (nats (xs.take k)) hS.len hS.r32)
        have HL := Lib.hid (And.intro hS.len hS.r32)
        have HBO := Lib.hid hB
        clear hS hR
        go_wp2_with (go_at_call 97; refine (isRow_any C (by omega) _ _).mono ?_; rw [HD.out]; rintro e w1 ⟨rfl, rfl⟩)
        refine bodyPost_ret (v := .tuple #[.agg (rowsC (nats (xs.take k))), .bool false]) (rows_results (p := 6) (u := 7) (fn := Tryd.f64) rfl _ rfl HFIN.out) rfl ⟨_, rfl, ?_, (by first | trivial | exact fun h => absurd h (by decide)), HL.out.1, HL.out.2⟩
        exact (only11 wr _ _ _ _ _ _ _ _ _ _ _ _).below HBO.out (Nat.le_refl _)
    · obtain rfl : k = n := by omega
      have ha : allIn (2 ^ C) xs = true := allIn_yes fun j hj => HA.out j (by omega)
      obtain rfl : bl = true := HBL.out.symm.trans ha
      rw [List.take_of_length_le (by omega)] at hS
      clear ha
      obtain ⟨g0, g1, g2, g3, g4, g5, g6, g7, g8, g9, g10⟩ := hS.facts
      obtain ⟨⟨u0, u1, u2, u3, u4, u5, u6, u7, u8, u9, u10, d0, d1, d2, d3, d4, d5, d6, d7, d8, d9, d10⟩, f0, f1, f2, f3, f4, f5, f6, f7, f8, f9, f10⟩ := hR.facts
      have HFIN := Lib.hid (RAt.store11 hR (nats xs) hS.len hS.r32)
      have HL := Lib.hid (And.intro hS.len hS.r32)
      have HBO := Lib.hid hB
      clear hS hR
      go_wp2_with fail
      refine bodyPost_ret (v := .tuple #[.agg (rowsC (nats xs)), .bool true]) (rows_results (p := 6) (u := 7) (fn := Tryd.f64) rfl _ rfl HFIN.out) rfl ⟨_, rfl, ?_, (by first | rfl | exact fun _ => rfl), HL.out.1, HL.out.2⟩
      exact (only11 wr _ _ _ _ _ _ _ _ _ _ _ _).below HBO.out (Nat.le_refl _)

set_option maxRecDepth 100000 in
set_option maxHeartbeats 3200000 in
theorem rowsFor_long (C most : Nat) (hm : most ≤ 10) (A : Option Addr) (n cap : Nat) (hn : n ≤ 1048576) (h : most < n) (w : World) :
    Calls Tryd.prog 64 #[.int .i64 C, .int .i64 most, .slice A n cap] w fun e w' => e = .returned (.tuple #[.agg (rowsC []), .bool false]) ∧ Below w.heap.size w w' := by
  have hb := below_alloc2 w (.cells #[.int .i64 0, .int .u32 0, .int .u32 0, .int .u32 0, .int .u32 0, .int .u32 0, .int .u32 0, .int .u32 0, .int .u32 0, .int .u32 0, .int .u32 0] 101) (.cells #[.int .i64 0, .int .u32 0, .int .u32 0, .int .u32 0, .int .u32 0, .int .u32 0, .int .u32 0, .int .u32 0, .int .u32 0, .int .u32 0, .int .u32 0] 101)
  have h1 : ((n : Int) > (most : Int)) := by omega
  go_enter Tryd.func64, Tryd.ntmps64
  go_wp2
  exact bodyPost_ret (v := .tuple #[.agg (rowsC []), .bool false]) (by simp [results, Tryd.results64, go_sem, rowsC, nth]) rfl ⟨rfl, hb⟩

/-- What rowsFor gives, of any list. -/
theorem rowsFor_any (C most : Nat) (hC : C ≤ 20) (hm : most ≤ 10) (A : Option Addr) (n cap : Nat) (xs : List Int) (w : World) {B T : Nat} (hM : Res w B T (.slice A n cap) xs) :
    Calls Tryd.prog 64 #[.int .i64 C, .int .i64 most, .slice A n cap] w fun e w' => ∃ L, e = .returned (.tuple #[.agg (rowsC L), .bool (decide (n ≤ most) && allIn (2 ^ C) xs)]) ∧ Below w.heap.size w w' ∧ (n ≤ most → allIn (2 ^ C) xs = true → L = nats xs) ∧ L.length ≤ 10 ∧ ∀ j, nth L j < 4294967296 := by
  by_cases hn : n ≤ most
  · rw [decide_eq_true hn, Bool.true_and]
    have hlen : xs.length = n := by cases hM <;> first | rfl | assumption
    refine (rowsFor_row C most hC hm A n cap xs hlen hn w ?_).mono ?_
    · cases hM with
      | nil A cap => exact fun h => absurd h (Nat.lt_irrefl 0)
      | row g n cap xs h1 h2 h3 h4 h5 h6 h7 => exact fun _ => ⟨g, rfl, by omega, h6⟩
    · rintro e w' ⟨L, rfl, hb, h8, h9⟩
      exact ⟨L, rfl, hb, fun _ => h8, h9⟩
  · rw [decide_eq_false hn, Bool.false_and]
    refine (rowsFor_long C most hm A n cap (by have := hM.small; have hl : xs.length = n := (by cases hM <;> first | rfl | assumption); omega) (by omega) w).mono ?_
    rintro e w' ⟨rfl, hb⟩
    exact ⟨[], rfl, hb, fun h => absurd h hn, by simp, fun j => by simp [nth]⟩
end Go.Proofs.YtibennpdffgomaaDoor
