/- Lists of lists of numbers: what a law's own functions do with them. · Structures as values: some cells that lie at a block. -/
import Derived.Test.YtlchelaohiojiaaThird
import Derived.Test.YtlchelaohiojiaaMtRes
import Derived.Test.YtlchelaohiojiaaArg
import Derived.Test.YtlchelaohiojiaaRow
import Derived.Test.YtlchelaohiojiaaToField
import Derived.Test.YtlchelaohiojiaaRes
import Derived.Deep.MidRow
namespace Go.Proofs.Ytlchelaohiojiaa
open Go.RowKit Go.Joins Go.ChangeShapes
set_option linter.unusedVariables false

/-- The row j, and how many numbers the first k rows have. -/
def rw' (rows : List (List Int)) (j : Nat) : List Int := rows.getD j []
def tot (rows : List (List Int)) : Nat → Nat
  | 0 => 0
  | k + 1 => tot rows k + (rw' rows k).length
def total (rows : List (List Int)) : Nat := tot rows rows.length
theorem tot_le (rows : List (List Int)) {i : Nat} : ∀ {k}, i ≤ k → tot rows i ≤ tot rows k
  | 0, h => by rw [show i = 0 by omega]; exact Nat.le_refl _
  | k + 1, h => by
    by_cases e : i = k + 1
    · rw [e]; exact Nat.le_refl _
    · have := tot_le rows (show i ≤ k by omega); simp only [tot]; omega
theorem tot_row (rows : List (List Int)) {j k : Nat} (h : j < k) : (rw' rows j).length ≤ tot rows k := by
  have := tot_le rows (show j + 1 ≤ k by omega)
  simp only [tot] at this; omega

/-- An argument that is a list of lists. -/
structure ArgS (W : World) (A : Option Addr) (n : Nat) (rows : List (List Int)) : Prop where
  len : rows.length = n
  big : n ≤ 9223372036854775807
  cell : 0 < n → ∃ a : Addr, A = some a ∧ a.block < W.heap.size ∧ ∀ j : Nat, j < n → ∃ Aj nj cj, W.cell? (a.add j) = some (.slice Aj nj cj) ∧ Arg W Aj nj (rw' rows j)
theorem ArgS.below {W W' : World} {A : Option Addr} {n : Nat} {rows : List (List Int)} (h : ArgS W A n rows) (hb : Below W.heap.size W W') : ArgS W' A n rows :=
  ⟨h.len, h.big, fun hn => by
    obtain ⟨a, hA, hlt, hc⟩ := h.cell hn
    refine ⟨a, hA, Nat.lt_of_lt_of_le hlt hb.size, fun j hj => ?_⟩
    obtain ⟨Aj, nj, cj, h1, h2⟩ := hc j hj
    exact ⟨Aj, nj, cj, (hb.cell (p := a.add j) (by rw [addr_add_block]; exact hlt)).trans h1, h2.below hb⟩⟩
theorem ArgS.from {w0 W : World} {A : Option Addr} {n : Nat} {rows : List (List Int)} (h : ArgS w0 A n rows) (hb : Below w0.heap.size w0 W) : ArgS W A n rows := h.below hb

theorem args_open {H : Type} {enc : TypeId × Value → H} {W : World} {base : Nat} {spare : Nat → Bool} {held : Bool} {fuel : Nat} {v : Value} {y : DataW H × List MemPlace}
    (h : DataW.trod enc Try.prog W base spare held fuel 51 [v] = some y) : ∃ A n cap rows, v = .slice A n cap ∧ ArgS W A n rows := by
  have hc : Try.prog.cellsOf 39 = 1 := by kernel_rfl
  rcases DataW.trod_slice Try.underlying51 h with ⟨h0, _⟩ | ⟨a, len, cap, elems, rest, n, _, hcs, rfl, hb, hl, hm, hlen, hel, hsp, hns⟩
  · obtain rfl : v = .slice none 0 0 := by simpa using h0
    exact ⟨none, 0, 0, [], rfl, rfl, by omega, fun h => by omega⟩
  · obtain rfl : v = .slice (some a) len cap := by simpa using hcs
    have hm' : cap ≤ 9223372036854775807 := by unfold maxLen at hm; omega
    have each : ∀ i, i < len → ∃ Aj nj cj zs, W.cell? (a.add i) = some (.slice Aj nj cj) ∧ Arg W Aj nj zs := by
      intro i hi
      have h1 := hel i hi
      rw [hc, Nat.mul_one, List.getElem?_eq_getElem (by omega), Option.bind_eq_some_iff] at h1
      obtain ⟨c1, hc1, hy1⟩ := h1
      have : ∃ c, c1 = [c] ∧ W.cell? (a.add i) = some c := by
        have e0 : (a.add i).add 0 = a.add i := by simp [Addr.add]
        unfold World.cells? at hc1
        split at hc1
        · simp only [List.range_succ, List.range_zero, List.nil_append, List.mapM_cons, List.mapM_nil, e0] at hc1
          cases hcc : W.cell? (a.add i) with
          | none => simp [hcc] at hc1
          | some c => simp [hcc] at hc1; exact ⟨c, hc1.symm, rfl⟩
        · cases hc1
      obtain ⟨c, rfl, hcell⟩ := this
      obtain ⟨Aj, nj, cj, zs, rfl, hA⟩ := arg_open hy1
      exact ⟨Aj, nj, cj, zs, hcell, hA⟩
    let f : Nat → List Int := fun i => if hi : i < len then Classical.choose (Classical.choose_spec (Classical.choose_spec (Classical.choose_spec (each i hi)))) else []
    have hf : ∀ i (hi : i < len), ∃ Aj nj cj, W.cell? (a.add i) = some (.slice Aj nj cj) ∧ Arg W Aj nj (f i) := by
      intro i hi
      have e : f i = Classical.choose (Classical.choose_spec (Classical.choose_spec (Classical.choose_spec (each i hi)))) := dif_pos hi
      rw [e]
      exact ⟨_, _, _, Classical.choose_spec (Classical.choose_spec (Classical.choose_spec (Classical.choose_spec (each i hi))))⟩
    refine ⟨some a, len, cap, (List.range len).map f, rfl, by simp, by omega, fun hn => ?_⟩
    have hblk : a.block < W.heap.size := by
      obtain ⟨Aj, nj, cj, hcl, _⟩ := hf 0 hn
      have := block_of_cell hcl
      rwa [addr_add_block] at this
    refine ⟨a, rfl, hblk, fun j hj => ?_⟩
    have e : rw' ((List.range len).map f) j = f j := by simp [rw', hj]
    rw [e]
    exact hf j hj

set_option maxHeartbeats 800000 in
theorem szInt64S_ok (A : Option Addr) (n cap : Nat) (l : Int) (hl : l ≤ 1048576) (h : (n : Int) ≤ l) (w : World) :
    Calls Try.prog 149 #[.slice A n cap, .int .i64 l] w fun e w' => e = .returned (.int .i64 (l - n)) ∧ w = w' := by
  go_enter Try.func149, Try.ntmps149
  go_wp2
  go_ret
  exact ⟨rfl, rfl⟩
set_option maxHeartbeats 800000 in
theorem szInt64S_no (A : Option Addr) (n cap : Nat) (hn : n ≤ 9223372036854775807) (l : Int) (h0 : 0 ≤ l) (hl : l ≤ 1048576) (h : l < (n : Int)) (w : World) :
    Calls Try.prog 149 #[.slice A n cap, .int .i64 l] w fun e w' => e = .returned (.int .i64 (-1)) ∧ w = w' := by
  go_enter Try.func149, Try.ntmps149
  go_wp2
  go_ret
  exact ⟨rfl, rfl⟩
set_option maxRecDepth 100000 in
set_option maxHeartbeats 1600000 in
theorem szInt64SS_any (A : Option Addr) (n cap : Nat) (rows : List (List Int)) (l : Int) (hl0 : 0 ≤ l) (hl1 : l ≤ 1048576) (w : World) (hA : ArgS w A n rows) :
    Calls Try.prog 98 #[.slice A n cap, .int .i64 l] w fun e w' => ((((n + total rows : Nat) : Int) ≤ l ∧ e = .returned (.int .i64 (l - ((n + total rows : Nat) : Int)))) ∨ (l < ((n + total rows : Nat) : Int) ∧ e = .returned (.int .i64 (-1)))) ∧ Below w.heap.size w w' := by
  have hbig := hA.big
  have hlen := hA.len
  by_cases h0 : l < (n : Int)
  · go_enter Try.func98, Try.ntmps98
    go_wp2
    go_ret
    exact ⟨.inr ⟨by omega, rfl⟩, Below.refl _ _⟩
  · have HA := Lib.hid hA
    obtain ⟨N, hN⟩ : ∃ N, total rows = N := ⟨_, rfl⟩
    have HN := Lib.hid (show tot rows n = N by rw [← hN, ← hlen]; rfl)
    have HLE := Lib.hid hlen
    rw [hN]
    clear hN hA hlen
    go_enter Try.func98, Try.ntmps98
    go_wp2_with fail
    go_loopw [1, 5] (fun l' i wr => ∃ (k : Nat) (x : Int), k ≤ n ∧ i = .int .i64 k ∧ l' = .int .i64 x ∧ 0 ≤ x ∧ x ≤ 1048576 ∧ Hid (x = l - n - tot rows k) ∧ Below w.heap.size w wr) (fun _ i _ => n - (intOf i).toNat)
    case atStart => exact ⟨0, _, Nat.zero_le _, rfl, rfl, by omega, by omega, Lib.hid (by simp [tot]), Below.refl _ _⟩
    case round =>
      obtain ⟨k, x, hk, rfl, rfl, hx0, hx1, HX, hb⟩ := hrel
      by_cases hlt : k < n
      · obtain ⟨a, rfl, hbl, hc⟩ := (HA.out.from hb).cell (by omega)
        obtain ⟨Aj, nj, cj, hcj, hAj⟩ := hc k hlt
        have hnj := hAj.big
        have HLJ := Lib.hid hAj.len
        have HB := Lib.hid hb
        clear hc hb hAj
        by_cases hle : (nj : Int) ≤ x
        · go_wp2_with (go_at_call 149; refine (szInt64S_ok Aj nj cj x hx1 hle _).mono ?_; rintro e w' ⟨rfl, rfl⟩)
          go_roundw
          case rel => exact ⟨k + 1, _, by omega, by go_num, rfl, by omega, by omega, Lib.hid (by rw [HX.out]; simp only [tot]; have := HLJ.out; omega), HB.out⟩
          case measure => simp [intOf]; omega
        · go_wp2_with (go_at_call 149; refine (szInt64S_no Aj nj cj hnj x hx0 hx1 (by omega) _).mono ?_; rintro e w' ⟨rfl, rfl⟩)
          go_ret
          refine ⟨.inr ⟨?_, rfl⟩, HB.out⟩
          have h1 := tot_le rows (show k + 1 ≤ n by omega)
          have h2 := HN.out
          have h3 := HX.out
          have h4 := HLJ.out
          simp only [tot] at h1
          omega
      · obtain rfl : k = n := by omega
        have HB := Lib.hid hb
        clear hb
        go_wp2
        go_ret
        have h2 := HN.out
        have h3 := HX.out
        rw [h2] at h3
        have h4 : x = l - ((k + N : Nat) : Int) := by omega
        exact ⟨.inl ⟨by omega, ret_int (by omega)⟩, HB.out⟩

theorem Res.of_nil {W : World} {B T : Nat} {v : Value} (h : Res W B T v []) : ∃ A cap, v = .slice A 0 cap := by
  generalize hx : ([] : List Int) = xs at h
  cases h with
  | nil A cap => exact ⟨_, _, rfl⟩
  | row g n cap xs h1 h2 h3 h4 h5 h6 h7 => subst hx; obtain rfl : n = 0 := by simpa using h4.symm
                                           exact ⟨_, _, rfl⟩
theorem Res.chg1 {W W' : World} {b B' T' : Nat} {v : Value} {xs : List Int} (h : Res W b (b + 1) v xs) (hb : Chg B' T' W W') (hd : xs ≠ [] → b + 1 ≤ B' ∨ T' ≤ b) : Res W' b (b + 1) v xs := by
  by_cases e : xs = []
  · subst e
    obtain ⟨A, cap, rfl⟩ := h.of_nil
    exact .nil A cap
  · exact h.chg hb (hd e)
/-- A list of lists that calls have made: its head and its rows in blocks of their own from B to below T. -/
structure RS (W : World) (B T : Nat) (v : Value) (rows : List (List Int)) : Prop where
  hT : T ≤ W.heap.size
  small : rows.length + total rows ≤ 1048576
  form : ∃ A cap, v = .slice A rows.length cap ∧ (0 < rows.length → ∃ g, A = some ⟨g, 0, none⟩ ∧ B ≤ g ∧ g < T ∧ ∃ (vs : Nat → Value) (b : Nat → Nat),
    (∀ j, j < rows.length → W.cell? ⟨g, j, none⟩ = some (vs j) ∧ Res W (b j) (b j + 1) (vs j) (rw' rows j) ∧ (rw' rows j ≠ [] → B ≤ b j ∧ b j < T ∧ b j ≠ g)) ∧
    ∀ i j, i < j → j < rows.length → rw' rows i ≠ [] → rw' rows j ≠ [] → b i ≠ b j)
theorem RS.is {W : World} {B T : Nat} {v : Value} {rows : List (List Int)} (h : RS W B T v rows) : ∃ A cap, v = .slice A rows.length cap := by
  obtain ⟨A, cap, e, _⟩ := h.form; exact ⟨A, cap, e⟩
theorem RS.chg {W W' : World} {B T B' T' : Nat} {v : Value} {rows : List (List Int)} (h : RS W B T v rows) (hb : Chg B' T' W W') (hd : T ≤ B' ∨ T' ≤ B) : RS W' B T v rows := by
  obtain ⟨hT, hs, A, cap, hv, hf⟩ := h
  refine ⟨Nat.le_trans hT hb.size, hs, A, cap, hv, fun h0 => ?_⟩
  obtain ⟨g, hA, h1, h2, vs, b, h3, h4⟩ := hf h0
  refine ⟨g, hA, h1, h2, vs, b, fun j hj => ?_, h4⟩
  obtain ⟨a1, a2, a3⟩ := h3 j hj
  exact ⟨(World.cell?_of_block (w := W) (a := ⟨g, j, none⟩) (hb.block g (by omega) (by omega))).trans a1, a2.chg1 hb (fun hne => by obtain ⟨q1, q2, q3⟩ := a3 hne; clear hf; omega), a3⟩
theorem RS.next {W W' : World} {B T : Nat} {v : Value} {rows : List (List Int)} (h : RS W B T v rows) (hb : Below W.heap.size W W') : RS W' B T v rows := by
  obtain ⟨hT, hs, A, cap, hv, hf⟩ := h
  refine ⟨Nat.le_trans hT hb.size, hs, A, cap, hv, fun h0 => ?_⟩
  obtain ⟨g, hA, h1, h2, vs, b, h3, h4⟩ := hf h0
  refine ⟨g, hA, h1, h2, vs, b, fun j hj => ?_, h4⟩
  obtain ⟨a1, a2, a3⟩ := h3 j hj
  exact ⟨(hb.cell (p := ⟨g, j, none⟩) (by show g < _; omega)).trans a1, a2.next hb, a3⟩
theorem RS.wide {W : World} {B B' T : Nat} {v : Value} {rows : List (List Int)} (h : RS W B T v rows) (hB : B' ≤ B) : RS W B' T v rows := by
  obtain ⟨hT, hs, A, cap, hv, hf⟩ := h
  refine ⟨hT, hs, A, cap, hv, fun h0 => ?_⟩
  obtain ⟨g, hA, h1, h2, vs, b, h3, h4⟩ := hf h0
  refine ⟨g, hA, by omega, h2, vs, b, fun j hj => ?_, h4⟩
  obtain ⟨a1, a2, a3⟩ := h3 j hj
  exact ⟨a1, a2, fun hne => by obtain ⟨q1, q2, q3⟩ := a3 hne; clear hf; exact ⟨by omega, by omega, q3⟩⟩
theorem RS.wideT {W : World} {B T T' : Nat} {v : Value} {rows : List (List Int)} (h : RS W B T v rows) (h1 : T ≤ T') (h2 : T' ≤ W.heap.size) : RS W B T' v rows := by
  obtain ⟨hT, hs, A, cap, hv, hf⟩ := h
  refine ⟨h2, hs, A, cap, hv, fun h0 => ?_⟩
  obtain ⟨g, hA, h1', h2', vs, b, h3, h4⟩ := hf h0
  refine ⟨g, hA, h1', by omega, vs, b, fun j hj => ?_, h4⟩
  obtain ⟨a1, a2, a3⟩ := h3 j hj
  exact ⟨a1, a2, fun hne => by obtain ⟨q1, q2, q3⟩ := a3 hne; clear hf; exact ⟨by omega, by omega, q3⟩⟩
theorem RS.nil (W : World) (B T : Nat) (hT : T ≤ W.heap.size) (A : Option Addr) (cap : Nat) : RS W B T (.slice A 0 cap) [] := ⟨hT, by simp [total, tot], A, cap, rfl, fun h => by simp at h⟩
/-- A list of lists that can be read. -/
structure RR (W : World) (v : Value) (rows : List (List Int)) : Prop where
  small : rows.length + total rows ≤ 1048576
  form : ∃ A cap, v = .slice A rows.length cap ∧ (0 < rows.length → ∃ g, A = some ⟨g, 0, none⟩ ∧ g < W.heap.size ∧ ∀ j, j < rows.length → ∃ vj Bj Tj, W.cell? ⟨g, j, none⟩ = some vj ∧ Res W Bj Tj vj (rw' rows j))
theorem RR.is {W : World} {v : Value} {rows : List (List Int)} (h : RR W v rows) : ∃ A cap, v = .slice A rows.length cap := by
  obtain ⟨A, cap, e, _⟩ := h.form; exact ⟨A, cap, e⟩
theorem RR.next {W W' : World} {v : Value} {rows : List (List Int)} (h : RR W v rows) (hb : Below W.heap.size W W') : RR W' v rows := by
  obtain ⟨hs, A, cap, hv, hf⟩ := h
  refine ⟨hs, A, cap, hv, fun h0 => ?_⟩
  obtain ⟨g, hA, h1, h2⟩ := hf h0
  refine ⟨g, hA, Nat.lt_of_lt_of_le h1 hb.size, fun j hj => ?_⟩
  obtain ⟨vj, Bj, Tj, a1, a2⟩ := h2 j hj
  exact ⟨vj, Bj, Tj, (hb.cell (p := ⟨g, j, none⟩) h1).trans a1, a2.next hb⟩
theorem RS.rr {W : World} {B T : Nat} {v : Value} {rows : List (List Int)} (h : RS W B T v rows) : RR W v rows := by
  obtain ⟨hT, hs, A, cap, hv, hf⟩ := h
  refine ⟨hs, A, cap, hv, fun h0 => ?_⟩
  obtain ⟨g, hA, h1, h2, vs, b, h3, h4⟩ := hf h0
  refine ⟨g, hA, by omega, fun j hj => ?_⟩
  obtain ⟨a1, a2, a3⟩ := h3 j hj
  exact ⟨_, _, _, a1, a2⟩
/-- The row k of a list of lists that can be read. -/
theorem RR.row {W : World} {A : Option Addr} {n cap : Nat} {rows : List (List Int)} (h : RR W (.slice A n cap) rows) {k : Nat} (hk : k < n) :
    rows.length = n ∧ ∃ g, A = some ⟨g, 0, none⟩ ∧ g < W.heap.size ∧ ∃ Ak nk ck Bk Tk, W.cell? ⟨g, k, none⟩ = some (.slice Ak nk ck) ∧ Res W Bk Tk (.slice Ak nk ck) (rw' rows k) := by
  obtain ⟨hs, A', cap', hv, hf⟩ := h
  injection hv with e1 e2 e3
  subst e1 e2 e3
  obtain ⟨g, hA, h1, h2⟩ := hf (by omega)
  obtain ⟨vj, Bj, Tj, a1, a2⟩ := h2 k hk
  obtain ⟨Ak, nk, ck, rfl⟩ := a2.form
  exact ⟨rfl, g, hA, h1, Ak, nk, ck, Bj, Tj, a1, a2⟩
theorem RR.len {W : World} {A : Option Addr} {n cap : Nat} {rows : List (List Int)} (h : RR W (.slice A n cap) rows) : rows.length = n := by
  obtain ⟨A', cap', hv⟩ := h.is
  injection hv with e1 e2 e3
  exact e2.symm
theorem Res.len {W : World} {B T : Nat} {A : Option Addr} {n cap : Nat} {xs : List Int} (h : Res W B T (.slice A n cap) xs) : xs.length = n := by
  generalize hv : Value.slice A n cap = v at h
  cases h with
  | nil A' cap' => injection hv with e1 e2 e3; subst e2; rfl
  | row g n' cap' xs h1 h2 h3 h4 h5 h6 h7 => injection hv with e1 e2 e3; omega
theorem rw_eq (rows : List (List Int)) (k : Nat) : rw' rows k = rows.getD k [] := rfl

theorem Try.infoSl : (Try.prog.info? 39).map (fun i => (i.zero, i.size, i.bytes)) = some (some (.slice none 0 0), 1, 24) := by kernel_rfl
end Go.Proofs.Ytlchelaohiojiaa
namespace Go.Proofs.Ytlchelaohiojiaa
open Go.RowKit Go.Joins
set_option linter.unusedVariables false

/-- Some values that lie at the block q. -/
structure LB (W : World) (q : Nat) (vs : List Value) : Prop where
  cell : ∀ j v, vs[j]? = some v → W.cell? ⟨q, j, none⟩ = some v
  lt : q < W.heap.size
theorem LB.next {W W' : World} {q : Nat} {vs : List Value} (h : LB W q vs) (hb : Below W.heap.size W W') : LB W' q vs :=
  ⟨fun j v hv => (hb.cell (p := ⟨q, j, none⟩) h.lt).trans (h.cell j v hv), Nat.lt_of_lt_of_le h.lt hb.size⟩
theorem LB.chg {W W' : World} {q B T : Nat} {vs : List Value} (h : LB W q vs) (hb : Chg B T W W') (hq : q < B ∨ T ≤ q) : LB W' q vs := by
  have hg : W'.heap[q]? = W.heap[q]? := hb.block q h.lt hq
  exact ⟨fun j v hv => (World.cell?_of_block (w := W) (a := ⟨q, j, none⟩) hg).trans (h.cell j v hv), Nat.lt_of_lt_of_le h.lt hb.size⟩
theorem LB.one (w : World) (vs : List Value) (T : TypeId) : LB (w.alloc (.cells vs.toArray T)) w.heap.size vs :=
  ⟨fun j v hv => by rw [World.cell?_alloc_at _ _ _ _ rfl]; simpa using hv, by simp⟩
theorem LB.other {W : World} {q b : Nat} {vs : List Value} (h : LB W q vs) (hb : q ≠ b) (i : Nat) (v : Value) : LB (W.setCell ⟨b, i, none⟩ v) q vs :=
  ⟨fun j u hu => by rw [World.cell?_setCell_other _ ⟨b, i, none⟩ ⟨q, j, none⟩ _ (fun e => hb (by injection e with e _ _; omega))]; exact h.cell j u hu, by rw [size_setCell_]; exact h.lt⟩
/-- Some values that lie at the block q and may be overwritten. -/
structure LF (W : World) (q : Nat) (vs : List Value) : Prop where
  b : LB W q vs
  free : ∀ j, j < vs.length → W.frozen? ⟨q, j, none⟩ = false
theorem LF.next {W W' : World} {q : Nat} {vs : List Value} (h : LF W q vs) (hb : Below W.heap.size W W') : LF W' q vs :=
  ⟨h.b.next hb, fun j hj => (hb.frozen (p := ⟨q, j, none⟩) h.b.lt).trans (h.free j hj)⟩
theorem LF.set {W : World} {q : Nat} {vs : List Value} (h : LF W q vs) (i : Nat) (hi : i < vs.length) (v : Value) : LF (W.setCell ⟨q, i, none⟩ v) q (vs.set i v) := by
  refine ⟨⟨fun j u hu => ?_, by rw [size_setCell_]; exact h.b.lt⟩, fun j hj => by rw [World.frozen?_setCell]; exact h.free j (by simpa using hj)⟩
  by_cases e : j = i
  · subst e
    rw [List.getElem?_set_self hi] at hu
    injection hu with hu
    subst hu
    exact World.cell?_setCell_same' _ _ _ (by rw [h.b.cell j _ (List.getElem?_eq_getElem hi)]; rfl)
  · rw [List.getElem?_set_ne (fun h => e h.symm)] at hu
    rw [World.cell?_setCell_other _ ⟨q, i, none⟩ ⟨q, j, none⟩ _ (fun h => e (by injection h with _ h _; omega))]
    exact h.b.cell j u hu
theorem LF.other {W : World} {q b : Nat} {vs : List Value} (h : LF W q vs) (hb : q ≠ b) (i : Nat) (v : Value) : LF (W.setCell ⟨b, i, none⟩ v) q vs :=
  ⟨h.b.other hb i v, fun j hj => by rw [World.frozen?_setCell]; exact h.free j hj⟩
theorem LF.start (w : World) (vs : List Value) (T : TypeId) : LF (w.alloc (.cells vs.toArray T)) w.heap.size vs :=
  ⟨LB.one w vs T, fun j hj => by rw [World.frozen?_alloc_at _ _ _ _ rfl]⟩
/-- The copy of a structure among the arguments, in the call's first block. -/
structure G1 (w0 : World) (vs : List Value) (W : World) : Prop where
  b : Below w0.heap.size w0 W
  x : LB W w0.heap.size vs
theorem G1.start (w : World) (vs : List Value) (T : TypeId) : G1 w vs (w.alloc (.cells vs.toArray T)) := ⟨below_alloc1 w _, LB.one w vs T⟩
theorem G1.z {w0 W : World} {vs : List Value} (h : G1 w0 vs W) : w0.heap.size + 1 ≤ W.heap.size := h.x.lt
theorem G1.next {w0 W W' : World} {vs : List Value} (h : G1 w0 vs W) (hb : Below W.heap.size W W') : G1 w0 vs W' := ⟨h.b.trans (hb.mono (by have := h.z; omega)), h.x.next hb⟩
theorem G1.drew {w0 W : World} {vs : List Value} (h : G1 w0 vs W) : G1 w0 vs W.drew := ⟨h.b.drew, h.x.next (Below.refl _ W).drew⟩
theorem G1.chg {w0 W W' : World} {vs : List Value} {B T : Nat} (h : G1 w0 vs W) (hb : Chg B T W W') (hq : w0.heap.size < B) : G1 w0 vs W' :=
  ⟨Chg.below h.b (by have := h.z; omega) hb (by omega), h.x.chg hb (.inl hq)⟩
/-- The copies of two structures among the arguments, in the call's first two blocks. -/
structure G2 (w0 : World) (vs us : List Value) (W : World) : Prop where
  b : Below w0.heap.size w0 W
  x : LB W w0.heap.size vs
  y : LB W (w0.heap.size + 1) us
theorem G2.start (w : World) (vs us : List Value) (T U : TypeId) : G2 w vs us ((w.alloc (.cells vs.toArray T)).alloc (.cells us.toArray U)) := by
  refine ⟨below_alloc2 w _ _, (LB.one w vs T).next (below_alloc1 _ _), ?_⟩
  have := LB.one (w.alloc (.cells vs.toArray T)) us U
  rwa [World.size_alloc] at this
theorem G2.z {w0 W : World} {vs us : List Value} (h : G2 w0 vs us W) : w0.heap.size + 1 + 1 ≤ W.heap.size := h.y.lt
theorem G2.next {w0 W W' : World} {vs us : List Value} (h : G2 w0 vs us W) (hb : Below W.heap.size W W') : G2 w0 vs us W' := ⟨h.b.trans (hb.mono (by have := h.z; omega)), h.x.next hb, h.y.next hb⟩
theorem G2.drew {w0 W : World} {vs us : List Value} (h : G2 w0 vs us W) : G2 w0 vs us W.drew := ⟨h.b.drew, h.x.next (Below.refl _ W).drew, h.y.next (Below.refl _ W).drew⟩
theorem G2.chg {w0 W W' : World} {vs us : List Value} {B T : Nat} (h : G2 w0 vs us W) (hb : Chg B T W W') (hq : w0.heap.size + 1 < B) : G2 w0 vs us W' :=
  ⟨Chg.below h.b (by have := h.z; omega) hb (by omega), h.x.chg hb (.inl (by omega)), h.y.chg hb (.inl hq)⟩
/-- A structure's value, loaded and returned. -/
theorem lb_load {W : World} {q : Nat} {vs : List Value} (h : LB W q vs) (T : TypeId) {d : TypeDesc} (hU : Try.prog.underlying T = some d) (hd : d.isRow = true) (hI : (Try.prog.info? T).map (·.size) = some vs.length) :
    (loadVar T ⟨q, 0, none⟩).run Try.prog W = .ok (.agg vs.toArray) W :=
  run_loadVar_mid (P := Try.prog) W q 0 T vs _ (fun j v hv => by rw [Nat.zero_add]; exact h.cell j v hv) hU hd hI
theorem lb_result {fn : Func} {p : Tmp} {T : TypeId} (h : fn.results = #[.cell p T]) (tmps : Array Value) {W : World} {q : Nat} {vs : List Value}
    (hp : tmps.getD p undef = .pointer (some ⟨q, 0, none⟩)) (hG : LB W q vs) {d : TypeDesc} (hU : Try.prog.underlying T = some d) (hd : d.isRow = true) (hI : (Try.prog.info? T).map (·.size) = some vs.length) : (results fn tmps).run Try.prog W = .ok (.agg vs.toArray) W := by
  have hp' : tmps[p]?.getD undef = .pointer (some ⟨q, 0, none⟩) := by simpa using hp
  simp [results, h, hp', asAddr, lb_load hG T hU hd hI]
end Go.Proofs.Ytlchelaohiojiaa
