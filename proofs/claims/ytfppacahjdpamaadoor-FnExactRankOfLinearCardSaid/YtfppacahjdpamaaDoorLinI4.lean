/- The program's lists of coefficients: without zeros at the end, as numbers, values. · The program's lists of coefficients: multiples, composed, sums. · The program's lists of coefficients: sums, made of numbers; what linearFor and linearsFor return. · The program's linear polynomials: made of numbers; what linearFor and linearsFor return. -/
import Derived.Test.YtfppacahjdpamaaDoorWr
import Derived.Test.YtfppacahjdpamaaDoorDivPure
import Derived.Test.YtfppacahjdpamaaDoorSqr
import Derived.Test.YtfppacahjdpamaaDoorInfoE
import Derived.Test.YtfppacahjdpamaaDoorElemsOf
import Derived.Laws.CopyOwn
namespace Go.Proofs.YtfppacahjdpamaaDoor
open Go.RowKit Go.Joins
set_option linter.unusedVariables false

set_option maxHeartbeats 1600000 in
theorem trimmed_any (A : Option Addr) (n cap : Nat) (f : Nat → Nat) (hn : n ≤ cap) (hcap : cap ≤ 2097152) (w : World) (h : 0 < n → ∃ g, A = some ⟨g, 0, none⟩ ∧ ∀ j, j < n → w.cell? ⟨g, j, none⟩ = some (.int .u8 (f j : Nat))) :
    Calls Tryd.prog 67 #[.slice A n cap] w fun e w' => e = .returned (.slice A (tl f n) cap) ∧ w = w' := by
  have HH := Lib.hid h
  clear h
  go_enter Tryd.func67, Tryd.ntmps67
  go_wp2
  go_loop [0] (fun s => ∃ k : Nat, k ≤ n ∧ s = .slice A k cap ∧ Hid (tl f k = tl f n)) (fun s => match s with | .slice _ k _ => k | _ => 0)
  case atStart => exact ⟨n, Nat.le_refl _, rfl, Lib.hid rfl⟩
  case round =>
    obtain ⟨k, hk, rfl, HT⟩ := hrel
    cases k with
    | zero =>
      go_wp2
      go_ret
      exact ⟨by rw [← HT.out]; rfl, rfl⟩
    | succ k =>
      obtain ⟨g, rfl, hc⟩ := HH.out (by omega)
      have hck := hc k (by omega)
      clear hc
      obtain ⟨x, hx⟩ : ∃ x, f k = x := ⟨_, rfl⟩
      rw [hx] at hck
      have HX := Lib.hid hx
      clear hx
      by_cases h0 : x = 0
      · subst h0
        go_wp2
        go_round
        case rel => exact ⟨k, by omega, by first | rfl | simp, Lib.hid (by rw [← HT.out]; simp only [tl]; rw [if_pos HX.out])⟩
        case measure => simp
      · go_wp2
        go_ret
        exact ⟨by rw [← HT.out]; simp only [tl]; rw [if_neg (by rw [HX.out]; exact h0)]; rfl, rfl⟩


set_option maxHeartbeats 1600000 in
theorem value_any (c m P n : Nat) (hF : Fld m P n) (A : Option Addr) (k cap : Nat) (p : List Nat) (hp : ∀ j, nth p j < n) (x : Nat) (hx : x < n) (hk : k ≤ 1048577) (w : World) (hC : Calc c m P n w) (hR : Rl w .u8 A k p) :
    Calls Tryd.prog 51 #[.pointer (some ⟨c, 0, none⟩), .slice A k cap, .int .u8 x] w fun e w' => e = .returned (.int .u8 (vl P p x)) ∧ w = w' := by
  have h32 := hF.n32
  have HP := Lib.hid hp
  have HR := Lib.hid hR
  clear hp hR
  obtain ⟨r, hr⟩ : ∃ r, vl P p x = r := ⟨_, rfl⟩
  rw [hr]
  have HV := Lib.hid hr
  clear hr
  go_enter Tryd.func51, Tryd.ntmps51
  go_wp2
  go_loop [2, 7, 12] (fun y s i => ∃ j a b : Nat, j ≤ k ∧ i = .int .i64 j ∧ y = .int .u8 a ∧ s = .int .u8 b ∧ a < n ∧ b < n ∧ Hid (a = sq P x j) ∧ Hid (b = vlk P p x j)) (fun _ _ i => k - (intOf i).toNat)
  case atStart => exact ⟨0, x, 0, Nat.zero_le _, rfl, rfl, rfl, hx, by omega, Lib.hid rfl, Lib.hid rfl⟩
  case round =>
    obtain ⟨j, a, b, hj, rfl, rfl, rfl, ha, hb, HA, HS⟩ := hrel
    by_cases hlt : j < k
    · obtain ⟨g, rfl, hg, hc⟩ := HR.out.row (by omega)
      have hck := hc j hlt
      clear hc
      have hq := HP.out j
      obtain ⟨q, hqe⟩ : ∃ q, nth p j = q := ⟨_, rfl⟩
      rw [hqe] at hck hq
      have HQ := Lib.hid hqe
      clear hqe
      have hm := hF.mul_lt q a
      have hsq := hF.mul_lt a a
      go_wp2_with (first | (go_at_call 45; refine (product_any c m P n hF _ _ hq ha _ hC).mono ?_; rintro e w' ⟨rfl, rfl⟩) | (go_at_call 62; refine (ePlus_any _ _ (by omega) (by omega) _).mono ?_; rintro e w' ⟨rfl, rfl⟩) | (go_at_call 63; refine (squared_any c m P n hF _ ha 1 (by omega) _ hC).mono ?_; rintro e w' ⟨rfl, rfl⟩))
      go_round
      case rel => exact ⟨j + 1, _, _, by omega, by go_num, rfl, rfl, sq_lt hF ha 1, hF.xor_lt hb hm, Lib.hid (by rw [HA.out]; rfl), Lib.hid (by rw [HS.out, ← HQ.out, HA.out]; rfl)⟩
      case measure => simp [intOf]; omega
    · obtain rfl : j = k := by omega
      go_wp2
      go_ret
      exact ⟨ret_int (by rw [← HV.out, HS.out, vl, HR.out.len]), rfl⟩

end Go.Proofs.YtfppacahjdpamaaDoor
namespace Go.Proofs.YtfppacahjdpamaaDoor
open Go.RowKit Go.Joins
set_option linter.unusedVariables false

theorem Rl.drewN {W : World} {K : IntKind} {A : Option Addr} {n : Nat} {p : List Nat} (h : Rl W K A n p) (k : Nat) : Rl (W.drewN k) K A n p := h.same rfl
theorem Wr.drewN {W : World} {K : IntKind} {g n : Nat} {f : Nat → Nat} (h : Wr W K g n f) (k : Nat) : Wr (W.drewN k) K g n f := h.same rfl


end Go.Proofs.YtfppacahjdpamaaDoor
namespace Go.Proofs.YtfppacahjdpamaaDoor
open Go.RowKit Go.Joins
set_option linter.unusedVariables false

/-- The cells of a row of elements. -/
def els (p : List Nat) : List Value := p.map fun (x : Nat) => Value.int .u8 (x : Int)
theorem els_len (p : List Nat) : (els p).length = p.length := by simp [els]
theorem els_get {p : List Nat} {j : Nat} {v : Value} (h : (els p)[j]? = some v) : j < p.length ∧ v = .int .u8 (nth p j : Nat) := by
  have hj : j < p.length := by
    have := (List.getElem?_eq_some_iff.1 h).1
    rwa [els_len] at this
  refine ⟨hj, ?_⟩
  rw [nth_eq hj]
  simp [els, List.getElem?_eq_getElem hj] at h
  exact h.symm
theorem els_one (p : List Nat) : ∀ v ∈ els p, v.oneCell' = true := by
  intro v hv
  obtain ⟨x, _, rfl⟩ := List.mem_map.1 hv
  rfl
theorem add_head (g j : Nat) : (⟨g, 0, none⟩ : Addr).add j = ⟨g, j, none⟩ := by
  unfold Addr.add
  split
  · subst_vars; rfl
  · simp
/-- A row that has been made, onto which p has been copied. -/
theorem wr_copied {W : World} {g N : Nat} {T : TypeId} {p : List Nat} (hp : p.length ≤ N) (hg : W.heap[g]? = some (.cells (Go.splice (List.replicate N (Value.int .u8 0)) 0 (els p)).toArray T (0, 0))) : Wr W .u8 g N (nth p) := by
  have hlt : g < W.heap.size := by
    rcases Nat.lt_or_ge g W.heap.size with h | h
    · exact h
    · rw [Array.getElem?_eq_none h] at hg; cases hg
  have hc : ∀ j, W.cell? ⟨g, j, none⟩ = (Go.splice (List.replicate N (Value.int .u8 0)) 0 (els p))[j]? := by
    intro j
    rw [(cell_of_cells (x := j) hg).1]
    simp
  refine ⟨fun j hj => ?_, fun j => (cell_of_cells (x := j) hg).2, hlt⟩
  rw [hc, Go.splice]
  simp only [List.take_zero, List.nil_append, Nat.zero_add]
  by_cases e : j < p.length
  · rw [List.getElem?_append_left (by rw [els_len]; exact e), List.getElem?_eq_getElem (by rw [els_len]; exact e)]
    have := els_get (List.getElem?_eq_getElem (show j < (els p).length by rw [els_len]; exact e))
    rw [this.2]
  · rw [List.getElem?_append_right (by rw [els_len]; omega), els_len, List.getElem?_drop, List.getElem?_replicate, if_pos (by omega), nth_ge (by omega)]
    rfl
theorem made_list (K : IntKind) (n : Nat) : (madeCells (Value.int K 0).cells (n * 1)).toList = List.replicate n (Value.int K 0) := by
  apply List.ext_getElem?
  intro j
  by_cases h : j < n
  · rw [made_get K n j h, List.getElem?_replicate, if_pos h]
  · rw [List.getElem?_eq_none (by rw [Array.length_toList, size_madeCells]; omega), List.getElem?_eq_none (by rw [List.length_replicate]; omega)]
/-- The block of a row that has just been made. -/
theorem made_heap {W : World} {B g n : Nat} {T : TypeId} {K : IntKind} (h : W.ownsRow B T 1 (.slice (some ⟨g, 0, none⟩) n n) n (madeCells (Value.int K 0).cells (n * 1)).toList) : W.heap[g]? = some (.cells (List.replicate n (Value.int K 0)).toArray T (0, 0)) := by
  obtain ⟨hl, h⟩ := h
  rcases h with ⟨h, _⟩ | ⟨g', cap', cur, hv, hb, hg, h1, h2, h3, h4⟩
  · injection h with h; cases h
  · injection hv with e1 _ e2
    injection e1 with e1
    injection e1 with e1
    subst e1 e2
    rw [hg]
    have hcur : cur.toList = List.replicate n (Value.int K 0) := by
      rw [← made_list K n, ← h4, List.take_of_length_le (by rw [Array.length_toList, h3]; omega)]
    rw [← hcur]

theorem copy_src {W : World} {A : Option Addr} {k g : Nat} {p : List Nat} (h : Rl W .u8 A k p) : 0 < (els p).length → (some (⟨g, 0, none⟩ : Addr) = some ⟨g, 0, none⟩) ∧ ∃ ad, A = some ad ∧ ∀ j v, (els p)[j]? = some v → W.cell? (ad.add j) = some v := by
  intro h0
  rw [els_len] at h0
  have hl := h.len
  obtain ⟨a, e, hg, hc⟩ := h.row (by omega)
  refine ⟨rfl, _, e, fun j v hv => ?_⟩
  rw [add_head, hc j (by have := (els_get hv).1; omega), (els_get hv).2]
/-- 'copy(sum, p)': p laid over the head of a row that has been made. -/
theorem copy_step {w w1 : World} {A : Option Addr} {g k ca N : Nat} {p : List Nat} (hkp : p.length = k) (hN : k ≤ N) (hb : Below g w w1) (hG : w1.heap[g]? = some (.cells (List.replicate N (Value.int .u8 0)).toArray 49 (0, 0))) (hR : Rl w1 .u8 A k p)
    {ops : Array Oper} {rest : List Oper} {o : Oper} {a : Act} {Q : Exit → Act → World → Prop} {d s : Operand} (hgd : o.guard = none) (ho : o.op = .call { callee := .builtin .copy, args := #[d, s], argTypes := #[54, 54] }) (hd : a.eval d = .slice (some ⟨g, 0, none⟩) N N) (hs : a.eval s = .slice A k ca) (h : ∀ w', Hid (Wr w' .u8 g N (nth p)) → Hid (Below g w w') → wpList Tryd.prog ops Q rest (a.put o.dst (.int .i64 p.length)) w') : wpList Tryd.prog ops Q (o :: rest) a w1 :=
  wpList_copy_splice hgd _ _ 54 54 ho 49 Tryd.underlying54 (by kernel_rfl) (some ⟨g, 0, none⟩) A N N k ca hd hs g 0 (List.replicate N (Value.int .u8 0)) 49 hG (els p) (by rw [els_len, hkp]; show _ = min _ _; omega) (copy_src hR) (by rw [els_len, List.length_replicate]; omega) (els_one p) g w hb (Nat.le_refl _) (fun w' h1 h2 => by
    have h3 := h w' (Lib.hid (wr_copied (p := p) (by omega) h1.out)) (Lib.hid h2)
    rw [← els_len] at h3
    exact h3)
end Go.Proofs.YtfppacahjdpamaaDoor
namespace Go.Proofs.YtfppacahjdpamaaDoor
open Go.RowKit Go.Joins
set_option linter.unusedVariables false

set_option maxHeartbeats 1600000 in
theorem linear_out (c m P n : Nat) (hF : Fld m P n) (b len cap : Nat) (zs : List Int) (w : World) (hM : Mt w b len zs) (hD : w.cell? ⟨c, 0, none⟩ = some (.int .i64 m)) (h : 12 < len ∨ allIn n zs = false) :
    Calls Tryd.prog 49 #[.pointer (some ⟨c, 0, none⟩), .slice (some ⟨b, 0, none⟩) len cap] w fun e w' => e = .returned (.tuple #[.slice none 0 0, .bool false]) ∧ w = w' := by
  have hs := hM.small
  by_cases h12 : 12 < len
  · go_enter Tryd.func49, Tryd.ntmps49
    go_wp2
    go_ret2
    exact ⟨rfl, rfl⟩
  · have hin : allIn n zs = false := by rcases h with h | h; omega; exact h
    have H := Lib.hid (hasAll_any c m P n hF _ len cap zs (by omega) w hM.arg hD)
    have H2 : Hid (Calls Tryd.prog 36 #[.pointer (some ⟨c, 0, none⟩), .slice (some ⟨b, 0, none⟩) len cap] w fun e w' => e = .returned (.bool false) ∧ w = w') := by
      have := H.out
      rw [hin] at this
      exact this
    clear H h hin
    go_enter Tryd.func49, Tryd.ntmps49
    go_wp2_with (go_at_call 36; refine H2.out.mono ?_; rintro e w' ⟨rfl, rfl⟩)
    go_ret2
    exact ⟨rfl, rfl⟩

set_option maxRecDepth 100000 in
set_option maxHeartbeats 3200000 in
theorem linear_in (c m P n : Nat) (hF : Fld m P n) (b len cap : Nat) (zs : List Int) (w : World) (hM : Mt w b len zs) (hD : w.cell? ⟨c, 0, none⟩ = some (.int .i64 m)) (h12 : len ≤ 12) (hin : allIn n zs = true) :
    Calls Tryd.prog 49 #[.pointer (some ⟨c, 0, none⟩), .slice (some ⟨b, 0, none⟩) len cap] w fun e w' => ∃ g, e = .returned (.tuple #[.slice (some ⟨g, 0, none⟩) len len, .bool (trmB (nats zs))]) ∧ Below w.heap.size w w' ∧ Rl w' .u8 (some ⟨g, 0, none⟩) len (nats zs) := by
  have h32 := hF.n32
  have hn2 := hF.n2
  have H2 : Hid (Calls Tryd.prog 36 #[.pointer (some ⟨c, 0, none⟩), .slice (some ⟨b, 0, none⟩) len cap] w fun e w' => e = .returned (.bool true) ∧ w = w') := by
    have := hasAll_any c m P n hF _ len cap zs (by omega) w hM.arg hD
    rw [hin] at this
    exact this
  have HE := Lib.hid (elementsOf_any b len cap n zs (by omega) (by omega) w hM hin)
  have hlen : (nats zs).length = len := by rw [nats_length]; exact hM.len
  obtain ⟨p, hp⟩ : ∃ p, nats zs = p := ⟨_, rfl⟩
  rw [hp] at HE hlen ⊢
  have EB := Lib.hid (show trmB p = decide (tl (nth p) len = len) by rw [trmB_tl, hlen])
  clear hM hin hp hlen
  go_enter Tryd.func49, Tryd.ntmps49
  go_wp2_with (go_at_call 36; refine H2.out.mono ?_; rintro e w' ⟨rfl, rfl⟩)
  refine HE.out.mono ?_
  rintro e w1 ⟨g, rfl, hb, hR⟩
  have HT := Lib.hid (trimmed_any (some ⟨g, 0, none⟩) len len (nth p) (Nat.le_refl _) (by omega) w1 (fun h0 => by obtain ⟨g', e, _, hc⟩ := hR.row h0; exact ⟨g', e, hc⟩))
  have HB := Lib.hid hb
  have HR := Lib.hid hR
  clear hb hR
  obtain ⟨t, ht⟩ : ∃ t, tl (nth p) len = t := ⟨_, rfl⟩
  rw [ht] at HT EB
  clear ht
  by_cases htk : t = len
  · subst htk
    go_wp2_with (go_at_call 67; refine HT.out.mono ?_; rintro e w' ⟨rfl, rfl⟩)
    go_ret2
    exact ⟨g, by rw [EB.out]; simp, HB.out, HR.out⟩
  · have g1 : ((t : Int) == (len : Int)) = false := by simp; omega
    have HTK := Lib.hid htk
    go_wp2_with (go_at_call 67; refine HT.out.mono ?_; rintro e w' ⟨rfl, rfl⟩)
    go_ret2
    exact ⟨g, by rw [EB.out]; simp [HTK.out], HB.out, HR.out⟩

/-- What linear returns for numbers that are a linear polynomial, and for others. -/
theorem linear_yes (c m P n : Nat) (hF : Fld m P n) (b len cap : Nat) (zs : List Int) (w : World) (hM : Mt w b len zs) (hD : w.cell? ⟨c, 0, none⟩ = some (.int .i64 m)) (hok : okL n zs = true) :
    Calls Tryd.prog 49 #[.pointer (some ⟨c, 0, none⟩), .slice (some ⟨b, 0, none⟩) len cap] w fun e w' => ∃ g, e = .returned (.tuple #[.slice (some ⟨g, 0, none⟩) len len, .bool true]) ∧ Below w.heap.size w w' ∧ Rl w' .u8 (some ⟨g, 0, none⟩) len (nats zs) := by
  have h := linear_in c m P n hF b len cap zs w hM hD (by have := okL_len hok; have := hM.len; omega) (okL_in hok)
  have e : trmB (nats zs) = true := by simp [okL] at hok; exact hok.2.2
  rw [e] at h
  exact h
theorem linear_no (c m P n : Nat) (hF : Fld m P n) (b len cap : Nat) (zs : List Int) (w : World) (hM : Mt w b len zs) (hD : w.cell? ⟨c, 0, none⟩ = some (.int .i64 m)) (hok : okL n zs = false) :
    Calls Tryd.prog 49 #[.pointer (some ⟨c, 0, none⟩), .slice (some ⟨b, 0, none⟩) len cap] w fun e w' => ∃ A k, e = .returned (.tuple #[.slice A k k, .bool false]) ∧ Below w.heap.size w w' := by
  by_cases h : 12 < len ∨ allIn n zs = false
  · refine (linear_out c m P n hF b len cap zs w hM hD h).mono ?_
    rintro e w' ⟨rfl, rfl⟩
    exact ⟨none, 0, rfl, Below.refl _ _⟩
  · have h12 : len ≤ 12 := by omega
    have hin : allIn n zs = true := by cases ha : allIn n zs with
      | true => rfl
      | false => exact absurd (.inr ha) h
    have e : trmB (nats zs) = false := by
      cases hb : trmB (nats zs) with
      | false => rfl
      | true =>
        exfalso
        have : okL n zs = true := by simp [okL, hb, hin]; have := hM.len; omega
        rw [this] at hok; cases hok
    have h := linear_in c m P n hF b len cap zs w hM hD h12 hin
    rw [e] at h
    refine h.mono ?_
    rintro e w' ⟨g, rfl, hb, _⟩
    exact ⟨_, _, rfl, hb⟩


set_option maxHeartbeats 800000 in
theorem linearFor_A (d p : Int) (hf : fldI d p = false) (hl : -9223372036854775808 ≤ p) (hh : p ≤ 9223372036854775807) (v1 v2 : Value) (w : World) :
    Calls Tryd.prog 27 #[.agg #[.int .i64 d, .int .i64 p], v1, v2] w fun e w' => e = .returned (.tuple #[.pointer none, .slice none 0 0, .int .i64 1]) ∧ Below w.heap.size w w' := by
  have HF := Lib.hid hf
  clear hf
  go_enter Tryd.func27, Tryd.ntmps27
  go_wp2_with (go_at_call 19; refine (calculatorFor_invalid _ _ HF.out hl hh _ _).mono ?_; rintro e w1 ⟨rfl, hb⟩)
  go_ret3
  exact ⟨rfl, ((Below.refl _ w).alloc (Nat.le_refl _) _).trans (hb.mono (by simp))⟩
set_option maxHeartbeats 800000 in
theorem linearFor_B (m P n : Nat) (hF : Fld m P n) (b len cap : Nat) (zs : List Int) (v2 : Value) (w : World) (hM : Mt w b len zs) (hok : okL n zs = false) :
    Calls Tryd.prog 27 #[.agg #[.int .i64 m, .int .i64 P], .slice (some ⟨b, 0, none⟩) len cap, v2] w fun e w' => e = .returned (.tuple #[.pointer none, .slice none 0 0, .int .i64 1]) ∧ Below w.heap.size w w' := by
  have HM := Lib.hid hM
  clear hM
  go_enter Tryd.func27, Tryd.ntmps27
  have hb0 := below_alloc1 w (.cells #[.int .i64 m, .int .i64 P] 27)
  have HB0 := Lib.hid hb0
  clear hb0
  go_wp2_with fail
  refine (calculatorFor_none m P n hF _).mono ?_
  rintro e w1 ⟨c, rfl, hb, hC, hc⟩
  have hD := hC.deg
  have HB1 := Lib.hid (HB0.out.trans (hb.mono (by simp)))
  have HM1 := Lib.hid (HM.out.below HB1.out)
  clear hb hc
  go_wp2_with fail
  refine (linear_no c m P n hF b len cap zs _ HM1.out hD hok).mono ?_
  rintro e w2 ⟨A, k, rfl, hb⟩
  have HB2 := Lib.hid (HB1.out.trans (hb.mono HB1.out.size))
  clear hb
  go_wp2_with fail
  go_ret3
  exact ⟨rfl, HB2.out⟩
set_option maxHeartbeats 800000 in
theorem linearFor_R (m P n : Nat) (hF : Fld m P n) (b len cap : Nat) (zs : List Int) (A2 : Option Addr) (n2 cap2 : Nat) (z2 : List Int) (hn2 : n2 ≤ 140737488351232) (w : World) (hM : Mt w b len zs) (hok : okL n zs = true) (hA : Arg w A2 n2 z2) (hin : allIn n z2 = false) :
    Calls Tryd.prog 27 #[.agg #[.int .i64 m, .int .i64 P], .slice (some ⟨b, 0, none⟩) len cap, .slice A2 n2 cap2] w fun e w' => e = .returned (.tuple #[.pointer none, .slice none 0 0, .int .i64 2]) ∧ Below w.heap.size w w' := by
  have HM := Lib.hid hM
  have HA := Lib.hid hA
  have HIN := Lib.hid hin
  have HOK := Lib.hid hok
  clear hM hA hin hok
  go_enter Tryd.func27, Tryd.ntmps27
  have hb0 := below_alloc1 w (.cells #[.int .i64 m, .int .i64 P] 27)
  have HB0 := Lib.hid hb0
  clear hb0
  go_wp2_with fail
  refine (calculatorFor_none m P n hF _).mono ?_
  rintro e w1 ⟨c, rfl, hb, hC, hc⟩
  have hD := hC.deg
  have hcl := hC.lt
  have HB1 := Lib.hid (HB0.out.trans (hb.mono (by simp)))
  have HM1 := Lib.hid (HM.out.below HB1.out)
  clear hb hc
  go_wp2_with fail
  refine (linear_yes c m P n hF b len cap zs _ HM1.out hD HOK.out).mono ?_
  rintro e w2 ⟨g, rfl, hb, hR⟩
  have hD2 : w2.cell? ⟨c, 0, none⟩ = some (.int .i64 m) := (hb.cell (p := ⟨c, 0, none⟩) hcl).trans hD
  have HB2 := Lib.hid (HB1.out.trans (hb.mono HB1.out.size))
  clear hb
  go_wp2_with fail
  have H := hasAll_any c m P n hF A2 n2 cap2 z2 hn2 w2 (HA.out.from HB2.out) hD2
  rw [HIN.out] at H
  refine H.mono ?_
  rintro e w' ⟨rfl, rfl⟩
  clear H
  go_wp2_with fail
  go_ret3
  exact ⟨rfl, HB2.out⟩
set_option maxHeartbeats 800000 in
theorem linearFor_C (m P n : Nat) (hF : Fld m P n) (b len cap : Nat) (zs : List Int) (A2 : Option Addr) (n2 cap2 : Nat) (z2 : List Int) (hn2 : n2 ≤ 140737488351232) (w : World) (hM : Mt w b len zs) (hok : okL n zs = true) (hA : Arg w A2 n2 z2) (hin : allIn n z2 = true) :
    Calls Tryd.prog 27 #[.agg #[.int .i64 m, .int .i64 P], .slice (some ⟨b, 0, none⟩) len cap, .slice A2 n2 cap2] w fun e w' => ∃ c g, e = .returned (.tuple #[.pointer (some ⟨c, 0, none⟩), .slice (some ⟨g, 0, none⟩) len len, .int .i64 0]) ∧ Below w.heap.size w w' ∧ Calc c m P n w' ∧ Rl w' .u8 (some ⟨g, 0, none⟩) len (nats zs) := by
  have HM := Lib.hid hM
  have HA := Lib.hid hA
  have HIN := Lib.hid hin
  have HOK := Lib.hid hok
  clear hM hA hin hok
  go_enter Tryd.func27, Tryd.ntmps27
  have hb0 := below_alloc1 w (.cells #[.int .i64 m, .int .i64 P] 27)
  have HB0 := Lib.hid hb0
  clear hb0
  go_wp2_with fail
  refine (calculatorFor_none m P n hF _).mono ?_
  rintro e w1 ⟨c, rfl, hb, hC, hc⟩
  have hD := hC.deg
  have hcl := hC.lt
  have HB1 := Lib.hid (HB0.out.trans (hb.mono (by simp)))
  have HM1 := Lib.hid (HM.out.below HB1.out)
  have HC := Lib.hid hC
  clear hb hc hC
  go_wp2_with fail
  refine (linear_yes c m P n hF b len cap zs _ HM1.out hD HOK.out).mono ?_
  rintro e w2 ⟨g, rfl, hb, hR⟩
  have hD2 : w2.cell? ⟨c, 0, none⟩ = some (.int .i64 m) := (hb.cell (p := ⟨c, 0, none⟩) hcl).trans hD
  have HC2 := Lib.hid (HC.out.below hcl hb)
  have HB2 := Lib.hid (HB1.out.trans (hb.mono HB1.out.size))
  have HR := Lib.hid hR
  clear hb hR
  go_wp2_with fail
  have H := hasAll_any c m P n hF A2 n2 cap2 z2 hn2 w2 (HA.out.from HB2.out) hD2
  rw [HIN.out] at H
  refine H.mono ?_
  rintro e w' ⟨rfl, rfl⟩
  clear H
  go_wp2_with fail
  go_ret3
  exact ⟨c, g, rfl, HB2.out, HC2.out, HR.out⟩
end Go.Proofs.YtfppacahjdpamaaDoor
