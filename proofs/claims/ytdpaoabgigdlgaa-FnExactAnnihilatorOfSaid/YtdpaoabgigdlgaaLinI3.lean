/- The program's lists of coefficients: sums, made of numbers; what linearFor and linearsFor return. -/
import Derived.Test.YtdpaoabgigdlgaaLinI2
namespace Go.Proofs.Ytdpaoabgigdlgaa
open Go.RowKit Go.Joins
set_option linter.unusedVariables false

/-- The cells of a row of elements. -/
def els (p : List Nat) : List Value := p.map fun (x : Nat) => Value.int .u8 (x : Int)
theorem els_len (p : List Nat) : (els p).length = p.length := by simp [els]
theorem els_get {p : List Nat} {j : Nat} {v : Value} (h : (els p)[j]? = some v) : j < p.length ∧ v = .int .u8 (nth p j : Nat) := by
  have hj : j < p.length := by
    have := (List.getElem?_eq_some_iff.1 h).1
    rwa [els_len] at this
  refine ⟨hj, ?_⟩
  rw [nth_eq hj]
  simp [els, List.getElem?_eq_getElem hj] at h
  exact h.symm
theorem els_one (p : List Nat) : ∀ v ∈ els p, v.oneCell' = true := by
  intro v hv
  obtain ⟨x, _, rfl⟩ := List.mem_map.1 hv
  rfl
theorem add_head (g j : Nat) : (⟨g, 0, none⟩ : Addr).add j = ⟨g, j, none⟩ := by
  unfold Addr.add
  split
  · subst_vars; rfl
  · simp
/-- A row that has been made, onto which p has been copied. -/
theorem wr_copied {W : World} {g N : Nat} {T : TypeId} {p : List Nat} (hp : p.length ≤ N) (hg : W.heap[g]? = some (.cells (Go.splice (List.replicate N (Value.int .u8 0)) 0 (els p)).toArray T (0, 0))) : Wr W .u8 g N (nth p) := by
  have hlt : g < W.heap.size := by
    rcases Nat.lt_or_ge g W.heap.size with h | h
    · exact h
    · rw [Array.getElem?_eq_none h] at hg; cases hg
  have hc : ∀ j, W.cell? ⟨g, j, none⟩ = (Go.splice (List.replicate N (Value.int .u8 0)) 0 (els p))[j]? := by
    intro j
    rw [(cell_of_cells (x := j) hg).1]
    simp
  refine ⟨fun j hj => ?_, fun j => (cell_of_cells (x := j) hg).2, hlt⟩
  rw [hc, Go.splice]
  simp only [List.take_zero, List.nil_append, Nat.zero_add]
  by_cases e : j < p.length
  · rw [List.getElem?_append_left (by rw [els_len]; exact e), List.getElem?_eq_getElem (by rw [els_len]; exact e)]
    have := els_get (List.getElem?_eq_getElem (show j < (els p).length by rw [els_len]; exact e))
    rw [this.2]
  · rw [List.getElem?_append_right (by rw [els_len]; omega), els_len, List.getElem?_drop, List.getElem?_replicate, if_pos (by omega), nth_ge (by omega)]
    rfl
theorem made_list (K : IntKind) (n : Nat) : (madeCells (Value.int K 0).cells (n * 1)).toList = List.replicate n (Value.int K 0) := by
  apply List.ext_getElem?
  intro j
  by_cases h : j < n
  · rw [made_get K n j h, List.getElem?_replicate, if_pos h]
  · rw [List.getElem?_eq_none (by rw [Array.length_toList, size_madeCells]; omega), List.getElem?_eq_none (by rw [List.length_replicate]; omega)]
/-- The block of a row that has just been made. -/
theorem made_heap {W : World} {B g n : Nat} {T : TypeId} {K : IntKind} (h : W.ownsRow B T 1 (.slice (some ⟨g, 0, none⟩) n n) n (madeCells (Value.int K 0).cells (n * 1)).toList) : W.heap[g]? = some (.cells (List.replicate n (Value.int K 0)).toArray T (0, 0)) := by
  obtain ⟨hl, h⟩ := h
  rcases h with ⟨h, _⟩ | ⟨g', cap', cur, hv, hb, hg, h1, h2, h3, h4⟩
  · injection h with h; cases h
  · injection hv with e1 _ e2
    injection e1 with e1
    injection e1 with e1
    subst e1 e2
    rw [hg]
    have hcur : cur.toList = List.replicate n (Value.int K 0) := by
      rw [← made_list K n, ← h4, List.take_of_length_le (by rw [Array.length_toList, h3]; omega)]
    rw [← hcur]

theorem copy_src {W : World} {A : Option Addr} {k g : Nat} {p : List Nat} (h : Rl W .u8 A k p) : 0 < (els p).length → (some (⟨g, 0, none⟩ : Addr) = some ⟨g, 0, none⟩) ∧ ∃ ad, A = some ad ∧ ∀ j v, (els p)[j]? = some v → W.cell? (ad.add j) = some v := by
  intro h0
  rw [els_len] at h0
  have hl := h.len
  obtain ⟨a, e, hg, hc⟩ := h.row (by omega)
  refine ⟨rfl, _, e, fun j v hv => ?_⟩
  rw [add_head, hc j (by have := (els_get hv).1; omega), (els_get hv).2]
/-- 'copy(sum, p)': p laid over the head of a row that has been made. -/
theorem copy_step {w w1 : World} {A : Option Addr} {g k ca N : Nat} {p : List Nat} (hkp : p.length = k) (hN : k ≤ N) (hb : Below g w w1) (hG : w1.heap[g]? = some (.cells (List.replicate N (Value.int .u8 0)).toArray 49 (0, 0))) (hR : Rl w1 .u8 A k p)
    {ops : Array Oper} {rest : List Oper} {o : Oper} {a : Act} {Q : Exit → Act → World → Prop} {d s : Operand} (hgd : o.guard = none) (ho : o.op = .call { callee := .builtin .copy, args := #[d, s], argTypes := #[51, 51] }) (hd : a.eval d = .slice (some ⟨g, 0, none⟩) N N) (hs : a.eval s = .slice A k ca) (h : ∀ w', Hid (Wr w' .u8 g N (nth p)) → Hid (Below g w w') → wpList Try.prog ops Q rest (a.put o.dst (.int .i64 p.length)) w') : wpList Try.prog ops Q (o :: rest) a w1 :=
  wpList_copy_splice hgd _ _ 51 51 ho 49 Try.underlying51 (by kernel_rfl) (some ⟨g, 0, none⟩) A N N k ca hd hs g 0 (List.replicate N (Value.int .u8 0)) 49 hG (els p) (by rw [els_len, hkp]; show _ = min _ _; omega) (copy_src hR) (by rw [els_len, List.length_replicate]; omega) (els_one p) g w hb (Nat.le_refl _) (fun w' h1 h2 => by
    have h3 := h w' (Lib.hid (wr_copied (p := p) (by omega) h1.out)) (Lib.hid h2)
    rw [← els_len] at h3
    exact h3)
set_option maxRecDepth 100000 in
set_option maxHeartbeats 3200000 in
theorem plusL_any (A B : Option Addr) (k l ca cb : Nat) (p q : List Nat) (hp : ∀ j, nth p j < 256) (hq : ∀ j, nth q j < 256) (hk : k ≤ 500000) (hl : l ≤ 500000) (w : World) (hR : Rl w .u8 A k p) (hS : Rl w .u8 B l q) :
    Calls Try.prog 90 #[.slice A k ca, .slice B l cb] w fun e w' => ∃ D r cd, e = .returned (.slice D r cd) ∧ r ≤ cd ∧ cd ≤ 1000000 ∧ Below w.heap.size w w' ∧ Rl w' .u8 D r (sumL p q) := by
  obtain ⟨i0, hi, hz0, hz1, hz2⟩ := info_parts Try.infoE
  have hkp := hR.len
  have hlq := hS.len
  have HP := Lib.hid hp
  have HQ := Lib.hid hq
  have HR := Lib.hid hR
  have HS := Lib.hid hS
  clear hp hq hR hS
  obtain ⟨N, hN⟩ : ∃ N, max k l = N := ⟨_, rfl⟩
  have eN : max (k : Int) (l : Int) = (N : Int) := by omega
  have hNk : k ≤ N := by omega
  have hNl : l ≤ N := by omega
  have hNs : N ≤ 500000 := by omega
  have HN := Lib.hid hN
  clear hN
  go_enter Try.func90, Try.ntmps90
  go_wp2_with (first | (at_make; refine wpList_make_full _ rfl _ _ 51 rfl w.heap.size 49 i0 (.int .u8 0) 1 Try.underlying51 hi hz0 hz1 .i64 .i64 _ _ N rfl rfl (by first | rfl | omega) (by first | rfl | omega) (by rw [hz2]; omega) (by unfold maxLen; omega) (Nat.le_refl _) ?_; intro w1 hown hgrow; have hb1 : Below w.heap.size w w1 := (Below.refl _ w).grown hgrow (Nat.le_refl _) (fun k h => by cases h); have hg1 := made_heap (K := .u8) hown; have HB := Lib.hid hb1; have HG := Lib.hid hg1; clear hown hgrow hb1 hg1) | (refine copy_step hkp hNk HB.out HG.out (HR.out.below HB.out) rfl rfl rfl rfl ?_; intro w2 HW HB2))
  go_loopw [19] (fun i wr => ∃ (j : Nat) (F : Nat → Nat), j ≤ l ∧ i = .int .i64 j ∧ Below w.heap.size w wr ∧ Wr wr .u8 w.heap.size N F ∧ Hid (∀ i, F i = if i < j then nth p i ^^^ nth q i else nth p i)) (fun i _ => l - (intOf i).toNat)
  case atStart => exact ⟨0, _, Nat.zero_le _, rfl, HB2.out, HW.out, Lib.hid (fun i => by rw [if_neg (by omega)])⟩
  case round =>
    obtain ⟨j, F, hj, rfl, hb, hW, HI⟩ := hrel
    clear HW HB2 HG HB
    by_cases hlt : j < l
    · obtain ⟨g, rfl, hg, hc⟩ := (HS.out.below hb).row (by omega)
      have hck := hc j hlt
      clear hc
      have hy := HQ.out j
      obtain ⟨y, hye⟩ : ∃ y, nth q j = y := ⟨_, rfl⟩
      rw [hye] at hck hy
      have HY := Lib.hid hye
      clear hye
      have hx := HP.out j
      have hcw := hW.cell j (by omega)
      rw [HI.out j, if_neg (by omega)] at hcw
      obtain ⟨x, hxe⟩ : ∃ x, nth p j = x := ⟨_, rfl⟩
      rw [hxe] at hcw hx
      have HX := Lib.hid hxe
      clear hxe
      have hfw := hW.free j
      have hjN : j < N := by omega
      have HB2 := Lib.hid hb
      have HW2 := Lib.hid hW
      clear hb hW
      go_wp2_with (go_at_call 99; refine (plus_any _ _ hx hy _).mono ?_; rintro e w' ⟨rfl, rfl⟩)
      go_roundw
      case rel => exact ⟨j + 1, _, by omega, by go_num, below_set HB2.out _ _ (Nat.le_refl _) _, HW2.out.set j hjN _, Lib.hid (fun i => by
        simp only [put]
        by_cases e : i = j
        · subst e; rw [if_pos rfl, if_pos (by omega), HX.out, HY.out]
        · rw [if_neg e, HI.out i]
          by_cases h : i < j
          · rw [if_pos h, if_pos (by omega)]
          · rw [if_neg h, if_neg (by omega)])⟩
      case measure => simp [intOf]; omega
    · obtain rfl : j = l := by omega
      have hT := trimmed_any (some ⟨w.heap.size, 0, none⟩) N N F (Nat.le_refl _) (by omega) wr (fun _ => ⟨_, rfl, hW.cell⟩)
      have eF : ∀ i, i < N → F i = nth p i ^^^ nth q i := fun i hi => by
        rw [HI.out i]
        by_cases h : i < j
        · rw [if_pos h]
        · rw [if_neg h, nth_ge (p := q) (by omega), Nat.xor_zero]
      have eS : sumL p q = lst F (tl F N) := by
        rw [sumL, hkp, hlq, HN.out, trim, lst_length]
        have e1 : tl (nth (lst (sumF p q) N)) N = tl F N := tl_congr fun i hi => by rw [lst_nth _ hi, eF i hi]; rfl
        rw [e1]
        exact lst_congr fun i hi => by
          have := tl_le F N
          rw [lst_nth _ (by omega), eF i (by omega)]; rfl
      have hres : Rl wr .u8 (some ⟨w.heap.size, 0, none⟩) (tl F N) (sumL p q) := by rw [eS]; exact hW.rl' (tl_le F N)
      have hle := tl_le F N
      have HT := Lib.hid hT
      have HRES := Lib.hid hres
      have HB2 := Lib.hid hb
      clear hb hW hT hres eF eS
      generalize tl F N = r at HT HRES hle
      go_wp2_with (go_at_call 78; refine HT.out.mono ?_; rintro e w' ⟨rfl, rfl⟩)
      go_ret
      exact ⟨_, _, _, rfl, hle, by omega, HB2.out, HRES.out⟩
end Go.Proofs.Ytdpaoabgigdlgaa
