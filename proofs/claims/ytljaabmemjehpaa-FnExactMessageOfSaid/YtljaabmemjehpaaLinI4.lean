/- The program's lists of coefficients: without zeros at the end, as numbers, values. · The program's lists of coefficients: multiples, composed, sums. · The program's lists of coefficients: sums, made of numbers; what linearFor and linearsFor return. · The program's linear polynomials: made of numbers; what linearFor and linearsFor return. -/
import Derived.Test.YtljaabmemjehpaaEPlus
import Derived.Test.YtljaabmemjehpaaSqr
import Derived.Test.YtljaabmemjehpaaWr
import Derived.Test.YtljaabmemjehpaaDivPure
import Derived.Test.YtljaabmemjehpaaIn
import Derived.Test.YtljaabmemjehpaaElemsOf
import Derived.Laws.CopyOwn
namespace Go.Proofs.Ytljaabmemjehpaa
open Go.RowKit Go.Joins
set_option linter.unusedVariables false




end Go.Proofs.Ytljaabmemjehpaa
namespace Go.Proofs.Ytljaabmemjehpaa
open Go.RowKit Go.Joins
set_option linter.unusedVariables false

theorem Rl.drewN {W : World} {K : IntKind} {A : Option Addr} {n : Nat} {p : List Nat} (h : Rl W K A n p) (k : Nat) : Rl (W.drewN k) K A n p := h.same rfl
theorem Wr.drewN {W : World} {K : IntKind} {g n : Nat} {f : Nat → Nat} (h : Wr W K g n f) (k : Nat) : Wr (W.drewN k) K g n f := h.same rfl

set_option maxHeartbeats 1600000 in
theorem multiple_new (c m P n : Nat) (hF : Fld m P n) (a : Nat) (ha : a < n) (A : Option Addr) (k cap : Nat) (p : List Nat) (hp : ∀ j, nth p j < n) (hk : k ≤ 1048576) (w : World) (hC : Calc c m P n w) (hR : Rl w .u8 A k p) :
    Calls Try.prog 118 #[.pointer (some ⟨c, 0, none⟩), .int .u8 a, .slice A k cap] w fun e w' => ∃ b, e = .returned (.slice (some ⟨b, 0, none⟩) k k) ∧ w.heap.size ≤ b ∧ Below w.heap.size w w' ∧ Rl w' .u8 (some ⟨b, 0, none⟩) k (scl P a p) := by
  obtain ⟨i0, hi, hz0, hz1, hz2⟩ := info_parts Try.infoE
  have HP := Lib.hid hp
  have HR := Lib.hid hR
  have hcl := hC.lt
  have HC := Lib.hid hC
  clear hp hR hC
  go_enter Try.func118, Try.ntmps118
  go_wp2_with (at_make; refine wpList_make_full _ rfl _ _ 95 rfl w.heap.size 109 i0 (.int .u8 0) 1 Try.underlying95 hi hz0 hz1 .i64 .i64 _ _ k rfl rfl rfl rfl (by rw [hz2]; omega) (by unfold maxLen; omega) (Nat.le_refl _) ?_; intro w1 hown hgrow)
  have hb1 : Below w.heap.size w w1 := (Below.refl _ w).grown hgrow (Nat.le_refl _) (fun k h => by cases h)
  have HW := Lib.hid (Wr.made (K := .u8) hown)
  have HB := Lib.hid hb1
  clear hown hgrow hz0 hz1 hz2 hi hb1
  go_loopw [15] (fun i wr => ∃ (j : Nat) (F : Nat → Nat), j ≤ k ∧ i = .int .i64 j ∧ Below w.heap.size w wr ∧ Wr wr .u8 w.heap.size k F ∧ Hid (∀ i, i < j → F i = mul P a (nth p i))) (fun i _ => k - (intOf i).toNat)
  case atStart => exact ⟨0, _, Nat.zero_le _, rfl, HB.out, HW.out, Lib.hid (fun j hj => by omega)⟩
  case round =>
    obtain ⟨j, F, hj, rfl, hb, hW, HI⟩ := hrel
    clear HW HB
    by_cases hlt : j < k
    · obtain ⟨g, rfl, hg, hc⟩ := (HR.out.below hb).row (by omega)
      have hck := hc j hlt
      clear hc
      have hx := HP.out j
      obtain ⟨x, hxe⟩ : ∃ x, nth p j = x := ⟨_, rfl⟩
      rw [hxe] at hck hx
      have HX := Lib.hid hxe
      clear hxe
      have hcw := hW.cell j hlt
      have hfw := hW.free j
      have hCr := HC.out.below hcl hb
      have HB2 := Lib.hid hb
      have HW2 := Lib.hid hW
      clear hb hW
      go_wp2_with (go_at_call 149; refine (product_any c m P n hF _ _ ha hx _ hCr).mono ?_; rintro e w' ⟨rfl, rfl⟩)
      go_roundw
      case rel => exact ⟨j + 1, _, by omega, by go_num, below_set HB2.out _ _ (Nat.le_refl _) _, HW2.out.set j hlt _, Lib.hid (fun i hi => by
        simp only [put]
        by_cases e : i = j
        · subst e; rw [if_pos rfl, HX.out]
        · rw [if_neg e]; exact HI.out i (by omega))⟩
      case measure => simp [intOf]; omega
    · obtain rfl : j = k := by omega
      have HB2 := Lib.hid hb
      have HW2 := Lib.hid hW
      clear hb hW
      go_wp2
      go_ret
      refine ⟨_, rfl, Nat.le_refl _, HB2.out, ?_⟩
      have h1 := HW2.out.rl
      rwa [show lst F j = scl P a p by rw [scl, HR.out.len]; exact lst_congr fun i hi => HI.out i hi] at h1
theorem multiple_any (c m P n : Nat) (hF : Fld m P n) (a : Nat) (ha : a < n) (A : Option Addr) (k cap : Nat) (p : List Nat) (hp : ∀ j, nth p j < n) (hk : k ≤ 1048576) (w : World) (hC : Calc c m P n w) (hR : Rl w .u8 A k p) :
    Calls Try.prog 118 #[.pointer (some ⟨c, 0, none⟩), .int .u8 a, .slice A k cap] w fun e w' => ∃ b, e = .returned (.slice (some ⟨b, 0, none⟩) k k) ∧ Below w.heap.size w w' ∧ Rl w' .u8 (some ⟨b, 0, none⟩) k (scl P a p) := by
  refine (multiple_new c m P n hF a ha A k cap p hp hk w hC hR).mono ?_
  rintro e w' ⟨b, h1, _, h2, h3⟩
  exact ⟨b, h1, h2, h3⟩

end Go.Proofs.Ytljaabmemjehpaa
namespace Go.Proofs.Ytljaabmemjehpaa
open Go.RowKit Go.Joins
set_option linter.unusedVariables false

/-- The cells of a row of elements. -/
def els (p : List Nat) : List Value := p.map fun (x : Nat) => Value.int .u8 (x : Int)
theorem els_len (p : List Nat) : (els p).length = p.length := by simp [els]
theorem els_get {p : List Nat} {j : Nat} {v : Value} (h : (els p)[j]? = some v) : j < p.length ∧ v = .int .u8 (nth p j : Nat) := by
  have hj : j < p.length := by
    have := (List.getElem?_eq_some_iff.1 h).1
    rwa [els_len] at this
  refine ⟨hj, ?_⟩
  rw [nth_eq hj]
  simp [els, List.getElem?_eq_getElem hj] at h
  exact h.symm
theorem els_one (p : List Nat) : ∀ v ∈ els p, v.oneCell' = true := by
  intro v hv
  obtain ⟨x, _, rfl⟩ := List.mem_map.1 hv
  rfl
theorem add_head (g j : Nat) : (⟨g, 0, none⟩ : Addr).add j = ⟨g, j, none⟩ := by
  unfold Addr.add
  split
  · subst_vars; rfl
  · simp
/-- A row that has been made, onto which p has been copied. -/
theorem wr_copied {W : World} {g N : Nat} {T : TypeId} {p : List Nat} (hp : p.length ≤ N) (hg : W.heap[g]? = some (.cells (Go.splice (List.replicate N (Value.int .u8 0)) 0 (els p)).toArray T (0, 0))) : Wr W .u8 g N (nth p) := by
  have hlt : g < W.heap.size := by
    rcases Nat.lt_or_ge g W.heap.size with h | h
    · exact h
    · rw [Array.getElem?_eq_none h] at hg; cases hg
  have hc : ∀ j, W.cell? ⟨g, j, none⟩ = (Go.splice (List.replicate N (Value.int .u8 0)) 0 (els p))[j]? := by
    intro j
    rw [(cell_of_cells (x := j) hg).1]
    simp
  refine ⟨fun j hj => ?_, fun j => (cell_of_cells (x := j) hg).2, hlt⟩
  rw [hc, Go.splice]
  simp only [List.take_zero, List.nil_append, Nat.zero_add]
  by_cases e : j < p.length
  · rw [List.getElem?_append_left (by rw [els_len]; exact e), List.getElem?_eq_getElem (by rw [els_len]; exact e)]
    have := els_get (List.getElem?_eq_getElem (show j < (els p).length by rw [els_len]; exact e))
    rw [this.2]
  · rw [List.getElem?_append_right (by rw [els_len]; omega), els_len, List.getElem?_drop, List.getElem?_replicate, if_pos (by omega), nth_ge (by omega)]
    rfl
theorem made_list (K : IntKind) (n : Nat) : (madeCells (Value.int K 0).cells (n * 1)).toList = List.replicate n (Value.int K 0) := by
  apply List.ext_getElem?
  intro j
  by_cases h : j < n
  · rw [made_get K n j h, List.getElem?_replicate, if_pos h]
  · rw [List.getElem?_eq_none (by rw [Array.length_toList, size_madeCells]; omega), List.getElem?_eq_none (by rw [List.length_replicate]; omega)]
/-- The block of a row that has just been made. -/
theorem made_heap {W : World} {B g n : Nat} {T : TypeId} {K : IntKind} (h : W.ownsRow B T 1 (.slice (some ⟨g, 0, none⟩) n n) n (madeCells (Value.int K 0).cells (n * 1)).toList) : W.heap[g]? = some (.cells (List.replicate n (Value.int K 0)).toArray T (0, 0)) := by
  obtain ⟨hl, h⟩ := h
  rcases h with ⟨h, _⟩ | ⟨g', cap', cur, hv, hb, hg, h1, h2, h3, h4⟩
  · injection h with h; cases h
  · injection hv with e1 _ e2
    injection e1 with e1
    injection e1 with e1
    subst e1 e2
    rw [hg]
    have hcur : cur.toList = List.replicate n (Value.int K 0) := by
      rw [← made_list K n, ← h4, List.take_of_length_le (by rw [Array.length_toList, h3]; omega)]
    rw [← hcur]

theorem copy_src {W : World} {A : Option Addr} {k g : Nat} {p : List Nat} (h : Rl W .u8 A k p) : 0 < (els p).length → (some (⟨g, 0, none⟩ : Addr) = some ⟨g, 0, none⟩) ∧ ∃ ad, A = some ad ∧ ∀ j v, (els p)[j]? = some v → W.cell? (ad.add j) = some v := by
  intro h0
  rw [els_len] at h0
  have hl := h.len
  obtain ⟨a, e, hg, hc⟩ := h.row (by omega)
  refine ⟨rfl, _, e, fun j v hv => ?_⟩
  rw [add_head, hc j (by have := (els_get hv).1; omega), (els_get hv).2]
end Go.Proofs.Ytljaabmemjehpaa
namespace Go.Proofs.Ytljaabmemjehpaa
open Go.RowKit Go.Joins
set_option linter.unusedVariables false





end Go.Proofs.Ytljaabmemjehpaa
