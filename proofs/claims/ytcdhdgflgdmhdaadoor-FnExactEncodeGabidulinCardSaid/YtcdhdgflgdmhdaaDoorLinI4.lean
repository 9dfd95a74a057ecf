/- The program's lists of coefficients: without zeros at the end, as numbers, values. · The program's lists of coefficients: multiples, composed, sums. · The program's lists of coefficients: sums, made of numbers; what linearFor and linearsFor return. · The program's linear polynomials: made of numbers; what linearFor and linearsFor return. -/
import Derived.Test.YtcdhdgflgdmhdaaDoorWr
import Derived.Test.YtcdhdgflgdmhdaaDoorDivPure
import Derived.Test.YtcdhdgflgdmhdaaDoorSqr
import Derived.Test.YtcdhdgflgdmhdaaDoorInfoE
import Derived.Test.YtcdhdgflgdmhdaaDoorElemsOf
import Derived.Laws.CopyOwn
namespace Go.Proofs.YtcdhdgflgdmhdaaDoor
open Go.RowKit Go.Joins
set_option linter.unusedVariables false



set_option maxHeartbeats 1600000 in
theorem value_any (c m P n : Nat) (hF : Fld m P n) (A : Option Addr) (k cap : Nat) (p : List Nat) (hp : ∀ j, nth p j < n) (x : Nat) (hx : x < n) (hk : k ≤ 1048577) (w : World) (hC : Calc c m P n w) (hR : Rl w .u8 A k p) :
    Calls Tryd.prog 56 #[.pointer (some ⟨c, 0, none⟩), .slice A k cap, .int .u8 x] w fun e w' => e = .returned (.int .u8 (vl P p x)) ∧ w = w' := by
  have h32 := hF.n32
  have HP := Lib.hid hp
  have HR := Lib.hid hR
  clear hp hR
  obtain ⟨r, hr⟩ : ∃ r, vl P p x = r := ⟨_, rfl⟩
  rw [hr]
  have HV := Lib.hid hr
  clear hr
  go_enter Tryd.func56, Tryd.ntmps56
  go_wp2
  go_loop [2, 7, 12] (fun y s i => ∃ j a b : Nat, j ≤ k ∧ i = .int .i64 j ∧ y = .int .u8 a ∧ s = .int .u8 b ∧ a < n ∧ b < n ∧ Hid (a = sq P x j) ∧ Hid (b = vlk P p x j)) (fun _ _ i => k - (intOf i).toNat)
  case atStart => exact ⟨0, x, 0, Nat.zero_le _, rfl, rfl, rfl, hx, by omega, Lib.hid rfl, Lib.hid rfl⟩
  case round =>
    obtain ⟨j, a, b, hj, rfl, rfl, rfl, ha, hb, HA, HS⟩ := hrel
    by_cases hlt : j < k
    · obtain ⟨g, rfl, hg, hc⟩ := HR.out.row (by omega)
      have hck := hc j hlt
      clear hc
      have hq := HP.out j
      obtain ⟨q, hqe⟩ : ∃ q, nth p j = q := ⟨_, rfl⟩
      rw [hqe] at hck hq
      have HQ := Lib.hid hqe
      clear hqe
      have hm := hF.mul_lt q a
      have hsq := hF.mul_lt a a
      go_wp2_with (first | (go_at_call 69; refine (product_any c m P n hF _ _ hq ha _ hC).mono ?_; rintro e w' ⟨rfl, rfl⟩) | (go_at_call 68; refine (ePlus_any _ _ (by omega) (by omega) _).mono ?_; rintro e w' ⟨rfl, rfl⟩) | (go_at_call 70; refine (squared_any c m P n hF _ ha 1 (by omega) _ hC).mono ?_; rintro e w' ⟨rfl, rfl⟩))
      go_round
      case rel => exact ⟨j + 1, _, _, by omega, by go_num, rfl, rfl, sq_lt hF ha 1, hF.xor_lt hb hm, Lib.hid (by rw [HA.out]; rfl), Lib.hid (by rw [HS.out, ← HQ.out, HA.out]; rfl)⟩
      case measure => simp [intOf]; omega
    · obtain rfl : j = k := by omega
      go_wp2
      go_ret
      exact ⟨ret_int (by rw [← HV.out, HS.out, vl, HR.out.len]), rfl⟩

end Go.Proofs.YtcdhdgflgdmhdaaDoor
namespace Go.Proofs.YtcdhdgflgdmhdaaDoor
open Go.RowKit Go.Joins
set_option linter.unusedVariables false

theorem Rl.drewN {W : World} {K : IntKind} {A : Option Addr} {n : Nat} {p : List Nat} (h : Rl W K A n p) (k : Nat) : Rl (W.drewN k) K A n p := h.same rfl
theorem Wr.drewN {W : World} {K : IntKind} {g n : Nat} {f : Nat → Nat} (h : Wr W K g n f) (k : Nat) : Wr (W.drewN k) K g n f := h.same rfl


end Go.Proofs.YtcdhdgflgdmhdaaDoor
namespace Go.Proofs.YtcdhdgflgdmhdaaDoor
open Go.RowKit Go.Joins
set_option linter.unusedVariables false

/-- The cells of a row of elements. -/
def els (p : List Nat) : List Value := p.map fun (x : Nat) => Value.int .u8 (x : Int)
theorem els_len (p : List Nat) : (els p).length = p.length := by simp [els]
theorem els_get {p : List Nat} {j : Nat} {v : Value} (h : (els p)[j]? = some v) : j < p.length ∧ v = .int .u8 (nth p j : Nat) := by
  have hj : j < p.length := by
    have := (List.getElem?_eq_some_iff.1 h).1
    rwa [els_len] at this
  refine ⟨hj, ?_⟩
  rw [nth_eq hj]
  simp [els, List.getElem?_eq_getElem hj] at h
  exact h.symm
theorem els_one (p : List Nat) : ∀ v ∈ els p, v.oneCell' = true := by
  intro v hv
  obtain ⟨x, _, rfl⟩ := List.mem_map.1 hv
  rfl
theorem add_head (g j : Nat) : (⟨g, 0, none⟩ : Addr).add j = ⟨g, j, none⟩ := by
  unfold Addr.add
  split
  · subst_vars; rfl
  · simp
/-- A row that has been made, onto which p has been copied. -/
theorem wr_copied {W : World} {g N : Nat} {T : TypeId} {p : List Nat} (hp : p.length ≤ N) (hg : W.heap[g]? = some (.cells (Go.splice (List.replicate N (Value.int .u8 0)) 0 (els p)).toArray T (0, 0))) : Wr W .u8 g N (nth p) := by
  have hlt : g < W.heap.size := by
    rcases Nat.lt_or_ge g W.heap.size with h | h
    · exact h
    · rw [Array.getElem?_eq_none h] at hg; cases hg
  have hc : ∀ j, W.cell? ⟨g, j, none⟩ = (Go.splice (List.replicate N (Value.int .u8 0)) 0 (els p))[j]? := by
    intro j
    rw [(cell_of_cells (x := j) hg).1]
    simp
  refine ⟨fun j hj => ?_, fun j => (cell_of_cells (x := j) hg).2, hlt⟩
  rw [hc, Go.splice]
  simp only [List.take_zero, List.nil_append, Nat.zero_add]
  by_cases e : j < p.length
  · rw [List.getElem?_append_left (by rw [els_len]; exact e), List.getElem?_eq_getElem (by rw [els_len]; exact e)]
    have := els_get (List.getElem?_eq_getElem (show j < (els p).length by rw [els_len]; exact e))
    rw [this.2]
  · rw [List.getElem?_append_right (by rw [els_len]; omega), els_len, List.getElem?_drop, List.getElem?_replicate, if_pos (by omega), nth_ge (by omega)]
    rfl
theorem made_list (K : IntKind) (n : Nat) : (madeCells (Value.int K 0).cells (n * 1)).toList = List.replicate n (Value.int K 0) := by
  apply List.ext_getElem?
  intro j
  by_cases h : j < n
  · rw [made_get K n j h, List.getElem?_replicate, if_pos h]
  · rw [List.getElem?_eq_none (by rw [Array.length_toList, size_madeCells]; omega), List.getElem?_eq_none (by rw [List.length_replicate]; omega)]
/-- The block of a row that has just been made. -/
theorem made_heap {W : World} {B g n : Nat} {T : TypeId} {K : IntKind} (h : W.ownsRow B T 1 (.slice (some ⟨g, 0, none⟩) n n) n (madeCells (Value.int K 0).cells (n * 1)).toList) : W.heap[g]? = some (.cells (List.replicate n (Value.int K 0)).toArray T (0, 0)) := by
  obtain ⟨hl, h⟩ := h
  rcases h with ⟨h, _⟩ | ⟨g', cap', cur, hv, hb, hg, h1, h2, h3, h4⟩
  · injection h with h; cases h
  · injection hv with e1 _ e2
    injection e1 with e1
    injection e1 with e1
    subst e1 e2
    rw [hg]
    have hcur : cur.toList = List.replicate n (Value.int K 0) := by
      rw [← made_list K n, ← h4, List.take_of_length_le (by rw [Array.length_toList, h3]; omega)]
    rw [← hcur]

theorem copy_src {W : World} {A : Option Addr} {k g : Nat} {p : List Nat} (h : Rl W .u8 A k p) : 0 < (els p).length → (some (⟨g, 0, none⟩ : Addr) = some ⟨g, 0, none⟩) ∧ ∃ ad, A = some ad ∧ ∀ j v, (els p)[j]? = some v → W.cell? (ad.add j) = some v := by
  intro h0
  rw [els_len] at h0
  have hl := h.len
  obtain ⟨a, e, hg, hc⟩ := h.row (by omega)
  refine ⟨rfl, _, e, fun j v hv => ?_⟩
  rw [add_head, hc j (by have := (els_get hv).1; omega), (els_get hv).2]
/-- 'copy(sum, p)': p laid over the head of a row that has been made. -/
theorem copy_step {w w1 : World} {A : Option Addr} {g k ca N : Nat} {p : List Nat} (hkp : p.length = k) (hN : k ≤ N) (hb : Below g w w1) (hG : w1.heap[g]? = some (.cells (List.replicate N (Value.int .u8 0)).toArray 73 (0, 0))) (hR : Rl w1 .u8 A k p)
    {ops : Array Oper} {rest : List Oper} {o : Oper} {a : Act} {Q : Exit → Act → World → Prop} {d s : Operand} (hgd : o.guard = none) (ho : o.op = .call { callee := .builtin .copy, args := #[d, s], argTypes := #[93, 93] }) (hd : a.eval d = .slice (some ⟨g, 0, none⟩) N N) (hs : a.eval s = .slice A k ca) (h : ∀ w', Hid (Wr w' .u8 g N (nth p)) → Hid (Below g w w') → wpList Tryd.prog ops Q rest (a.put o.dst (.int .i64 p.length)) w') : wpList Tryd.prog ops Q (o :: rest) a w1 :=
  wpList_copy_splice hgd _ _ 93 93 ho 73 Tryd.underlying93 (by kernel_rfl) (some ⟨g, 0, none⟩) A N N k ca hd hs g 0 (List.replicate N (Value.int .u8 0)) 73 hG (els p) (by rw [els_len, hkp]; show _ = min _ _; omega) (copy_src hR) (by rw [els_len, List.length_replicate]; omega) (els_one p) g w hb (Nat.le_refl _) (fun w' h1 h2 => by
    have h3 := h w' (Lib.hid (wr_copied (p := p) (by omega) h1.out)) (Lib.hid h2)
    rw [← els_len] at h3
    exact h3)
end Go.Proofs.YtcdhdgflgdmhdaaDoor
namespace Go.Proofs.YtcdhdgflgdmhdaaDoor
open Go.RowKit Go.Joins
set_option linter.unusedVariables false





end Go.Proofs.YtcdhdgflgdmhdaaDoor
