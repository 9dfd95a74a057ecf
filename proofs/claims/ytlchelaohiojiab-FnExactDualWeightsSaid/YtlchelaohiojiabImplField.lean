/- The reference model's degree and prest of polynomials: what the two functions return. · The program's degree and prest of polynomials: what the two functions return. · The program's iterator over the polynomials of a degree. · The reference model's irreducible polynomials and fields: what its functions return. · The program's irreducible polynomials: what its function returns. · The reference model's fields: what its functions return. · The program's fields: what its test returns. -/
import Derived.Test.YtlchelaohiojiabFld
import Derived.Test.YtlchelaohiojiabIn
import Derived.WalkKit
import Derived.WalkLawsBesides
import Derived.WalkSpells
import Derived.Lib.Hide
import Derived.Laws.BitsAllLaws
import Derived.Test.YtlchelaohiojiabShelf
import Derived.RangeFuncNested
import Derived.RangeFuncBound
import Derived.RangeFuncCalls
import Derived.RangeFuncLeaves
import Derived.RangeFuncBox
import Derived.Shelf.Abstract
import Derived.Shelf.RegionOpen
import Derived.OwnWalkIn
import Derived.TacticsInMore
import Derived.LoopNIn
import Derived.LoopIn
import Derived.RangeFuncFrom
import Derived.Deep.QuietTactic
import Derived.BigQuiet
import Derived.Deep.RegionHeld3
namespace Go.Proofs.Ytlchelaohiojiab
open Go.RowKit
set_option linter.unusedVariables false


theorem step_bits (r q : Nat) (hq0 : 0 < q) (hr : r < 1048576) (h : nb q ≤ nb r) : bits .xor .i64 (r : Int) (wrap64 ((q : Int) * 2 ^ ((nb r : Int) - 1 - ((nb q : Int) - 1)).toNat)) = ((stepp r q : Nat) : Int) := by
  have e : ((nb r : Int) - 1 - ((nb q : Int) - 1)).toNat = nb r - nb q := by omega
  rw [e]
  have h1 := nb_lt (p := q)
  have h2 : q * 2 ^ (nb r - nb q) < 2 ^ 20 := by
    have hb : nb r ≤ 20 := nb_le_of_lt (by omega)
    calc q * 2 ^ (nb r - nb q) < 2 ^ nb q * 2 ^ (nb r - nb q) := Nat.mul_lt_mul_of_pos_right h1 (Nat.two_pow_pos _)
      _ = 2 ^ nb r := by rw [← Nat.pow_add]; congr 1; omega
      _ ≤ 2 ^ 20 := Nat.pow_le_pow_right (by omega) hb
  rw [shl_nat _ _ (by omega), i64_xor_nat _ _ (by omega) (by omega)]
  rfl


end Go.Proofs.Ytlchelaohiojiab
namespace Go.Proofs.Ytlchelaohiojiab
open Go.RowKit
set_option linter.unusedVariables false



end Go.Proofs.Ytlchelaohiojiab
namespace Go.Proofs.Ytlchelaohiojiab
open Go.RowKit Go.Shelf
attribute [local go_sem] Oper.semAt_some
set_option linter.unusedVariables false

/-- The polynomials of the degree h, as many as k of them. -/
abbrev PolyOf (h : Nat) := { x : Nat // 2 ^ h ≤ x ∧ x < 2 * 2 ^ h }
def polyAt (h k : Nat) (hk : k < 2 ^ h) : PolyOf h := ⟨2 ^ h + k, by omega⟩
def polys (h : Nat) : Nat → List (PolyOf h)
  | 0 => []
  | k + 1 => if hk : k < 2 ^ h then polys h k ++ [polyAt h k hk] else polys h k
theorem polys_succ {h k : Nat} (hk : k < 2 ^ h) : polys h (k + 1) = polys h k ++ [polyAt h k hk] := by simp [polys, hk]
theorem polys_length {h : Nat} : ∀ k, k ≤ 2 ^ h → (polys h k).length = k := by
  intro k
  induction k with
  | zero => intro _; rfl
  | succ k ih => intro hk; rw [polys_succ (by omega)]; simp [ih (by omega)]
theorem polys_mem {h : Nat} : ∀ k, k ≤ 2 ^ h → ∀ d : PolyOf h, d.1 < 2 ^ h + k → d ∈ polys h k := by
  intro k
  induction k with
  | zero => intro _ d hd; have := d.2; omega
  | succ k ih =>
    intro hk d hd
    rw [polys_succ (by omega)]
    by_cases e : d.1 = 2 ^ h + k
    · exact List.mem_append.2 (.inr (by have : d = polyAt h k (by omega) := Subtype.ext e; simp [this]))
    · exact List.mem_append.2 (.inl (ih (by omega) d (by omega)))




end Go.Proofs.Ytlchelaohiojiab
namespace Go.Proofs.Ytlchelaohiojiab
open Go.RowKit
set_option linter.unusedVariables false

theorem noDiv_succ (p q : Nat) (h : noDiv p q = true) (hr : prest p q ≠ 0) : noDiv p (q + 1) = true := by
  simp [noDiv, h, hr]
theorem irr_false_of_nb {p : Nat} (h : nb p < 2 ∨ 6 < nb p) : irr p = false := by
  cases hc : irr p with
  | false => rfl
  | true => have := irr_nb hc; omega

theorem nb_two {p : Nat} (h : 2 ≤ nb p) : 2 ≤ p := by
  rcases Nat.lt_or_ge p 2 with h' | h'
  · have : nb p ≤ 1 := nb_le_of_lt h'
    omega
  · exact h'


/-- Whether a number is an irreducible polynomial. -/
def irrI (p : Int) : Bool := decide (0 < p) && decide (p < 64) && irr p.toNat

end Go.Proofs.Ytlchelaohiojiab
namespace Go.Proofs.Ytlchelaohiojiab
open Go.RowKit Go.Shelf
attribute [local go_sem] Oper.semAt_some
set_option linter.unusedVariables false

theorem noDiv_iff (p : Nat) : ∀ q, noDiv p q = true ↔ ∀ d, 2 ≤ d → d < q → prest p d ≠ 0 := by
  intro q
  induction q with
  | zero => simp [noDiv]
  | succ q ih =>
    simp only [noDiv, Bool.and_eq_true, ih, Bool.or_eq_true, decide_eq_true_eq, bne_iff_ne]
    constructor
    · rintro ⟨h1, h2⟩ d hd hq
      by_cases e : d = q
      · subst e; exact h2.resolve_left (by omega)
      · exact h1 d hd (by omega)
    · intro h
      refine ⟨fun d hd hq => h d hd (by omega), ?_⟩
      by_cases h2 : q < 2
      · exact .inl h2
      · exact .inr (h q (by omega) (by omega))
theorem noDiv_yes {p q : Nat} (h : ∀ d, 2 ≤ d → d < q → prest p d ≠ 0) : noDiv p q = true := (noDiv_iff p q).2 h
theorem noDiv_no {p q d : Nat} (hd : 2 ≤ d) (hq : d < q) (h : prest p d = 0) : noDiv p q = false := by
  cases e : noDiv p q with
  | false => rfl
  | true => exact absurd h ((noDiv_iff p q).1 e d hd hq)
theorem irr_d1 : ∀ p : Fin 64, nb p.val = 2 → irr p.val = true := by decide +kernel
theorem irr_d2 : ∀ p : Fin 64, nb p.val = 3 → irr p.val = noDiv p.val 4 := by decide +kernel
theorem irr_d3 : ∀ p : Fin 64, nb p.val = 4 → irr p.val = noDiv p.val 4 := by decide +kernel
theorem irr_d4 : ∀ p : Fin 64, nb p.val = 5 → irr p.val = noDiv p.val 8 := by decide +kernel
theorem irr_d5 : ∀ p : Fin 64, nb p.val = 6 → irr p.val = noDiv p.val 8 := by decide +kernel
theorem cell_of_box {W : World} {B : Nat} {v : Value} {t : TypeId} (h : W.heap[B]? = some (.cells #[v] t (0, 0))) : W.cell? ⟨B, 0, none⟩ = some v ∧ W.frozen? ⟨B, 0, none⟩ = false := by
  constructor <;> simp [World.cell?, World.frozen?, h]
theorem cell_new_l (W : World) (v : Value) (t : TypeId) : (W.alloc (.cells #[v] t)).cell? ⟨W.heap.size, 0, none⟩ = some v ∧ (W.alloc (.cells #[v] t)).frozen? ⟨W.heap.size, 0, none⟩ = false :=
  cell_of_box (World.alloc_heap_new W _)
theorem cell_alloc_l {W : World} {a : Addr} {v : Value} (o : Obj) (h : W.cell? a = some v) : (W.alloc o).cell? a = some v := cell_kept h (World.grownBy_alloc W o none) (fun r e => by cases e)
theorem frozen_alloc_l {W : World} {a : Addr} {v : Value} (o : Obj) (h : W.cell? a = some v) (hf : W.frozen? a = false) : (W.alloc o).frozen? a = false := (frozen_kept h (World.grownBy_alloc W o none) (fun r e => by cases e)).trans hf
theorem ownFrom_heap {β : Type} {B D : Nat} {o : Obj} (h : D < B) : OwnFrom B (fun (_ : β) (W : World) => W.heap[D]? = some o) := by
  intro s W W' row hs hg hr
  refine (hg.block D (Array.getElem?_eq_some_iff.1 hs).1 ?_).trans hs
  intro e
  have := (hr D e.symm).1
  omega



/-- How a number that may be negative counts: its bits as an unsigned number. -/
theorem nb_neg {p : Int} (h : p < 0) (hl : -9223372036854775808 ≤ p) : 63 < nb (p % 18446744073709551616).toNat := by
  have h1 : 2 ^ 63 ≤ (p % 18446744073709551616).toNat := by omega
  rcases Nat.lt_or_ge 63 (nb (p % 18446744073709551616).toNat) with h2 | h2
  · exact h2
  · have := nb_lt (p := (p % 18446744073709551616).toNat)
    have : 2 ^ nb (p % 18446744073709551616).toNat ≤ 2 ^ 63 := Nat.pow_le_pow_right (by omega) h2
    omega
theorem nb_big {p : Nat} (h : 64 ≤ p) : 6 < nb p := by
  rcases Nat.lt_or_ge 6 (nb p) with h2 | h2
  · exact h2
  · have := nb_lt (p := p)
    have : 2 ^ nb p ≤ 2 ^ 6 := Nat.pow_le_pow_right (by omega) h2
    omega



end Go.Proofs.Ytlchelaohiojiab
namespace Go.Proofs.Ytlchelaohiojiab
open Go.RowKit
set_option linter.unusedVariables false

theorem bcell {W w1 : World} (hb : Below W.heap.size W w1) : (∀ b o, b < W.heap.size → w1.cell? ⟨b, o, none⟩ = W.cell? ⟨b, o, none⟩) ∧ (∀ b o, b < W.heap.size → w1.frozen? ⟨b, o, none⟩ = W.frozen? ⟨b, o, none⟩) :=
  ⟨fun b o h => hb.cell (p := ⟨b, o, none⟩) h, fun b o h => hb.frozen (p := ⟨b, o, none⟩) h⟩

/-- Whether a degree and a polynomial are a field. -/
def fldI (d p : Int) : Bool := irrI p && decide ((nb p.toNat : Int) - 1 = d)
theorem irrI_nat {p : Int} (h : irrI p = true) : ∃ n : Nat, p = n ∧ irr n = true ∧ n < 64 := by
  unfold irrI at h
  simp at h
  exact ⟨p.toNat, by omega, h.2, by omega⟩
theorem fldI_nat {d p : Int} (h : fldI d p = true) : ∃ m P : Nat, d = m ∧ p = P ∧ fld m P = true := by
  unfold fldI at h
  simp only [Bool.and_eq_true, decide_eq_true_eq] at h
  obtain ⟨n, rfl, hi, hn⟩ := irrI_nat h.1
  have hb := irr_nb hi
  refine ⟨nb n - 1, n, ?_, rfl, ?_⟩
  · have := h.2; simp at this; omega
  · unfold fld; rw [hi]; simp; omega
theorem fldI_of {m P : Nat} (h : fld m P = true) : fldI m P = true := by
  have h1 := fld_irr h
  have h2 := fld_nb h
  have h3 := irr_lt h1
  unfold fldI irrI
  simp [h1]; omega



end Go.Proofs.Ytlchelaohiojiab
namespace Go.Proofs.Ytlchelaohiojiab
open Go.RowKit
set_option linter.unusedVariables false


end Go.Proofs.Ytlchelaohiojiab
