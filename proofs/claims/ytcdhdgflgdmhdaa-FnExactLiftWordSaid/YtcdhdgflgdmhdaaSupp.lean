/- The matrix of a word: the program's. -/
import Derived.Test.YtcdhdgflgdmhdaaWords
import Derived.Test.YtcdhdgflgdmhdaaGrid
import Derived.Deep.MidRow
namespace Go.Proofs.Ytcdhdgflgdmhdaa
open Go.RowKit Go.Joins
set_option linter.unusedVariables false

/-- A function of a word that returns a matrix, with ErrInvalid and ErrRange first. -/
def fW (d p : Int) (zs : List Int) (c : Nat → List Nat → Nat) (L : Nat → List Nat → List Nat) : Int × List Int × Int :=
  if fldI d p = false then (0, [], 1) else if okW (2 ^ d.toNat) zs = false then (0, [], 2) else (((c d.toNat (nats zs) : Nat) : Int), ints (L d.toNat (nats zs)), 0)
theorem fW_A {d p : Int} {zs : List Int} {c L} (h : fldI d p = false) : fW d p zs c L = (0, [], 1) := by simp [fW, h]
theorem fW_B {m P n : Nat} (hF : Fld m P n) {zs : List Int} {c L} (h : okW n zs = false) : fW m P zs c L = (0, [], 2) := by
  rw [fW, if_neg (by rw [fldI_of hF.f]; simp), Int.toNat_natCast, hF.n, if_pos h]
theorem fW_C {m P n : Nat} (hF : Fld m P n) {zs : List Int} {c L} (h : okW n zs = true) : fW m P zs c L = (((c m (nats zs) : Nat) : Int), ints (L m (nats zs)), 0) := by
  rw [fW, if_neg (by rw [fldI_of hF.f]; simp), Int.toNat_natCast, hF.n, if_neg (by rw [h]; simp)]

theorem gridC_one (L : List Nat) (c : Int) : (gridC L c).all (·.oneCell') = true := Array.all_eq_true_iff_forall_mem.2 (fun v hv => by
  simp [gridC] at hv
  rcases hv with rfl | rfl | rfl | rfl | rfl | rfl | rfl | rfl | rfl | rfl | rfl | rfl <;> rfl)
theorem gridV_load {ops : Array Oper} {rest : List Oper} {op : Oper} {a : Act} {w : World} {Q : Exit → Act → World → Prop} (hgd : op.guard = none) (x : Operand) (ho : op.op = .load 97 x)
    (q : Nat) (L : List Nat) (c : Int) (hx : a.eval x = .pointer (some ⟨q, 0, none⟩)) (hA : GAt w q L c) (h : wpList Try.prog ops Q rest (a.put op.dst (.agg (gridC L c))) w) : wpList Try.prog ops Q (op :: rest) a w :=
  wpList_load_mid hgd 97 x ho q 0 hx (gridC L c).toList _ hA.range Try.underlying97 rfl Try.infoG h
theorem gridV_store {ops : Array Oper} {rest : List Oper} {op : Oper} {a : Act} {w : World} {Q : Exit → Act → World → Prop} (hgd : op.guard = none) (x y : Operand) (ho : op.op = .store 97 x y)
    (q : Nat) (L : List Nat) (c : Int) (hx : a.eval x = .pointer (some ⟨q, 0, none⟩)) (hy : a.eval y = .agg (gridC L c)) (hR : Room w q) (hl : L.length ≤ 10) (hr : ∀ j, nth L j < 4294967296) (h : ∀ W2, Hid (GAt W2 q L c) → Hid (Only q w W2) → wpList Try.prog ops Q rest (a.put op.dst undef) W2) : wpList Try.prog ops Q (op :: rest) a w :=
  wpList_store_mid hgd 97 x y ho q 0 (gridC L c) hx hy hR.there Try.infoG (gridC_one L c) (h _ (Lib.hid (GAt.store hR L c hl hr)) (Lib.hid (Only.setCells _ _ _ (Only.refl _ _))))

end Go.Proofs.Ytcdhdgflgdmhdaa
