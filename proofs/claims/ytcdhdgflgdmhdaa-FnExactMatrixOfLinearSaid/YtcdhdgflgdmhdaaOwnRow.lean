/- Rows that a call owns: kept behind another call. -/
import Derived.Test.YtcdhdgflgdmhdaaMakeArgs
import Derived.Test.YtcdhdgflgdmhdaaRow
namespace Go.Proofs.Ytcdhdgflgdmhdaa
open Go.RowKit Go.Joins
set_option linter.unusedVariables false

theorem Try.infoI' : (Try.prog.info? 2).map (fun i => (i.zero, i.size, i.bytes)) = some (some (.int .i64 0), 1, 8) := by kernel_rfl

theorem Calc.at3 {c m P n B : Nat} {W W' : World} (h : Calc c m P n W) (hc : c < B) (hb : Below B W W') : Calc c m P n W' :=
  ⟨(hb.cell (p := ⟨c, 0, none⟩) hc).trans h.deg, fun a b ha hb' => (hb.cell (p := ⟨c, 1 + a * 32 + b, none⟩) hc).trans (h.tab a b ha hb')⟩
theorem ownsRow_below {W W' : World} {B s n : Nat} {e : TypeId} {v : Value} {xs : List Value} (h : W.ownsRow B e s v n xs) (hb : Below W.heap.size W W') : W'.ownsRow B e s v n xs := by
  obtain ⟨h1, h2⟩ := h
  refine ⟨h1, ?_⟩
  rcases h2 with h2 | ⟨g, cap, cur, hv, hg, hh, r⟩
  · exact .inl h2
  · refine .inr ⟨g, cap, cur, hv, hg, ?_, r⟩
    have hlt : g < W.heap.size := by
      rcases Nat.lt_or_ge g W.heap.size with q | q
      · exact q
      · rw [Array.getElem?_eq_none q] at hh; cases hh
    rw [hb.block g hlt]; exact hh

end Go.Proofs.Ytcdhdgflgdmhdaa
