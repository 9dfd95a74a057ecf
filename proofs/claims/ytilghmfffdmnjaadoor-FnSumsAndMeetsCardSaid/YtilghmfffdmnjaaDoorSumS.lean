/- A list copied and appended to: the model's own, with its block; 'append' as one step of a region. · Two spaces: the model's checks, their sum. · The sum of two spaces: the model's. -/
import Derived.Test.YtilghmfffdmnjaaDoorRankS
import Derived.Test.YtilghmfffdmnjaaDoorStep
import Derived.Test.YtilghmfffdmnjaaDoorSpaceS
import Derived.Deep.RegionHeldLaw
import Derived.Test.YtilghmfffdmnjaaDoorEchelonOf
import Derived.Test.YtilghmfffdmnjaaDoorKernelOf
namespace Go.Proofs.YtilghmfffdmnjaaDoor
open Go.RowKit Go.Joins
set_option linter.unusedVariables false

theorem OR.mk2 {W : World} {B : Nat} {T : TypeId} {v : Value} {n : Nat} {A : List Nat} (h : W.ownsRow B T 1 v n ((ints A).map (Value.int .i64))) (hn : v ≠ .slice none 0 0) : ∃ g cap, v = .slice (some ⟨g, 0, none⟩) A.length cap ∧ OR W B T g cap A := by
  have hl : A.length = n := by have := h.1; simpa [ints] using this
  rcases h.2 with ⟨h0, _⟩ | ⟨g, cap, cur, rfl, rest⟩
  · exact absurd h0 hn
  · subst hl
    exact ⟨g, cap, rfl, ⟨h.1, .inr ⟨g, cap, cur, rfl, rest⟩⟩⟩
theorem block_ne {a : Addr} {n c m : Nat} {v' : Value} (h : v' = .slice none 0 0 ↔ Value.slice (some a) n c = .slice none 0 0 ∧ m = 0) : v' ≠ .slice none 0 0 := fun e => by
  have := (h.1 e).1
  injection this with this
  cases this

set_option maxHeartbeats 1600000 in
theorem l00Own_or (b n cap : Nat) (L : List Nat) (w : World) (hM : Mt w b n (ints L)) :
    Calls Tryd.prog 66 #[.slice (some ⟨b, 0, none⟩) n cap] w fun e w' => ∃ g cap', e = .returned (.slice (some ⟨g, 0, none⟩) n cap') ∧ OR w' w.heap.size 2 g cap' L ∧ Below w.heap.size w w' := by
  obtain ⟨i0, hi, hz0, hz1, hz2⟩ := info_parts Tryd.infoI
  have hll := hM.len
  rw [ints_length] at hll
  subst hll
  have hs := hM.small
  have hown : (w.alloc (.cells #[] 2)).ownsRow w.heap.size 2 1 (.slice (some ⟨w.heap.size, 0, none⟩) 0 0) 0 [] := World.ownsRow_made w #[] 0 (Nat.le_refl _) (by unfold maxLen; omega) (by simp)
  have hM2 := hM.below (below_alloc1 w (.cells #[] 2))
  go_enter Tryd.func66, Tryd.ntmps66
  go_wp2_with (at_builtin; refine wpList_append_own _ rfl _ _ 24 rfl w.heap.size 2 i0 (.int .i64 0) 1 8 Tryd.underlying24 hi hz0 hz1 hz2 rfl (by decide) _ _ _ rfl hown ⟨b, 0, none⟩ L.length cap ((ints L).map (Value.int .i64)) rfl (by simp [ints]) (ints_news _ b _ L hM2) (ints_one L) (by unfold maxLen; omega) (by omega) (by simp) ?_; intro v' w3 hown' hgrow hnn; have hb3 : Below w.heap.size w w3 := ((below_alloc1 w _).grown hgrow (by simp) (fun g hg => (hown.lt g hg).1)); obtain ⟨g, cp, hv, hor⟩ := OR.mk2 (A := L) (by simpa using hown') (block_ne hnn))
  subst hv
  clear hown' hgrow hown hM2 hnn
  go_wp2_with fail
  go_ret
  exact ⟨_, _, rfl, hor, hb3⟩

theorem step_append_own3 {P : Program} {ops : Array Oper} {o : Oper} {a : Act} {w : World} {K : Act → World → Prop} {Q : Exit → Act → World → Prop} {E : Prop}
    (hg : o.guard = none) (s x : Operand) (t : TypeId) (hop : o.op = Op.call { callee := Callee.builtin Builtin.append, args := #[s, x], argTypes := #[t, t] })
    (base : Nat) (e : TypeId) (i : TypeInfo) (z : Value) (size bytes : Nat) (h1 : P.underlying t = some (.slice e)) (h2 : P.info? e = some i) (h3 : i.zero = some z) (h4 : i.size = size) (h5 : i.bytes = bytes) (h6 : z.cells.size = size) (h7 : 0 < size)
    (v : Value) (n : Nat) (xs : List Value) (hs : a.eval s = v) (hown : w.ownsRow base e size v n xs)
    (ad : Addr) (m c : Nat) (news : List Value) (hx : a.eval x = .slice (some ad) m c) (hl : news.length = m * size) (hnews : ∀ j u, news[j]? = some u → w.cell? (ad.add j) = some u) (h1c : ∀ u ∈ news, u.oneCell' = true)
    (b1 : n + m ≤ maxLen) (b2 : (n + m) * bytes ≤ 140737488355328) (b3 : base ≤ w.heap.size)
    (hK : ∀ v' w', w'.ownsRow base e size v' (n + m) (xs ++ news) → w.grownBy w' v.ownBlock → (v' = .slice none 0 0 ↔ v = .slice none 0 0 ∧ m = 0) → K (a.put o.dst v') w') :
    if Region.wanted o (yielded ops a.tmps) = true then Oper.wp P o a w K Q else E := by
  have hw : Region.wanted o (yielded ops a.tmps) = true := by simp [Region.wanted, hg]
  rw [if_pos hw]
  obtain ⟨v', w', hrun, r1, r2, r3⟩ := run_append_own (P := P) w base t o.type e i z size bytes h1 h2 h3 h4 h5 h6 h7 v n xs hown ad m c news hl hnews h1c b1 b2 b3
  unfold Oper.wp
  simp [execOp, hop, resolve, invoke, builtin, hs, hx, hrun, Result.andThen]
  exact hK v' w' r1 r2 r3
/-- Behind an append to a row of the call's own: all together, in a block of its own. -/
theorem OR.grown {w w' : World} {B g cp : Nat} {L M : List Nat} {v' : Value} {n m : Nat} (h : OR w B 2 g cp L) (hn : L.length = n) (hB : B ≤ w.heap.size)
    (hown : w'.ownsRow B 2 1 v' (n + m) ((ints L).map (Value.int .i64) ++ (ints M).map (Value.int .i64))) (hg : w.grownBy w' (Value.slice (some ⟨g, 0, none⟩) n cp).ownBlock)
    (hnn : v' = .slice none 0 0 ↔ Value.slice (some ⟨g, 0, none⟩) n cp = .slice none 0 0 ∧ m = 0) : (∃ g' cp', v' = .slice (some ⟨g', 0, none⟩) (L ++ M).length cp' ∧ OR w' B 2 g' cp' (L ++ M)) ∧ Below B w w' := by
  subst hn
  refine ⟨OR.mk2 (A := L ++ M) (n := L.length + m) (by rw [ints_append, List.map_append]; exact hown) (block_ne hnn), (Below.refl _ w).grown hg hB (fun g hg => (h.own.lt g hg).1)⟩
end Go.Proofs.YtilghmfffdmnjaaDoor
namespace Go.Proofs.YtilghmfffdmnjaaDoor
open Go.RowKit Go.Joins
set_option linter.unusedVariables false

/-- What a function of two spaces checks first. -/
def both (c : Int) (zs : List Int) (d : Int) (ys : List Int) : Int := if isSp c zs = true ∧ isSp d ys = true then (if c = d then 0 else 2) else 1

theorem both_no1 {c : Int} {zs : List Int} {d : Int} {ys : List Int} (h : isSp c zs = false) : both c zs d ys = 1 := by simp [both, h]
theorem both_no2 {c : Int} {zs : List Int} {d : Int} {ys : List Int} (h : isSp d ys = false) : both c zs d ys = 1 := by simp [both, h]
theorem both_range {c : Int} {zs : List Int} {d : Int} {ys : List Int} (h : isSp c zs = true) (k : isSp d ys = true) (hne : ¬ c = d) : both c zs d ys = 2 := by simp [both, h, k, hne]
theorem both_ok {c : Int} {zs : List Int} {d : Int} {ys : List Int} (h : isSp c zs = true) (k : isSp d ys = true) (he : c = d) : both c zs d ys = 0 := by rw [both, if_pos ⟨h, k⟩, if_pos he]

end Go.Proofs.YtilghmfffdmnjaaDoor
namespace Go.Proofs.YtilghmfffdmnjaaDoor
open Go.RowKit Go.Joins
set_option linter.unusedVariables false

theorem far {q p i j : Nat} (h : ¬ q = p) : ¬ (⟨p, i, none⟩ : Addr) = ⟨q, j, none⟩ := fun e => h (by injection e with e; exact e.symm)

end Go.Proofs.YtilghmfffdmnjaaDoor
