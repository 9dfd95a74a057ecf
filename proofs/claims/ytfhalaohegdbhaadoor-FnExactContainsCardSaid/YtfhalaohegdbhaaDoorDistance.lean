/- Spaces put together: when nothing is added. Pure, of no program. · Two spaces: what functions of them return first; the model's distance. -/
import Derived.Test.YtfhalaohegdbhaaDoorColPure
import Derived.Test.YtfhalaohegdbhaaDoorBoth
import Derived.Test.YtfhalaohegdbhaaDoorSumS
namespace Go.Proofs.YtfhalaohegdbhaaDoor
set_option linter.unusedVariables false

theorem add_or (L : List Nat) (r : Nat) : add L r = L ∨ (add L r).length = L.length + 1 := by
  by_cases h : rest L r = 0
  · exact .inl (add_zero_rest h)
  · exact .inr (by rw [add_rest h, ins_len])
theorem joined_ge : ∀ (M L : List Nat), L.length ≤ (joined L M).length
  | [], L => Nat.le_refl _
  | r :: M, L => by
    have := joined_ge M (add L r)
    have e : joined L (r :: M) = joined (add L r) M := rfl
    rw [e]
    rcases add_or L r with h | h
    · rw [h] at this ⊢; exact this
    · omega
theorem joined_same : ∀ (M L : List Nat), (joined L M).length = L.length → joined L M = L
  | [], L, _ => rfl
  | r :: M, L, h => by
    have e : joined L (r :: M) = joined (add L r) M := rfl
    rw [e] at h ⊢
    rcases add_or L r with h1 | h1
    · rw [h1] at h ⊢; exact joined_same M L h
    · have := joined_ge M (add L r); omega
theorem joined_same_iff (L M : List Nat) : (joined L M).length = L.length ↔ joined L M = L := ⟨joined_same M L, fun h => by rw [h]⟩
theorem joined_append (L M : List Nat) : joined [] (L ++ M) = joined (joined [] L) M := List.foldl_append
end Go.Proofs.YtfhalaohegdbhaaDoor
namespace Go.Proofs.YtfhalaohegdbhaaDoor
open Go.RowKit Go.Joins
set_option linter.unusedVariables false

theorem both_cases (c : Int) (zs : List Int) (d : Int) (ys : List Int) :
    (both c zs d ys = 0 ∧ ∃ (C : Nat) (L M : List Nat), c = C ∧ d = C ∧ zs = ints L ∧ ys = ints M ∧ OkM C L ∧ OkM C M ∧ joined [] L = L ∧ joined [] M = M) ∨
    (both c zs d ys = 2 ∧ ∃ (C D : Nat) (L M : List Nat), c = C ∧ d = D ∧ zs = ints L ∧ ys = ints M ∧ OkM C L ∧ OkM D M ∧ joined [] L = L ∧ joined [] M = M ∧ ¬ C = D) ∨
    (both c zs d ys = 1 ∧ (isSp c zs = false ∨ isSp d ys = false)) := by
  cases hk : isSp c zs with
  | false => exact .inr (.inr ⟨both_no1 hk, .inl rfl⟩)
  | true =>
    cases hl : isSp d ys with
    | false => exact .inr (.inr ⟨both_no2 hl, .inr rfl⟩)
    | true =>
      obtain ⟨C, L, rfl, rfl, hO, hJ⟩ := isSp_yes hk
      obtain ⟨D, M, rfl, rfl, hP, hK⟩ := isSp_yes hl
      by_cases hcd : C = D
      · subst hcd
        exact .inl ⟨both_ok hk hl rfl, C, L, M, rfl, rfl, rfl, rfl, hO, hP, hJ, hK⟩
      · exact .inr (.inl ⟨both_range hk hl (by omega), C, D, L, M, rfl, rfl, rfl, rfl, hO, hP, hJ, hK, hcd⟩)

theorem Res.slen {W : World} {B T m cp : Nat} {ao : Option Addr} {xs : List Int} (h : Res W B T (.slice ao m cp) xs) : xs.length = m := by
  cases h with
  | nil => rfl
  | row g n cap xs h1 h2 h3 h4 h5 h6 h7 => exact h4
/-- The distance of two spaces. -/
def dist (L M : List Nat) : Int := 2 * ((joined L M).length : Nat) - (L.length : Nat) - (M.length : Nat)

set_option maxRecDepth 100000 in
set_option maxHeartbeats 1600000 in
theorem l02Distance_any (q C b cap : Nat) (L : List Nat) (hO : OkM C L) (hJ : joined [] L = L) (q' : Nat) (b' cap' : Nat) (M : List Nat) (hP : OkM C M) (w : World) (hS : Sp1 w q C b L.length cap (ints L)) (hT : Sp1 w q' C b' M.length cap' (ints M)) :
    Calls Tryd.prog 68 #[.pointer (some ⟨q, 0, none⟩), .pointer (some ⟨q', 0, none⟩)] w fun e w' => e = .returned (.int .i64 (dist L M)) ∧ Below w.heap.size w w' := by
  have hc10 := hO.c10
  have hl := hO.n10
  have hm := hP.n10
  have hLM : ∀ r ∈ L ++ M, r < 2 ^ C := fun r hr => (List.mem_append.1 hr).elim (hO.lt r) (hP.lt r)
  have S := l02Sum_any q C b cap L hc10 hO.lt hl q' C b' cap' M hP.lt hm w hS hT
  have hjl := joined_len hc10 hLM
  unfold dist
  rw [joined_append, hJ] at S hjl
  generalize joined L M = J at S hjl ⊢
  have HS := Lib.hid S
  have HSS := Lib.hid hS
  have HTT := Lib.hid hT
  clear S hLM hS hT hJ
  go_enter Tryd.func68, Tryd.ntmps68
  go_wp2_with fail
  refine HS.out.mono ?_
  rintro e w1 ⟨v, rfl, hb1, hR⟩
  obtain ⟨ao, m, cp, rfl⟩ := hR.form
  have hm2 := hR.slen
  rw [ints_length] at hm2
  subst hm2
  have hb2 := below_alloc1 w1 (.cells #[.int .i64 C, .slice ao J.length cp] 28)
  have hX := Box.one w1 (.int .i64 C) (.slice ao J.length cp) 28
  have hS2 := (HSS.out.below hb1).below hb2
  have hT2 := (HTT.out.below hb1).below hb2
  have q1 := hS2.m.c1; have r1 := hT2.m.c1; have x1 := hX.c1
  have HB := Lib.hid (hb1.trans (hb2.mono hb1.size))
  clear hR hb1 hb2 hS2 hT2 hX HS HSS HTT
  go_wp2_with fail
  generalize w1.alloc (.cells #[.int .i64 C, .slice ao J.length cp] 28) = W2 at q1 r1 x1 HB ⊢
  go_quiet (fail)
  go_wp2_with fail
  go_ret
  exact ⟨ret_int (by go_num), HB.out.trans (below_draws _ _ _)⟩
end Go.Proofs.YtfhalaohegdbhaaDoor
