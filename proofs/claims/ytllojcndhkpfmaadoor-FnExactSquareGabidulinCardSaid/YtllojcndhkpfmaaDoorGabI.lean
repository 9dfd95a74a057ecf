/- Gabidulin codes that are valid: as numbers. · Whether a Gabidulin code is valid: the model's. · The coder of a Gabidulin code: the program's. -/
import Derived.Test.YtllojcndhkpfmaaDoorWRank
import Derived.Test.YtllojcndhkpfmaaDoorRankS
import Derived.Test.YtllojcndhkpfmaaDoorGab
import Derived.Test.YtllojcndhkpfmaaDoorWords
import Derived.Test.YtllojcndhkpfmaaDoorHeld
import Derived.Test.YtllojcndhkpfmaaDoorElemsOf
import Derived.Test.YtllojcndhkpfmaaDoorHasAll
import Derived.Test.YtllojcndhkpfmaaDoorMakeArgs
namespace Go.Proofs.YtllojcndhkpfmaaDoor
open Go.RowKit Go.Joins
set_option linter.unusedVariables false

/-- The points and the dimension of a Gabidulin code are right ones. -/
def gabB (n : Nat) (zs : List Int) (k : Int) : Bool := okW n zs && (decide ((joined [] (nats zs)).length = zs.length) && decide (1 ≤ k ∧ k ≤ zs.length))
theorem gabB_yes {n : Nat} {zs : List Int} {k : Int} (h : gabB n zs k = true) : okW n zs = true ∧ (joined [] (nats zs)).length = zs.length ∧ 1 ≤ k ∧ k ≤ zs.length := by
  simp only [gabB, Bool.and_eq_true, decide_eq_true_eq] at h; exact h
theorem gabB_no {n : Nat} {zs : List Int} {k : Int} (h : gabB n zs k = false) : okW n zs = false ∨ (okW n zs = true ∧ (joined [] (nats zs)).length ≠ zs.length) ∨ (okW n zs = true ∧ (joined [] (nats zs)).length = zs.length ∧ ¬ (1 ≤ k ∧ k ≤ zs.length)) := by
  by_cases h1 : okW n zs = true
  · by_cases h2 : (joined [] (nats zs)).length = zs.length
    · refine .inr (.inr ⟨h1, h2, fun h3 => ?_⟩)
      have : gabB n zs k = true := by simp only [gabB, Bool.and_eq_true, decide_eq_true_eq]; exact ⟨h1, h2, h3⟩
      rw [this] at h; cases h
    · exact .inr (.inl ⟨h1, h2⟩)
  · exact .inl (by simpa using h1)
theorem rank_le {m : Nat} {p : List Nat} (hp : ∀ r ∈ p, r < 2 ^ m) : (joined [] p).length ≤ m := (joined_spec p Ech.nil).1.len (joined_lt .nil (by simp) hp)
theorem joined_leX : ∀ (M L : List Nat), (joined L M).length ≤ L.length + M.length
  | [], L => by simp [joined]
  | r :: M, L => by
    have h1 : (add L r).length ≤ L.length + 1 := by
      by_cases h : rest L r = 0
      · rw [add_zero_rest h]; omega
      · rw [add_rest h, ins_len]; omega
    have h2 := joined_leX M (add L r)
    have h3 : joined L (r :: M) = joined (add L r) M := rfl
    rw [h3, List.length_cons]; omega
/-- What the program looks at, in its order. -/
theorem gabB_alt {m n : Nat} {zs : List Int} {k : Int} (hm : m ≤ 5) (hn : 2 ^ m = n) : gabB n zs k = false → allIn n zs = false ∨ (allIn n zs = true ∧ (k < 1 ∨ (zs.length : Int) < k)) ∨ (allIn n zs = true ∧ 1 ≤ k ∧ k ≤ zs.length ∧ (joined [] (nats zs)).length < zs.length) := by
  intro h
  cases hi : allIn n zs with
  | false => exact .inl rfl
  | true =>
    by_cases hk : k < 1 ∨ (zs.length : Int) < k
    · exact .inr (.inl ⟨rfl, hk⟩)
    · refine .inr (.inr ⟨rfl, by omega, by omega, ?_⟩)
      have hlt := lt_mem (nats_lt hi (by rw [← hn]; exact Nat.two_pow_pos m : 0 < n))
      rw [← hn] at hlt
      have hr := rank_le hlt
      have hl : (nats zs).length = zs.length := nats_length zs
      have hj : (joined [] (nats zs)).length ≤ (nats zs).length := by have := joined_leX (nats zs) []; simpa using this
      rcases gabB_no h with h1 | ⟨_, h1⟩ | ⟨_, _, h1⟩
      · have : zs.length < 1 ∨ 5 < zs.length := (okW_no h1).resolve_right (by rw [hi]; simp)
        omega
      · omega
      · omega
end Go.Proofs.YtllojcndhkpfmaaDoor
namespace Go.Proofs.YtllojcndhkpfmaaDoor
open Go.RowKit Go.Joins
set_option linter.unusedVariables false
set_option linter.unusedSimpArgs false

def gabF (d p : Int) (zs : List Int) (k : Int) : Bool := fldI d p && gabB (2 ^ d.toNat) zs k
theorem gabF_no {d p : Int} (h : fldI d p = false) (zs : List Int) (k : Int) : gabF d p zs k = false := by simp [gabF, h]
theorem gabF_yes {m P n : Nat} (hF : Fld m P n) (zs : List Int) (k : Int) : gabF m P zs k = gabB n zs k := by
  rw [gabF, fldI_of hF.f, Bool.true_and, Int.toNat_natCast, hF.n]
/-- What holds all along: the code lies where it lay, and its points. -/
structure GH (w : World) (q b len cap : Nat) (d p k : Int) (zs : List Int) (W : World) : Prop where
  x : Box4 W q (.int .i64 d) (.int .i64 p) (.slice (some ⟨b, 0, none⟩) len cap) (.int .i64 k)
  m : Mt W b len zs
  b : Below w.heap.size w W
section
variable {md : Region.Mode} {ops : Array Oper}
variable {P : Program} {Q : Exit → Act → World → Prop} {S : World → Prop}
theorem wpAnyS_stepG {n i : Nat} {o : Oper} {fuel : Nat} {listed : Array Bool} {a : Act} {w : World} (hr : Region.ready md ops listed = [i]) (h0 : ops[i]? = some o) (hw : Region.wanted o (yielded ops a.tmps) = true)
    (h : wpList P ops (Then Q fun a' w' => (i ≠ n → S w') ∧ wpAnyS P md ops Q S n fuel (listed.setIfInBounds i true) a' w') [{ o with guard := none }] a w) : wpAnyS P md ops Q S n (fuel + 1) listed a w := by
  refine wpAnyS_step hr h0 ?_
  have hw' : Region.wanted { o with guard := none } (yielded ops a.tmps) = true := by simp [Region.wanted]
  unfold wpList at h ⊢
  rw [if_pos hw'] at h
  rw [if_pos hw]
  exact h
theorem HeadInv.setC {n i : Nat} {listed : Array Bool} (inv : HeadInv md ops n listed) (hr : (Region.ready md ops listed).contains i = true) (hin : i < n) : HeadInv md ops n (listed.setIfInBounds i true) := inv.set (by simpa using hr) hin
end
theorem GH.next {w : World} {q b len cap : Nat} {d p k : Int} {zs : List Int} {W W' : World} (h : GH w q b len cap d p k zs W) (hb : Below W.heap.size W W') : GH w q b len cap d p k zs W' := ⟨h.x.next hb, h.m.below hb, h.b.trans (hb.mono h.b.size)⟩
set_option maxRecDepth 100000 in
set_option maxHeartbeats 6400000 in
theorem l05Ok_A (d p : Int) (hf : fldI d p = false) (q b len cap : Nat) (k : Int) (zs : List Int) (w : World) (hX : Box4 w q (.int .i64 d) (.int .i64 p) (.slice (some ⟨b, 0, none⟩) len cap) (.int .i64 k)) (hM : Mt w b len zs) :
    Calls Tryd.prog 12 #[.pointer (some ⟨q, 0, none⟩)] w fun e w' => e = .returned (.bool false) ∧ Below w.heap.size w w' := by
  have HF := Lib.hid (fun w => l01Ok_eq d p false hf w)
  have c0 := hX.c0; have c1 := hX.c1; have c2 := hX.c2; have c3 := hX.c3
  have F0 : GH w q b len cap d p k zs w.drew := ⟨hX.next (Below.refl _ w).drew, hM.below (Below.refl _ w).drew, (Below.refl _ w).drew⟩
  clear hX hM
  go_enter Tryd.func12, Tryd.ntmps12
  go_wp2_with fail
  refine wp_region_S (n := 38) (S := GH w q b len cap _ _ k zs) (by kernel_rfl) (by kernel_rfl) (by exact F0) (fun G inv hS => ?_)
  clear c0 c1 c2 c3 F0
  refine wpAnyS_take (i := 0) (v := ?_) G inv hS (by decide) rfl (by kernel_rfl) (by kernel_rfl) (fun _ _ _ h => h) (Or.inl ⟨by kernel_rfl, fun W hW => ?_⟩) (fun inv => ?_)
  rotate_left
  · have z0 := hW.x.c0
    have z1 := hW.x.c1
    have z2 := hW.x.c2
    have z3 := hW.x.c3
    go_simp
    try with_reducible rfl
  try simp only [Act.put, List.setIfInBounds_toArray, List.set_cons_zero, List.set_cons_succ]
  refine wpAnyS_take (i := 1) (v := ?_) G inv hS (by decide) rfl (by kernel_rfl) (by kernel_rfl) (fun _ _ _ h => h) (Or.inl ⟨by kernel_rfl, fun W hW => ?_⟩) (fun inv => ?_)
  rotate_left
  · have z0 := hW.x.c0
    have z1 := hW.x.c1
    have z2 := hW.x.c2
    have z3 := hW.x.c3
    go_simp
    try with_reducible rfl
  try simp only [Act.put, List.setIfInBounds_toArray, List.set_cons_zero, List.set_cons_succ]
  refine wpAnyS_take (i := 2) (v := ?_) G inv hS (by decide) rfl (by kernel_rfl) (by kernel_rfl) (fun _ _ _ h => h) (Or.inl ⟨by kernel_rfl, fun W hW => ?_⟩) (fun inv => ?_)
  rotate_left
  · have z0 := hW.x.c0
    have z1 := hW.x.c1
    have z2 := hW.x.c2
    have z3 := hW.x.c3
    go_simp
    try with_reducible rfl
  try simp only [Act.put, List.setIfInBounds_toArray, List.set_cons_zero, List.set_cons_succ]
  refine wpAnyS_take (i := 3) (v := ?_) G inv hS (by decide) rfl (by kernel_rfl) (by kernel_rfl) (fun _ _ _ h => h) (Or.inl ⟨by kernel_rfl, fun W hW => ?_⟩) (fun inv => ?_)
  rotate_left
  · have z0 := hW.x.c0
    have z1 := hW.x.c1
    have z2 := hW.x.c2
    have z3 := hW.x.c3
    go_simp
    try with_reducible rfl
  try simp only [Act.put, List.setIfInBounds_toArray, List.set_cons_zero, List.set_cons_succ]
  refine wpAnyS_step (i := 4) (by kernel_rfl) rfl ?_
  go_wp2_with (go_at_call 25; refine (HF.out _).mono ?_; rintro e w1 ⟨rfl, hb⟩)
  have hS := hS.next hb
  clear hb
  change (4 ≠ 38 → GH w q b len cap _ _ _ zs _) ∧ _
  refine ⟨fun _ => hS, ?_⟩
  have inv := HeadInv.setC (i := 4) inv (by kernel_rfl) (by decide)
  refine wpAnyS_take (i := 5) (v := ?_) G inv hS (by decide) rfl (by kernel_rfl) (by kernel_rfl) (fun _ _ _ h => h) (Or.inl ⟨by kernel_rfl, fun W hW => ?_⟩) (fun inv => ?_)
  rotate_left
  · have z0 := hW.x.c0
    have z1 := hW.x.c1
    have z2 := hW.x.c2
    have z3 := hW.x.c3
    go_simp
    try with_reducible rfl
  try simp only [Act.put, List.setIfInBounds_toArray, List.set_cons_zero, List.set_cons_succ]
  refine wpAnyS_take (i := 6) (v := undef) G inv hS (by decide) rfl (by kernel_rfl) (by kernel_rfl) (fun _ _ _ h => h) (Or.inr ⟨by kernel_rfl, rfl⟩) (fun inv => ?_)
  try simp only [Act.put, List.setIfInBounds_toArray, List.set_cons_zero, List.set_cons_succ]
  refine wpAnyS_take (i := 7) (v := undef) G inv hS (by decide) rfl (by kernel_rfl) (by kernel_rfl) (fun _ _ _ h => h) (Or.inr ⟨by kernel_rfl, rfl⟩) (fun inv => ?_)
  try simp only [Act.put, List.setIfInBounds_toArray, List.set_cons_zero, List.set_cons_succ]
  refine wpAnyS_take (i := 8) (v := undef) G inv hS (by decide) rfl (by kernel_rfl) (by kernel_rfl) (fun _ _ _ h => h) (Or.inr ⟨by kernel_rfl, rfl⟩) (fun inv => ?_)
  try simp only [Act.put, List.setIfInBounds_toArray, List.set_cons_zero, List.set_cons_succ]
  refine wpAnyS_take (i := 9) (v := undef) G inv hS (by decide) rfl (by kernel_rfl) (by kernel_rfl) (fun _ _ _ h => h) (Or.inr ⟨by kernel_rfl, rfl⟩) (fun inv => ?_)
  try simp only [Act.put, List.setIfInBounds_toArray, List.set_cons_zero, List.set_cons_succ]
  refine wpAnyS_take (i := 10) (v := undef) G inv hS (by decide) rfl (by kernel_rfl) (by kernel_rfl) (fun _ _ _ h => h) (Or.inr ⟨by kernel_rfl, rfl⟩) (fun inv => ?_)
  try simp only [Act.put, List.setIfInBounds_toArray, List.set_cons_zero, List.set_cons_succ]
  refine wpAnyS_take (i := 11) (v := undef) G inv hS (by decide) rfl (by kernel_rfl) (by kernel_rfl) (fun _ _ _ h => h) (Or.inr ⟨by kernel_rfl, rfl⟩) (fun inv => ?_)
  try simp only [Act.put, List.setIfInBounds_toArray, List.set_cons_zero, List.set_cons_succ]
  refine wpAnyS_take (i := 12) (v := undef) G inv hS (by decide) rfl (by kernel_rfl) (by kernel_rfl) (fun _ _ _ h => h) (Or.inr ⟨by kernel_rfl, rfl⟩) (fun inv => ?_)
  try simp only [Act.put, List.setIfInBounds_toArray, List.set_cons_zero, List.set_cons_succ]
  refine wpAnyS_take (i := 13) (v := undef) G inv hS (by decide) rfl (by kernel_rfl) (by kernel_rfl) (fun _ _ _ h => h) (Or.inr ⟨by kernel_rfl, rfl⟩) (fun inv => ?_)
  try simp only [Act.put, List.setIfInBounds_toArray, List.set_cons_zero, List.set_cons_succ]
  refine wpAnyS_take (i := 14) (v := undef) G inv hS (by decide) rfl (by kernel_rfl) (by kernel_rfl) (fun _ _ _ h => h) (Or.inr ⟨by kernel_rfl, rfl⟩) (fun inv => ?_)
  try simp only [Act.put, List.setIfInBounds_toArray, List.set_cons_zero, List.set_cons_succ]
  refine wpAnyS_take (i := 15) (v := ?_) G inv hS (by decide) rfl (by kernel_rfl) (by kernel_rfl) (fun _ _ _ h => h) (Or.inl ⟨by kernel_rfl, fun W hW => ?_⟩) (fun inv => ?_)
  rotate_left
  · have z0 := hW.x.c0
    have z1 := hW.x.c1
    have z2 := hW.x.c2
    have z3 := hW.x.c3
    go_simp
    try with_reducible rfl
  try simp only [Act.put, List.setIfInBounds_toArray, List.set_cons_zero, List.set_cons_succ]
  refine wpAnyS_take (i := 16) (v := ?_) G inv hS (by decide) rfl (by kernel_rfl) (by kernel_rfl) (fun _ _ _ h => h) (Or.inl ⟨by kernel_rfl, fun W hW => ?_⟩) (fun inv => ?_)
  rotate_left
  · have z0 := hW.x.c0
    have z1 := hW.x.c1
    have z2 := hW.x.c2
    have z3 := hW.x.c3
    go_simp
    try with_reducible rfl
  try simp only [Act.put, List.setIfInBounds_toArray, List.set_cons_zero, List.set_cons_succ]
  refine wpAnyS_take (i := 17) (v := undef) G inv hS (by decide) rfl (by kernel_rfl) (by kernel_rfl) (fun _ _ _ h => h) (Or.inr ⟨by kernel_rfl, rfl⟩) (fun inv => ?_)
  try simp only [Act.put, List.setIfInBounds_toArray, List.set_cons_zero, List.set_cons_succ]
  refine wpAnyS_take (i := 18) (v := undef) G inv hS (by decide) rfl (by kernel_rfl) (by kernel_rfl) (fun _ _ _ h => h) (Or.inr ⟨by kernel_rfl, rfl⟩) (fun inv => ?_)
  try simp only [Act.put, List.setIfInBounds_toArray, List.set_cons_zero, List.set_cons_succ]
  refine wpAnyS_take (i := 19) (v := undef) G inv hS (by decide) rfl (by kernel_rfl) (by kernel_rfl) (fun _ _ _ h => h) (Or.inr ⟨by kernel_rfl, rfl⟩) (fun inv => ?_)
  try simp only [Act.put, List.setIfInBounds_toArray, List.set_cons_zero, List.set_cons_succ]
  refine wpAnyS_take (i := 20) (v := undef) G inv hS (by decide) rfl (by kernel_rfl) (by kernel_rfl) (fun _ _ _ h => h) (Or.inr ⟨by kernel_rfl, rfl⟩) (fun inv => ?_)
  try simp only [Act.put, List.setIfInBounds_toArray, List.set_cons_zero, List.set_cons_succ]
  refine wpAnyS_take (i := 21) (v := undef) G inv hS (by decide) rfl (by kernel_rfl) (by kernel_rfl) (fun _ _ _ h => h) (Or.inr ⟨by kernel_rfl, rfl⟩) (fun inv => ?_)
  try simp only [Act.put, List.setIfInBounds_toArray, List.set_cons_zero, List.set_cons_succ]
  refine wpAnyS_take (i := 22) (v := undef) G inv hS (by decide) rfl (by kernel_rfl) (by kernel_rfl) (fun _ _ _ h => h) (Or.inr ⟨by kernel_rfl, rfl⟩) (fun inv => ?_)
  try simp only [Act.put, List.setIfInBounds_toArray, List.set_cons_zero, List.set_cons_succ]
  refine wpAnyS_take (i := 23) (v := undef) G inv hS (by decide) rfl (by kernel_rfl) (by kernel_rfl) (fun _ _ _ h => h) (Or.inr ⟨by kernel_rfl, rfl⟩) (fun inv => ?_)
  try simp only [Act.put, List.setIfInBounds_toArray, List.set_cons_zero, List.set_cons_succ]
  refine wpAnyS_take (i := 24) (v := undef) G inv hS (by decide) rfl (by kernel_rfl) (by kernel_rfl) (fun _ _ _ h => h) (Or.inr ⟨by kernel_rfl, rfl⟩) (fun inv => ?_)
  try simp only [Act.put, List.setIfInBounds_toArray, List.set_cons_zero, List.set_cons_succ]
  refine wpAnyS_take (i := 25) (v := undef) G inv hS (by decide) rfl (by kernel_rfl) (by kernel_rfl) (fun _ _ _ h => h) (Or.inr ⟨by kernel_rfl, rfl⟩) (fun inv => ?_)
  try simp only [Act.put, List.setIfInBounds_toArray, List.set_cons_zero, List.set_cons_succ]
  refine wpAnyS_take (i := 26) (v := undef) G inv hS (by decide) rfl (by kernel_rfl) (by kernel_rfl) (fun _ _ _ h => h) (Or.inr ⟨by kernel_rfl, rfl⟩) (fun inv => ?_)
  try simp only [Act.put, List.setIfInBounds_toArray, List.set_cons_zero, List.set_cons_succ]
  refine wpAnyS_take (i := 27) (v := undef) G inv hS (by decide) rfl (by kernel_rfl) (by kernel_rfl) (fun _ _ _ h => h) (Or.inr ⟨by kernel_rfl, rfl⟩) (fun inv => ?_)
  try simp only [Act.put, List.setIfInBounds_toArray, List.set_cons_zero, List.set_cons_succ]
  refine wpAnyS_take (i := 28) (v := undef) G inv hS (by decide) rfl (by kernel_rfl) (by kernel_rfl) (fun _ _ _ h => h) (Or.inr ⟨by kernel_rfl, rfl⟩) (fun inv => ?_)
  try simp only [Act.put, List.setIfInBounds_toArray, List.set_cons_zero, List.set_cons_succ]
  refine wpAnyS_take (i := 29) (v := ?_) G inv hS (by decide) rfl (by kernel_rfl) (by kernel_rfl) (fun _ _ _ h => h) (Or.inl ⟨by kernel_rfl, fun W hW => ?_⟩) (fun inv => ?_)
  rotate_left
  · have z0 := hW.x.c0
    have z1 := hW.x.c1
    have z2 := hW.x.c2
    have z3 := hW.x.c3
    go_simp
    try with_reducible rfl
  try simp only [Act.put, List.setIfInBounds_toArray, List.set_cons_zero, List.set_cons_succ]
  refine wpAnyS_take (i := 30) (v := ?_) G inv hS (by decide) rfl (by kernel_rfl) (by kernel_rfl) (fun _ _ _ h => h) (Or.inl ⟨by kernel_rfl, fun W hW => ?_⟩) (fun inv => ?_)
  rotate_left
  · have z0 := hW.x.c0
    have z1 := hW.x.c1
    have z2 := hW.x.c2
    have z3 := hW.x.c3
    go_simp
    try with_reducible rfl
  try simp only [Act.put, List.setIfInBounds_toArray, List.set_cons_zero, List.set_cons_succ]
  refine wpAnyS_take (i := 31) (v := undef) G inv hS (by decide) rfl (by kernel_rfl) (by kernel_rfl) (fun _ _ _ h => h) (Or.inr ⟨by kernel_rfl, rfl⟩) (fun inv => ?_)
  try simp only [Act.put, List.setIfInBounds_toArray, List.set_cons_zero, List.set_cons_succ]
  refine wpAnyS_take (i := 32) (v := undef) G inv hS (by decide) rfl (by kernel_rfl) (by kernel_rfl) (fun _ _ _ h => h) (Or.inr ⟨by kernel_rfl, rfl⟩) (fun inv => ?_)
  try simp only [Act.put, List.setIfInBounds_toArray, List.set_cons_zero, List.set_cons_succ]
  refine wpAnyS_take (i := 33) (v := undef) G inv hS (by decide) rfl (by kernel_rfl) (by kernel_rfl) (fun _ _ _ h => h) (Or.inr ⟨by kernel_rfl, rfl⟩) (fun inv => ?_)
  try simp only [Act.put, List.setIfInBounds_toArray, List.set_cons_zero, List.set_cons_succ]
  refine wpAnyS_take (i := 34) (v := undef) G inv hS (by decide) rfl (by kernel_rfl) (by kernel_rfl) (fun _ _ _ h => h) (Or.inr ⟨by kernel_rfl, rfl⟩) (fun inv => ?_)
  try simp only [Act.put, List.setIfInBounds_toArray, List.set_cons_zero, List.set_cons_succ]
  refine wpAnyS_take (i := 35) (v := undef) G inv hS (by decide) rfl (by kernel_rfl) (by kernel_rfl) (fun _ _ _ h => h) (Or.inr ⟨by kernel_rfl, rfl⟩) (fun inv => ?_)
  try simp only [Act.put, List.setIfInBounds_toArray, List.set_cons_zero, List.set_cons_succ]
  refine wpAnyS_take (i := 36) (v := undef) G inv hS (by decide) rfl (by kernel_rfl) (by kernel_rfl) (fun _ _ _ h => h) (Or.inr ⟨by kernel_rfl, rfl⟩) (fun inv => ?_)
  try simp only [Act.put, List.setIfInBounds_toArray, List.set_cons_zero, List.set_cons_succ]
  refine wpAnyS_take (i := 37) (v := ?_) G inv hS (by decide) rfl (by kernel_rfl) (by kernel_rfl) (fun _ _ _ h => h) (Or.inl ⟨by kernel_rfl, fun W hW => ?_⟩) (fun inv => ?_)
  rotate_left
  · have z0 := hW.x.c0
    have z1 := hW.x.c1
    have z2 := hW.x.c2
    have z3 := hW.x.c3
    go_simp
    try with_reducible rfl
  try simp only [Act.put, List.setIfInBounds_toArray, List.set_cons_zero, List.set_cons_succ]
  refine wpAnyS_step (i := 38) (by kernel_rfl) rfl ?_
  go_wp2
  refine ⟨fun h => absurd rfl h, ?_⟩
  refine wpAnyS_done (by kernel_rfl) ?_ _
  go_wp2
  go_ret
  exact ⟨rfl, hS.b⟩
set_option maxRecDepth 100000 in
set_option maxHeartbeats 6400000 in
theorem l05Ok_B (m P n : Nat) (hF : Fld m P n) (q b len cap : Nat) (k : Int) (zs : List Int) (w : World) (hX : Box4 w q (.int .i64 m) (.int .i64 P) (.slice (some ⟨b, 0, none⟩) len cap) (.int .i64 k)) (hM : Mt w b len zs) (hok : okW n zs = false) :
    Calls Tryd.prog 12 #[.pointer (some ⟨q, 0, none⟩)] w fun e w' => e = .returned (.bool false) ∧ Below w.heap.size w w' := by
  have HF := Lib.hid (fun w => l01Ok_eq m P true (fldI_of hF.f) w)
  have HW := Lib.hid (fun w hM => l04Word_eq m P n hF b len cap zs false hok w hM)
  clear hok
  have c0 := hX.c0; have c1 := hX.c1; have c2 := hX.c2; have c3 := hX.c3
  have F0 : GH w q b len cap m P k zs w.drew := ⟨hX.next (Below.refl _ w).drew, hM.below (Below.refl _ w).drew, (Below.refl _ w).drew⟩
  clear hX hM
  go_enter Tryd.func12, Tryd.ntmps12
  go_wp2_with fail
  refine wp_region_S (n := 38) (S := GH w q b len cap _ _ k zs) (by kernel_rfl) (by kernel_rfl) (by exact F0) (fun G inv hS => ?_)
  clear c0 c1 c2 c3 F0
  refine wpAnyS_take (i := 0) (v := ?_) G inv hS (by decide) rfl (by kernel_rfl) (by kernel_rfl) (fun _ _ _ h => h) (Or.inl ⟨by kernel_rfl, fun W hW => ?_⟩) (fun inv => ?_)
  rotate_left
  · have z0 := hW.x.c0
    have z1 := hW.x.c1
    have z2 := hW.x.c2
    have z3 := hW.x.c3
    go_simp
    try with_reducible rfl
  try simp only [Act.put, List.setIfInBounds_toArray, List.set_cons_zero, List.set_cons_succ]
  refine wpAnyS_take (i := 1) (v := ?_) G inv hS (by decide) rfl (by kernel_rfl) (by kernel_rfl) (fun _ _ _ h => h) (Or.inl ⟨by kernel_rfl, fun W hW => ?_⟩) (fun inv => ?_)
  rotate_left
  · have z0 := hW.x.c0
    have z1 := hW.x.c1
    have z2 := hW.x.c2
    have z3 := hW.x.c3
    go_simp
    try with_reducible rfl
  try simp only [Act.put, List.setIfInBounds_toArray, List.set_cons_zero, List.set_cons_succ]
  refine wpAnyS_take (i := 2) (v := ?_) G inv hS (by decide) rfl (by kernel_rfl) (by kernel_rfl) (fun _ _ _ h => h) (Or.inl ⟨by kernel_rfl, fun W hW => ?_⟩) (fun inv => ?_)
  rotate_left
  · have z0 := hW.x.c0
    have z1 := hW.x.c1
    have z2 := hW.x.c2
    have z3 := hW.x.c3
    go_simp
    try with_reducible rfl
  try simp only [Act.put, List.setIfInBounds_toArray, List.set_cons_zero, List.set_cons_succ]
  refine wpAnyS_take (i := 3) (v := ?_) G inv hS (by decide) rfl (by kernel_rfl) (by kernel_rfl) (fun _ _ _ h => h) (Or.inl ⟨by kernel_rfl, fun W hW => ?_⟩) (fun inv => ?_)
  rotate_left
  · have z0 := hW.x.c0
    have z1 := hW.x.c1
    have z2 := hW.x.c2
    have z3 := hW.x.c3
    go_simp
    try with_reducible rfl
  try simp only [Act.put, List.setIfInBounds_toArray, List.set_cons_zero, List.set_cons_succ]
  refine wpAnyS_step (i := 4) (by kernel_rfl) rfl ?_
  go_wp2_with (go_at_call 25; refine (HF.out _).mono ?_; rintro e w1 ⟨rfl, hb⟩)
  have hS := hS.next hb
  clear hb
  change (4 ≠ 38 → GH w q b len cap _ _ _ zs _) ∧ _
  refine ⟨fun _ => hS, ?_⟩
  have inv := HeadInv.setC (i := 4) inv (by kernel_rfl) (by decide)
  refine wpAnyS_take (i := 5) (v := ?_) G inv hS (by decide) rfl (by kernel_rfl) (by kernel_rfl) (fun _ _ _ h => h) (Or.inl ⟨by kernel_rfl, fun W hW => ?_⟩) (fun inv => ?_)
  rotate_left
  · have z0 := hW.x.c0
    have z1 := hW.x.c1
    have z2 := hW.x.c2
    have z3 := hW.x.c3
    go_simp
    try with_reducible rfl
  try simp only [Act.put, List.setIfInBounds_toArray, List.set_cons_zero, List.set_cons_succ]
  refine wpAnyS_take (i := 6) (v := ?_) G inv hS (by decide) rfl (by kernel_rfl) (by kernel_rfl) (fun _ _ _ h => h) (Or.inl ⟨by kernel_rfl, fun W hW => ?_⟩) (fun inv => ?_)
  rotate_left
  · have z0 := hW.x.c0
    have z1 := hW.x.c1
    have z2 := hW.x.c2
    have z3 := hW.x.c3
    go_simp
    try with_reducible rfl
  try simp only [Act.put, List.setIfInBounds_toArray, List.set_cons_zero, List.set_cons_succ]
  refine wpAnyS_take (i := 7) (v := ?_) G inv hS (by decide) rfl (by kernel_rfl) (by kernel_rfl) (fun _ _ _ h => h) (Or.inl ⟨by kernel_rfl, fun W hW => ?_⟩) (fun inv => ?_)
  rotate_left
  · have z0 := hW.x.c0
    have z1 := hW.x.c1
    have z2 := hW.x.c2
    have z3 := hW.x.c3
    go_simp
    try with_reducible rfl
  try simp only [Act.put, List.setIfInBounds_toArray, List.set_cons_zero, List.set_cons_succ]
  refine wpAnyS_take (i := 8) (v := ?_) G inv hS (by decide) rfl (by kernel_rfl) (by kernel_rfl) (fun _ _ _ h => h) (Or.inl ⟨by kernel_rfl, fun W hW => ?_⟩) (fun inv => ?_)
  rotate_left
  · have z0 := hW.x.c0
    have z1 := hW.x.c1
    have z2 := hW.x.c2
    have z3 := hW.x.c3
    go_simp
    try with_reducible rfl
  try simp only [Act.put, List.setIfInBounds_toArray, List.set_cons_zero, List.set_cons_succ]
  refine wpAnyS_take (i := 9) (v := ?_) G inv hS (by decide) rfl (by kernel_rfl) (by kernel_rfl) (fun _ _ _ h => h) (Or.inl ⟨by kernel_rfl, fun W hW => ?_⟩) (fun inv => ?_)
  rotate_left
  · have z0 := hW.x.c0
    have z1 := hW.x.c1
    have z2 := hW.x.c2
    have z3 := hW.x.c3
    go_simp
    try with_reducible rfl
  try simp only [Act.put, List.setIfInBounds_toArray, List.set_cons_zero, List.set_cons_succ]
  refine wpAnyS_take (i := 10) (v := ?_) G inv hS (by decide) rfl (by kernel_rfl) (by kernel_rfl) (fun _ _ _ h => h) (Or.inl ⟨by kernel_rfl, fun W hW => ?_⟩) (fun inv => ?_)
  rotate_left
  · have z0 := hW.x.c0
    have z1 := hW.x.c1
    have z2 := hW.x.c2
    have z3 := hW.x.c3
    go_simp
    try with_reducible rfl
  try simp only [Act.put, List.setIfInBounds_toArray, List.set_cons_zero, List.set_cons_succ]
  refine wpAnyS_take (i := 11) (v := ?_) G inv hS (by decide) rfl (by kernel_rfl) (by kernel_rfl) (fun _ _ _ h => h) (Or.inl ⟨by kernel_rfl, fun W hW => ?_⟩) (fun inv => ?_)
  rotate_left
  · have z0 := hW.x.c0
    have z1 := hW.x.c1
    have z2 := hW.x.c2
    have z3 := hW.x.c3
    go_simp
    try with_reducible rfl
  try simp only [Act.put, List.setIfInBounds_toArray, List.set_cons_zero, List.set_cons_succ]
  refine wpAnyS_take (i := 12) (v := ?_) G inv hS (by decide) rfl (by kernel_rfl) (by kernel_rfl) (fun _ _ _ h => h) (Or.inl ⟨by kernel_rfl, fun W hW => ?_⟩) (fun inv => ?_)
  rotate_left
  · have z0 := hW.x.c0
    have z1 := hW.x.c1
    have z2 := hW.x.c2
    have z3 := hW.x.c3
    go_simp
    try with_reducible rfl
  try simp only [Act.put, List.setIfInBounds_toArray, List.set_cons_zero, List.set_cons_succ]
  refine wpAnyS_take (i := 13) (v := ?_) G inv hS (by decide) rfl (by kernel_rfl) (by kernel_rfl) (fun _ _ _ h => h) (Or.inl ⟨by kernel_rfl, fun W hW => ?_⟩) (fun inv => ?_)
  rotate_left
  · have z0 := hW.x.c0
    have z1 := hW.x.c1
    have z2 := hW.x.c2
    have z3 := hW.x.c3
    go_simp
    try with_reducible rfl
  try simp only [Act.put, List.setIfInBounds_toArray, List.set_cons_zero, List.set_cons_succ]
  refine wpAnyS_stepG (i := 14) (by kernel_rfl) rfl (by kernel_rfl) ?_
  go_wp2_with (go_at_call 26; refine (HW.out _ hS.m).mono ?_; rintro e w2 ⟨rfl, hb⟩)
  have hS := hS.next hb
  clear hb
  change (14 ≠ 38 → GH w q b len cap _ _ _ zs _) ∧ _
  refine ⟨fun _ => hS, ?_⟩
  have inv := HeadInv.setC (i := 14) inv (by kernel_rfl) (by decide)
  refine wpAnyS_take (i := 15) (v := ?_) G inv hS (by decide) rfl (by kernel_rfl) (by kernel_rfl) (fun _ _ _ h => h) (Or.inl ⟨by kernel_rfl, fun W hW => ?_⟩) (fun inv => ?_)
  rotate_left
  · have z0 := hW.x.c0
    have z1 := hW.x.c1
    have z2 := hW.x.c2
    have z3 := hW.x.c3
    go_simp
    try with_reducible rfl
  try simp only [Act.put, List.setIfInBounds_toArray, List.set_cons_zero, List.set_cons_succ]
  refine wpAnyS_take (i := 16) (v := ?_) G inv hS (by decide) rfl (by kernel_rfl) (by kernel_rfl) (fun _ _ _ h => h) (Or.inl ⟨by kernel_rfl, fun W hW => ?_⟩) (fun inv => ?_)
  rotate_left
  · have z0 := hW.x.c0
    have z1 := hW.x.c1
    have z2 := hW.x.c2
    have z3 := hW.x.c3
    go_simp
    try with_reducible rfl
  try simp only [Act.put, List.setIfInBounds_toArray, List.set_cons_zero, List.set_cons_succ]
  refine wpAnyS_take (i := 17) (v := undef) G inv hS (by decide) rfl (by kernel_rfl) (by kernel_rfl) (fun _ _ _ h => h) (Or.inr ⟨by kernel_rfl, rfl⟩) (fun inv => ?_)
  try simp only [Act.put, List.setIfInBounds_toArray, List.set_cons_zero, List.set_cons_succ]
  refine wpAnyS_take (i := 18) (v := undef) G inv hS (by decide) rfl (by kernel_rfl) (by kernel_rfl) (fun _ _ _ h => h) (Or.inr ⟨by kernel_rfl, rfl⟩) (fun inv => ?_)
  try simp only [Act.put, List.setIfInBounds_toArray, List.set_cons_zero, List.set_cons_succ]
  refine wpAnyS_take (i := 19) (v := undef) G inv hS (by decide) rfl (by kernel_rfl) (by kernel_rfl) (fun _ _ _ h => h) (Or.inr ⟨by kernel_rfl, rfl⟩) (fun inv => ?_)
  try simp only [Act.put, List.setIfInBounds_toArray, List.set_cons_zero, List.set_cons_succ]
  refine wpAnyS_take (i := 20) (v := undef) G inv hS (by decide) rfl (by kernel_rfl) (by kernel_rfl) (fun _ _ _ h => h) (Or.inr ⟨by kernel_rfl, rfl⟩) (fun inv => ?_)
  try simp only [Act.put, List.setIfInBounds_toArray, List.set_cons_zero, List.set_cons_succ]
  refine wpAnyS_take (i := 21) (v := undef) G inv hS (by decide) rfl (by kernel_rfl) (by kernel_rfl) (fun _ _ _ h => h) (Or.inr ⟨by kernel_rfl, rfl⟩) (fun inv => ?_)
  try simp only [Act.put, List.setIfInBounds_toArray, List.set_cons_zero, List.set_cons_succ]
  refine wpAnyS_take (i := 22) (v := undef) G inv hS (by decide) rfl (by kernel_rfl) (by kernel_rfl) (fun _ _ _ h => h) (Or.inr ⟨by kernel_rfl, rfl⟩) (fun inv => ?_)
  try simp only [Act.put, List.setIfInBounds_toArray, List.set_cons_zero, List.set_cons_succ]
  refine wpAnyS_take (i := 23) (v := undef) G inv hS (by decide) rfl (by kernel_rfl) (by kernel_rfl) (fun _ _ _ h => h) (Or.inr ⟨by kernel_rfl, rfl⟩) (fun inv => ?_)
  try simp only [Act.put, List.setIfInBounds_toArray, List.set_cons_zero, List.set_cons_succ]
  refine wpAnyS_take (i := 24) (v := undef) G inv hS (by decide) rfl (by kernel_rfl) (by kernel_rfl) (fun _ _ _ h => h) (Or.inr ⟨by kernel_rfl, rfl⟩) (fun inv => ?_)
  try simp only [Act.put, List.setIfInBounds_toArray, List.set_cons_zero, List.set_cons_succ]
  refine wpAnyS_take (i := 25) (v := undef) G inv hS (by decide) rfl (by kernel_rfl) (by kernel_rfl) (fun _ _ _ h => h) (Or.inr ⟨by kernel_rfl, rfl⟩) (fun inv => ?_)
  try simp only [Act.put, List.setIfInBounds_toArray, List.set_cons_zero, List.set_cons_succ]
  refine wpAnyS_take (i := 26) (v := undef) G inv hS (by decide) rfl (by kernel_rfl) (by kernel_rfl) (fun _ _ _ h => h) (Or.inr ⟨by kernel_rfl, rfl⟩) (fun inv => ?_)
  try simp only [Act.put, List.setIfInBounds_toArray, List.set_cons_zero, List.set_cons_succ]
  refine wpAnyS_take (i := 27) (v := undef) G inv hS (by decide) rfl (by kernel_rfl) (by kernel_rfl) (fun _ _ _ h => h) (Or.inr ⟨by kernel_rfl, rfl⟩) (fun inv => ?_)
  try simp only [Act.put, List.setIfInBounds_toArray, List.set_cons_zero, List.set_cons_succ]
  refine wpAnyS_take (i := 28) (v := undef) G inv hS (by decide) rfl (by kernel_rfl) (by kernel_rfl) (fun _ _ _ h => h) (Or.inr ⟨by kernel_rfl, rfl⟩) (fun inv => ?_)
  try simp only [Act.put, List.setIfInBounds_toArray, List.set_cons_zero, List.set_cons_succ]
  refine wpAnyS_take (i := 29) (v := ?_) G inv hS (by decide) rfl (by kernel_rfl) (by kernel_rfl) (fun _ _ _ h => h) (Or.inl ⟨by kernel_rfl, fun W hW => ?_⟩) (fun inv => ?_)
  rotate_left
  · have z0 := hW.x.c0
    have z1 := hW.x.c1
    have z2 := hW.x.c2
    have z3 := hW.x.c3
    go_simp
    try with_reducible rfl
  try simp only [Act.put, List.setIfInBounds_toArray, List.set_cons_zero, List.set_cons_succ]
  refine wpAnyS_take (i := 30) (v := ?_) G inv hS (by decide) rfl (by kernel_rfl) (by kernel_rfl) (fun _ _ _ h => h) (Or.inl ⟨by kernel_rfl, fun W hW => ?_⟩) (fun inv => ?_)
  rotate_left
  · have z0 := hW.x.c0
    have z1 := hW.x.c1
    have z2 := hW.x.c2
    have z3 := hW.x.c3
    go_simp
    try with_reducible rfl
  try simp only [Act.put, List.setIfInBounds_toArray, List.set_cons_zero, List.set_cons_succ]
  refine wpAnyS_take (i := 31) (v := undef) G inv hS (by decide) rfl (by kernel_rfl) (by kernel_rfl) (fun _ _ _ h => h) (Or.inr ⟨by kernel_rfl, rfl⟩) (fun inv => ?_)
  try simp only [Act.put, List.setIfInBounds_toArray, List.set_cons_zero, List.set_cons_succ]
  refine wpAnyS_take (i := 32) (v := undef) G inv hS (by decide) rfl (by kernel_rfl) (by kernel_rfl) (fun _ _ _ h => h) (Or.inr ⟨by kernel_rfl, rfl⟩) (fun inv => ?_)
  try simp only [Act.put, List.setIfInBounds_toArray, List.set_cons_zero, List.set_cons_succ]
  refine wpAnyS_take (i := 33) (v := undef) G inv hS (by decide) rfl (by kernel_rfl) (by kernel_rfl) (fun _ _ _ h => h) (Or.inr ⟨by kernel_rfl, rfl⟩) (fun inv => ?_)
  try simp only [Act.put, List.setIfInBounds_toArray, List.set_cons_zero, List.set_cons_succ]
  refine wpAnyS_take (i := 34) (v := undef) G inv hS (by decide) rfl (by kernel_rfl) (by kernel_rfl) (fun _ _ _ h => h) (Or.inr ⟨by kernel_rfl, rfl⟩) (fun inv => ?_)
  try simp only [Act.put, List.setIfInBounds_toArray, List.set_cons_zero, List.set_cons_succ]
  refine wpAnyS_take (i := 35) (v := undef) G inv hS (by decide) rfl (by kernel_rfl) (by kernel_rfl) (fun _ _ _ h => h) (Or.inr ⟨by kernel_rfl, rfl⟩) (fun inv => ?_)
  try simp only [Act.put, List.setIfInBounds_toArray, List.set_cons_zero, List.set_cons_succ]
  refine wpAnyS_take (i := 36) (v := undef) G inv hS (by decide) rfl (by kernel_rfl) (by kernel_rfl) (fun _ _ _ h => h) (Or.inr ⟨by kernel_rfl, rfl⟩) (fun inv => ?_)
  try simp only [Act.put, List.setIfInBounds_toArray, List.set_cons_zero, List.set_cons_succ]
  refine wpAnyS_take (i := 37) (v := ?_) G inv hS (by decide) rfl (by kernel_rfl) (by kernel_rfl) (fun _ _ _ h => h) (Or.inl ⟨by kernel_rfl, fun W hW => ?_⟩) (fun inv => ?_)
  rotate_left
  · have z0 := hW.x.c0
    have z1 := hW.x.c1
    have z2 := hW.x.c2
    have z3 := hW.x.c3
    go_simp
    try with_reducible rfl
  try simp only [Act.put, List.setIfInBounds_toArray, List.set_cons_zero, List.set_cons_succ]
  refine wpAnyS_step (i := 38) (by kernel_rfl) rfl ?_
  go_wp2
  refine ⟨fun h => absurd rfl h, ?_⟩
  refine wpAnyS_done (by kernel_rfl) ?_ _
  go_wp2
  go_ret
  exact ⟨rfl, hS.b⟩
set_option maxRecDepth 100000 in
set_option maxHeartbeats 6400000 in
theorem l05Ok_C (m P n : Nat) (hF : Fld m P n) (q b len cap : Nat) (k : Int) (zs : List Int) (w : World) (hX : Box4 w q (.int .i64 m) (.int .i64 P) (.slice (some ⟨b, 0, none⟩) len cap) (.int .i64 k)) (hM : Mt w b len zs) (hok : okW n zs = true) (hj : (joined [] (nats zs)).length ≠ zs.length) :
    Calls Tryd.prog 12 #[.pointer (some ⟨q, 0, none⟩)] w fun e w' => e = .returned (.bool false) ∧ Below w.heap.size w w' := by
  have HF := Lib.hid (fun w => l01Ok_eq m P true (fldI_of hF.f) w)
  have hin := okW_in hok
  have hl5 := okW_len hok
  have hlen := hM.len
  have hlt := lt_mem (nats_lt hin (by have := hF.n2; omega : 0 < n))
  rw [← hF.n] at hlt
  have HK := fun w hM => l02Rank_any m b len cap (nats zs) (by have := hF.m5; omega) hlt (by omega) w hM
  rw [ints_nats hin] at HK
  generalize (joined [] (nats zs)).length = J at HK hj
  replace HK := Lib.hid HK
  have HW := Lib.hid (fun w hM => l04Word_eq m P n hF b len cap zs true hok w hM)
  clear hok hin hlt
  have hjb : ((J : Int) == (len : Int)) = false := by simp; omega
  have hjn : ¬ (J : Int) = (len : Int) := by omega
  have c0 := hX.c0; have c1 := hX.c1; have c2 := hX.c2; have c3 := hX.c3
  have F0 : GH w q b len cap m P k zs w.drew := ⟨hX.next (Below.refl _ w).drew, hM.below (Below.refl _ w).drew, (Below.refl _ w).drew⟩
  clear hX hM
  go_enter Tryd.func12, Tryd.ntmps12
  go_wp2_with fail
  refine wp_region_S (n := 38) (S := GH w q b len cap _ _ k zs) (by kernel_rfl) (by kernel_rfl) (by exact F0) (fun G inv hS => ?_)
  clear c0 c1 c2 c3 F0
  refine wpAnyS_take (i := 0) (v := ?_) G inv hS (by decide) rfl (by kernel_rfl) (by kernel_rfl) (fun _ _ _ h => h) (Or.inl ⟨by kernel_rfl, fun W hW => ?_⟩) (fun inv => ?_)
  rotate_left
  · have z0 := hW.x.c0
    have z1 := hW.x.c1
    have z2 := hW.x.c2
    have z3 := hW.x.c3
    go_simp
    try with_reducible rfl
  try simp only [Act.put, List.setIfInBounds_toArray, List.set_cons_zero, List.set_cons_succ]
  refine wpAnyS_take (i := 1) (v := ?_) G inv hS (by decide) rfl (by kernel_rfl) (by kernel_rfl) (fun _ _ _ h => h) (Or.inl ⟨by kernel_rfl, fun W hW => ?_⟩) (fun inv => ?_)
  rotate_left
  · have z0 := hW.x.c0
    have z1 := hW.x.c1
    have z2 := hW.x.c2
    have z3 := hW.x.c3
    go_simp
    try with_reducible rfl
  try simp only [Act.put, List.setIfInBounds_toArray, List.set_cons_zero, List.set_cons_succ]
  refine wpAnyS_take (i := 2) (v := ?_) G inv hS (by decide) rfl (by kernel_rfl) (by kernel_rfl) (fun _ _ _ h => h) (Or.inl ⟨by kernel_rfl, fun W hW => ?_⟩) (fun inv => ?_)
  rotate_left
  · have z0 := hW.x.c0
    have z1 := hW.x.c1
    have z2 := hW.x.c2
    have z3 := hW.x.c3
    go_simp
    try with_reducible rfl
  try simp only [Act.put, List.setIfInBounds_toArray, List.set_cons_zero, List.set_cons_succ]
  refine wpAnyS_take (i := 3) (v := ?_) G inv hS (by decide) rfl (by kernel_rfl) (by kernel_rfl) (fun _ _ _ h => h) (Or.inl ⟨by kernel_rfl, fun W hW => ?_⟩) (fun inv => ?_)
  rotate_left
  · have z0 := hW.x.c0
    have z1 := hW.x.c1
    have z2 := hW.x.c2
    have z3 := hW.x.c3
    go_simp
    try with_reducible rfl
  try simp only [Act.put, List.setIfInBounds_toArray, List.set_cons_zero, List.set_cons_succ]
  refine wpAnyS_step (i := 4) (by kernel_rfl) rfl ?_
  go_wp2_with (go_at_call 25; refine (HF.out _).mono ?_; rintro e w1 ⟨rfl, hb⟩)
  have hS := hS.next hb
  clear hb
  change (4 ≠ 38 → GH w q b len cap _ _ _ zs _) ∧ _
  refine ⟨fun _ => hS, ?_⟩
  have inv := HeadInv.setC (i := 4) inv (by kernel_rfl) (by decide)
  refine wpAnyS_take (i := 5) (v := ?_) G inv hS (by decide) rfl (by kernel_rfl) (by kernel_rfl) (fun _ _ _ h => h) (Or.inl ⟨by kernel_rfl, fun W hW => ?_⟩) (fun inv => ?_)
  rotate_left
  · have z0 := hW.x.c0
    have z1 := hW.x.c1
    have z2 := hW.x.c2
    have z3 := hW.x.c3
    go_simp
    try with_reducible rfl
  try simp only [Act.put, List.setIfInBounds_toArray, List.set_cons_zero, List.set_cons_succ]
  refine wpAnyS_take (i := 6) (v := ?_) G inv hS (by decide) rfl (by kernel_rfl) (by kernel_rfl) (fun _ _ _ h => h) (Or.inl ⟨by kernel_rfl, fun W hW => ?_⟩) (fun inv => ?_)
  rotate_left
  · have z0 := hW.x.c0
    have z1 := hW.x.c1
    have z2 := hW.x.c2
    have z3 := hW.x.c3
    go_simp
    try with_reducible rfl
  try simp only [Act.put, List.setIfInBounds_toArray, List.set_cons_zero, List.set_cons_succ]
  refine wpAnyS_take (i := 7) (v := ?_) G inv hS (by decide) rfl (by kernel_rfl) (by kernel_rfl) (fun _ _ _ h => h) (Or.inl ⟨by kernel_rfl, fun W hW => ?_⟩) (fun inv => ?_)
  rotate_left
  · have z0 := hW.x.c0
    have z1 := hW.x.c1
    have z2 := hW.x.c2
    have z3 := hW.x.c3
    go_simp
    try with_reducible rfl
  try simp only [Act.put, List.setIfInBounds_toArray, List.set_cons_zero, List.set_cons_succ]
  refine wpAnyS_take (i := 8) (v := ?_) G inv hS (by decide) rfl (by kernel_rfl) (by kernel_rfl) (fun _ _ _ h => h) (Or.inl ⟨by kernel_rfl, fun W hW => ?_⟩) (fun inv => ?_)
  rotate_left
  · have z0 := hW.x.c0
    have z1 := hW.x.c1
    have z2 := hW.x.c2
    have z3 := hW.x.c3
    go_simp
    try with_reducible rfl
  try simp only [Act.put, List.setIfInBounds_toArray, List.set_cons_zero, List.set_cons_succ]
  refine wpAnyS_take (i := 9) (v := ?_) G inv hS (by decide) rfl (by kernel_rfl) (by kernel_rfl) (fun _ _ _ h => h) (Or.inl ⟨by kernel_rfl, fun W hW => ?_⟩) (fun inv => ?_)
  rotate_left
  · have z0 := hW.x.c0
    have z1 := hW.x.c1
    have z2 := hW.x.c2
    have z3 := hW.x.c3
    go_simp
    try with_reducible rfl
  try simp only [Act.put, List.setIfInBounds_toArray, List.set_cons_zero, List.set_cons_succ]
  refine wpAnyS_take (i := 10) (v := ?_) G inv hS (by decide) rfl (by kernel_rfl) (by kernel_rfl) (fun _ _ _ h => h) (Or.inl ⟨by kernel_rfl, fun W hW => ?_⟩) (fun inv => ?_)
  rotate_left
  · have z0 := hW.x.c0
    have z1 := hW.x.c1
    have z2 := hW.x.c2
    have z3 := hW.x.c3
    go_simp
    try with_reducible rfl
  try simp only [Act.put, List.setIfInBounds_toArray, List.set_cons_zero, List.set_cons_succ]
  refine wpAnyS_take (i := 11) (v := ?_) G inv hS (by decide) rfl (by kernel_rfl) (by kernel_rfl) (fun _ _ _ h => h) (Or.inl ⟨by kernel_rfl, fun W hW => ?_⟩) (fun inv => ?_)
  rotate_left
  · have z0 := hW.x.c0
    have z1 := hW.x.c1
    have z2 := hW.x.c2
    have z3 := hW.x.c3
    go_simp
    try with_reducible rfl
  try simp only [Act.put, List.setIfInBounds_toArray, List.set_cons_zero, List.set_cons_succ]
  refine wpAnyS_take (i := 12) (v := ?_) G inv hS (by decide) rfl (by kernel_rfl) (by kernel_rfl) (fun _ _ _ h => h) (Or.inl ⟨by kernel_rfl, fun W hW => ?_⟩) (fun inv => ?_)
  rotate_left
  · have z0 := hW.x.c0
    have z1 := hW.x.c1
    have z2 := hW.x.c2
    have z3 := hW.x.c3
    go_simp
    try with_reducible rfl
  try simp only [Act.put, List.setIfInBounds_toArray, List.set_cons_zero, List.set_cons_succ]
  refine wpAnyS_take (i := 13) (v := ?_) G inv hS (by decide) rfl (by kernel_rfl) (by kernel_rfl) (fun _ _ _ h => h) (Or.inl ⟨by kernel_rfl, fun W hW => ?_⟩) (fun inv => ?_)
  rotate_left
  · have z0 := hW.x.c0
    have z1 := hW.x.c1
    have z2 := hW.x.c2
    have z3 := hW.x.c3
    go_simp
    try with_reducible rfl
  try simp only [Act.put, List.setIfInBounds_toArray, List.set_cons_zero, List.set_cons_succ]
  refine wpAnyS_stepG (i := 14) (by kernel_rfl) rfl (by kernel_rfl) ?_
  go_wp2_with (go_at_call 26; refine (HW.out _ hS.m).mono ?_; rintro e w2 ⟨rfl, hb⟩)
  have hS := hS.next hb
  clear hb
  change (14 ≠ 38 → GH w q b len cap _ _ _ zs _) ∧ _
  refine ⟨fun _ => hS, ?_⟩
  have inv := HeadInv.setC (i := 14) inv (by kernel_rfl) (by decide)
  refine wpAnyS_take (i := 15) (v := ?_) G inv hS (by decide) rfl (by kernel_rfl) (by kernel_rfl) (fun _ _ _ h => h) (Or.inl ⟨by kernel_rfl, fun W hW => ?_⟩) (fun inv => ?_)
  rotate_left
  · have z0 := hW.x.c0
    have z1 := hW.x.c1
    have z2 := hW.x.c2
    have z3 := hW.x.c3
    go_simp
    try with_reducible rfl
  try simp only [Act.put, List.setIfInBounds_toArray, List.set_cons_zero, List.set_cons_succ]
  refine wpAnyS_take (i := 16) (v := ?_) G inv hS (by decide) rfl (by kernel_rfl) (by kernel_rfl) (fun _ _ _ h => h) (Or.inl ⟨by kernel_rfl, fun W hW => ?_⟩) (fun inv => ?_)
  rotate_left
  · have z0 := hW.x.c0
    have z1 := hW.x.c1
    have z2 := hW.x.c2
    have z3 := hW.x.c3
    go_simp
    try with_reducible rfl
  try simp only [Act.put, List.setIfInBounds_toArray, List.set_cons_zero, List.set_cons_succ]
  refine wpAnyS_take (i := 17) (v := ?_) G inv hS (by decide) rfl (by kernel_rfl) (by kernel_rfl) (fun _ _ _ h => h) (Or.inl ⟨by kernel_rfl, fun W hW => ?_⟩) (fun inv => ?_)
  rotate_left
  · have z0 := hW.x.c0
    have z1 := hW.x.c1
    have z2 := hW.x.c2
    have z3 := hW.x.c3
    go_simp
    try with_reducible rfl
  try simp only [Act.put, List.setIfInBounds_toArray, List.set_cons_zero, List.set_cons_succ]
  refine wpAnyS_take (i := 18) (v := ?_) G inv hS (by decide) rfl (by kernel_rfl) (by kernel_rfl) (fun _ _ _ h => h) (Or.inl ⟨by kernel_rfl, fun W hW => ?_⟩) (fun inv => ?_)
  rotate_left
  · have z0 := hW.x.c0
    have z1 := hW.x.c1
    have z2 := hW.x.c2
    have z3 := hW.x.c3
    go_simp
    try with_reducible rfl
  try simp only [Act.put, List.setIfInBounds_toArray, List.set_cons_zero, List.set_cons_succ]
  refine wpAnyS_take (i := 19) (v := ?_) G inv hS (by decide) rfl (by kernel_rfl) (by kernel_rfl) (fun _ _ _ h => h) (Or.inl ⟨by kernel_rfl, fun W hW => ?_⟩) (fun inv => ?_)
  rotate_left
  · have z0 := hW.x.c0
    have z1 := hW.x.c1
    have z2 := hW.x.c2
    have z3 := hW.x.c3
    go_simp
    try with_reducible rfl
  try simp only [Act.put, List.setIfInBounds_toArray, List.set_cons_zero, List.set_cons_succ]
  refine wpAnyS_take (i := 20) (v := ?_) G inv hS (by decide) rfl (by kernel_rfl) (by kernel_rfl) (fun _ _ _ h => h) (Or.inl ⟨by kernel_rfl, fun W hW => ?_⟩) (fun inv => ?_)
  rotate_left
  · have z0 := hW.x.c0
    have z1 := hW.x.c1
    have z2 := hW.x.c2
    have z3 := hW.x.c3
    go_simp
    try with_reducible rfl
  try simp only [Act.put, List.setIfInBounds_toArray, List.set_cons_zero, List.set_cons_succ]
  refine wpAnyS_take (i := 21) (v := ?_) G inv hS (by decide) rfl (by kernel_rfl) (by kernel_rfl) (fun _ _ _ h => h) (Or.inl ⟨by kernel_rfl, fun W hW => ?_⟩) (fun inv => ?_)
  rotate_left
  · have z0 := hW.x.c0
    have z1 := hW.x.c1
    have z2 := hW.x.c2
    have z3 := hW.x.c3
    go_simp
    try with_reducible rfl
  try simp only [Act.put, List.setIfInBounds_toArray, List.set_cons_zero, List.set_cons_succ]
  refine wpAnyS_take (i := 22) (v := ?_) G inv hS (by decide) rfl (by kernel_rfl) (by kernel_rfl) (fun _ _ _ h => h) (Or.inl ⟨by kernel_rfl, fun W hW => ?_⟩) (fun inv => ?_)
  rotate_left
  · have z0 := hW.x.c0
    have z1 := hW.x.c1
    have z2 := hW.x.c2
    have z3 := hW.x.c3
    go_simp
    try with_reducible rfl
  try simp only [Act.put, List.setIfInBounds_toArray, List.set_cons_zero, List.set_cons_succ]
  refine wpAnyS_take (i := 23) (v := ?_) G inv hS (by decide) rfl (by kernel_rfl) (by kernel_rfl) (fun _ _ _ h => h) (Or.inl ⟨by kernel_rfl, fun W hW => ?_⟩) (fun inv => ?_)
  rotate_left
  · have z0 := hW.x.c0
    have z1 := hW.x.c1
    have z2 := hW.x.c2
    have z3 := hW.x.c3
    go_simp
    try with_reducible rfl
  try simp only [Act.put, List.setIfInBounds_toArray, List.set_cons_zero, List.set_cons_succ]
  refine wpAnyS_take (i := 24) (v := ?_) G inv hS (by decide) rfl (by kernel_rfl) (by kernel_rfl) (fun _ _ _ h => h) (Or.inl ⟨by kernel_rfl, fun W hW => ?_⟩) (fun inv => ?_)
  rotate_left
  · have z0 := hW.x.c0
    have z1 := hW.x.c1
    have z2 := hW.x.c2
    have z3 := hW.x.c3
    go_simp
    try with_reducible rfl
  try simp only [Act.put, List.setIfInBounds_toArray, List.set_cons_zero, List.set_cons_succ]
  refine wpAnyS_take (i := 25) (v := ?_) G inv hS (by decide) rfl (by kernel_rfl) (by kernel_rfl) (fun _ _ _ h => h) (Or.inl ⟨by kernel_rfl, fun W hW => ?_⟩) (fun inv => ?_)
  rotate_left
  · have z0 := hW.x.c0
    have z1 := hW.x.c1
    have z2 := hW.x.c2
    have z3 := hW.x.c3
    go_simp
    try with_reducible rfl
  try simp only [Act.put, List.setIfInBounds_toArray, List.set_cons_zero, List.set_cons_succ]
  refine wpAnyS_take (i := 27) (v := ?_) G inv hS (by decide) rfl (by kernel_rfl) (by kernel_rfl) (fun _ _ _ h => h) (Or.inl ⟨by kernel_rfl, fun W hW => ?_⟩) (fun inv => ?_)
  rotate_left
  · have z0 := hW.x.c0
    have z1 := hW.x.c1
    have z2 := hW.x.c2
    have z3 := hW.x.c3
    go_simp
    try with_reducible rfl
  try simp only [Act.put, List.setIfInBounds_toArray, List.set_cons_zero, List.set_cons_succ]
  have hz := hS.m
  refine wpAnyS_stepG (i := 26) (by kernel_rfl) rfl (by kernel_rfl) ?_
  go_wp2_with (go_at_call 27; refine (HK.out _ hS.m).mono ?_; rintro e w3 ⟨rfl, hb⟩)
  have hS := hS.next hb
  clear hb
  change (26 ≠ 38 → GH w q b len cap _ _ _ zs _) ∧ _
  refine ⟨fun _ => hS, ?_⟩
  have inv := HeadInv.setC (i := 26) inv (by kernel_rfl) (by decide)
  refine wpAnyS_take (i := 28) (v := .bool false) G inv hS (by decide) rfl (by kernel_rfl) (by kernel_rfl) (fun _ _ _ h => h) (Or.inl ⟨by kernel_rfl, fun W hW => ?_⟩) (fun inv => ?_)
  skip
  · have z0 := hW.x.c0
    have z1 := hW.x.c1
    have z2 := hW.x.c2
    have z3 := hW.x.c3
    go_simp
    try with_reducible rfl
  try simp only [Act.put, List.setIfInBounds_toArray, List.set_cons_zero, List.set_cons_succ]
  refine wpAnyS_take (i := 29) (v := .bool false) G inv hS (by decide) rfl (by kernel_rfl) (by kernel_rfl) (fun _ _ _ h => h) (Or.inl ⟨by kernel_rfl, fun W hW => ?_⟩) (fun inv => ?_)
  skip
  · have z0 := hW.x.c0
    have z1 := hW.x.c1
    have z2 := hW.x.c2
    have z3 := hW.x.c3
    go_simp
    try with_reducible rfl
  try simp only [Act.put, List.setIfInBounds_toArray, List.set_cons_zero, List.set_cons_succ]
  refine wpAnyS_take (i := 30) (v := .bool false) G inv hS (by decide) rfl (by kernel_rfl) (by kernel_rfl) (fun _ _ _ h => h) (Or.inl ⟨by kernel_rfl, fun W hW => ?_⟩) (fun inv => ?_)
  skip
  · have z0 := hW.x.c0
    have z1 := hW.x.c1
    have z2 := hW.x.c2
    have z3 := hW.x.c3
    go_simp
    try with_reducible rfl
  try simp only [Act.put, List.setIfInBounds_toArray, List.set_cons_zero, List.set_cons_succ]
  refine wpAnyS_take (i := 31) (v := undef) G inv hS (by decide) rfl (by kernel_rfl) (by kernel_rfl) (fun _ _ _ h => h) (Or.inr ⟨by kernel_rfl, rfl⟩) (fun inv => ?_)
  try simp only [Act.put, List.setIfInBounds_toArray, List.set_cons_zero, List.set_cons_succ]
  refine wpAnyS_take (i := 32) (v := undef) G inv hS (by decide) rfl (by kernel_rfl) (by kernel_rfl) (fun _ _ _ h => h) (Or.inr ⟨by kernel_rfl, rfl⟩) (fun inv => ?_)
  try simp only [Act.put, List.setIfInBounds_toArray, List.set_cons_zero, List.set_cons_succ]
  refine wpAnyS_take (i := 33) (v := undef) G inv hS (by decide) rfl (by kernel_rfl) (by kernel_rfl) (fun _ _ _ h => h) (Or.inr ⟨by kernel_rfl, rfl⟩) (fun inv => ?_)
  try simp only [Act.put, List.setIfInBounds_toArray, List.set_cons_zero, List.set_cons_succ]
  refine wpAnyS_take (i := 34) (v := undef) G inv hS (by decide) rfl (by kernel_rfl) (by kernel_rfl) (fun _ _ _ h => h) (Or.inr ⟨by kernel_rfl, rfl⟩) (fun inv => ?_)
  try simp only [Act.put, List.setIfInBounds_toArray, List.set_cons_zero, List.set_cons_succ]
  refine wpAnyS_take (i := 35) (v := undef) G inv hS (by decide) rfl (by kernel_rfl) (by kernel_rfl) (fun _ _ _ h => h) (Or.inr ⟨by kernel_rfl, rfl⟩) (fun inv => ?_)
  try simp only [Act.put, List.setIfInBounds_toArray, List.set_cons_zero, List.set_cons_succ]
  refine wpAnyS_take (i := 36) (v := undef) G inv hS (by decide) rfl (by kernel_rfl) (by kernel_rfl) (fun _ _ _ h => h) (Or.inr ⟨by kernel_rfl, rfl⟩) (fun inv => ?_)
  try simp only [Act.put, List.setIfInBounds_toArray, List.set_cons_zero, List.set_cons_succ]
  refine wpAnyS_take (i := 37) (v := ?_) G inv hS (by decide) rfl (by kernel_rfl) (by kernel_rfl) (fun _ _ _ h => h) (Or.inl ⟨by kernel_rfl, fun W hW => ?_⟩) (fun inv => ?_)
  rotate_left
  · have z0 := hW.x.c0
    have z1 := hW.x.c1
    have z2 := hW.x.c2
    have z3 := hW.x.c3
    go_simp
    try with_reducible rfl
  try simp only [Act.put, List.setIfInBounds_toArray, List.set_cons_zero, List.set_cons_succ]
  refine wpAnyS_step (i := 38) (by kernel_rfl) rfl ?_
  go_wp2
  refine ⟨fun h => absurd rfl h, ?_⟩
  refine wpAnyS_done (by kernel_rfl) ?_ _
  go_wp2
  go_ret
  exact ⟨rfl, hS.b⟩
theorem l00In_eq (n lo hi : Int) (r : Bool) (h : decide (lo ≤ n ∧ n ≤ hi) = r) (w : World) :
    Calls Tryd.prog 13 #[.int .i64 n, .int .i64 lo, .int .i64 hi] w fun e w' => e = .returned (.bool r) ∧ w = w' := by
  cases r with
  | true => exact l00In_yes n lo hi (of_decide_eq_true h).1 (of_decide_eq_true h).2 w
  | false => exact l00In_no n lo hi (by have := of_decide_eq_false h; omega) w
set_option maxRecDepth 100000 in
set_option maxHeartbeats 6400000 in
theorem l05Ok_D (m P n : Nat) (hF : Fld m P n) (q b len cap : Nat) (k : Int) (zs : List Int) (w : World) (hX : Box4 w q (.int .i64 m) (.int .i64 P) (.slice (some ⟨b, 0, none⟩) len cap) (.int .i64 k)) (hM : Mt w b len zs) (hok : okW n zs = true) (hj : (joined [] (nats zs)).length = zs.length) (r : Bool) (hr : decide (1 ≤ k ∧ k ≤ (len : Int)) = r) :
    Calls Tryd.prog 12 #[.pointer (some ⟨q, 0, none⟩)] w fun e w' => e = .returned (.bool r) ∧ Below w.heap.size w w' := by
  have HF := Lib.hid (fun w => l01Ok_eq m P true (fldI_of hF.f) w)
  have hin := okW_in hok
  have hl5 := okW_len hok
  have hlen := hM.len
  have hlt := lt_mem (nats_lt hin (by have := hF.n2; omega : 0 < n))
  rw [← hF.n] at hlt
  have HK := fun w hM => l02Rank_any m b len cap (nats zs) (by have := hF.m5; omega) hlt (by omega) w hM
  have hjl : (joined [] (nats zs)).length = len := by omega
  rw [ints_nats hin, hjl] at HK
  replace HK := Lib.hid HK
  have HW := Lib.hid (fun w hM => l04Word_eq m P n hF b len cap zs true hok w hM)
  clear hok hin hlt hj hjl
  have HI := Lib.hid (fun w => l00In_eq k 1 len r hr w)
  have c0 := hX.c0; have c1 := hX.c1; have c2 := hX.c2; have c3 := hX.c3
  have F0 : GH w q b len cap m P k zs w.drew := ⟨hX.next (Below.refl _ w).drew, hM.below (Below.refl _ w).drew, (Below.refl _ w).drew⟩
  clear hX hM
  go_enter Tryd.func12, Tryd.ntmps12
  go_wp2_with fail
  refine wp_region_S (n := 38) (S := GH w q b len cap _ _ k zs) (by kernel_rfl) (by kernel_rfl) (by exact F0) (fun G inv hS => ?_)
  clear c0 c1 c2 c3 F0
  refine wpAnyS_take (i := 0) (v := ?_) G inv hS (by decide) rfl (by kernel_rfl) (by kernel_rfl) (fun _ _ _ h => h) (Or.inl ⟨by kernel_rfl, fun W hW => ?_⟩) (fun inv => ?_)
  rotate_left
  · have z0 := hW.x.c0
    have z1 := hW.x.c1
    have z2 := hW.x.c2
    have z3 := hW.x.c3
    go_simp
    try with_reducible rfl
  try simp only [Act.put, List.setIfInBounds_toArray, List.set_cons_zero, List.set_cons_succ]
  refine wpAnyS_take (i := 1) (v := ?_) G inv hS (by decide) rfl (by kernel_rfl) (by kernel_rfl) (fun _ _ _ h => h) (Or.inl ⟨by kernel_rfl, fun W hW => ?_⟩) (fun inv => ?_)
  rotate_left
  · have z0 := hW.x.c0
    have z1 := hW.x.c1
    have z2 := hW.x.c2
    have z3 := hW.x.c3
    go_simp
    try with_reducible rfl
  try simp only [Act.put, List.setIfInBounds_toArray, List.set_cons_zero, List.set_cons_succ]
  refine wpAnyS_take (i := 2) (v := ?_) G inv hS (by decide) rfl (by kernel_rfl) (by kernel_rfl) (fun _ _ _ h => h) (Or.inl ⟨by kernel_rfl, fun W hW => ?_⟩) (fun inv => ?_)
  rotate_left
  · have z0 := hW.x.c0
    have z1 := hW.x.c1
    have z2 := hW.x.c2
    have z3 := hW.x.c3
    go_simp
    try with_reducible rfl
  try simp only [Act.put, List.setIfInBounds_toArray, List.set_cons_zero, List.set_cons_succ]
  refine wpAnyS_take (i := 3) (v := ?_) G inv hS (by decide) rfl (by kernel_rfl) (by kernel_rfl) (fun _ _ _ h => h) (Or.inl ⟨by kernel_rfl, fun W hW => ?_⟩) (fun inv => ?_)
  rotate_left
  · have z0 := hW.x.c0
    have z1 := hW.x.c1
    have z2 := hW.x.c2
    have z3 := hW.x.c3
    go_simp
    try with_reducible rfl
  try simp only [Act.put, List.setIfInBounds_toArray, List.set_cons_zero, List.set_cons_succ]
  refine wpAnyS_step (i := 4) (by kernel_rfl) rfl ?_
  go_wp2_with (go_at_call 25; refine (HF.out _).mono ?_; rintro e w1 ⟨rfl, hb⟩)
  have hS := hS.next hb
  clear hb
  change (4 ≠ 38 → GH w q b len cap _ _ _ zs _) ∧ _
  refine ⟨fun _ => hS, ?_⟩
  have inv := HeadInv.setC (i := 4) inv (by kernel_rfl) (by decide)
  refine wpAnyS_take (i := 5) (v := ?_) G inv hS (by decide) rfl (by kernel_rfl) (by kernel_rfl) (fun _ _ _ h => h) (Or.inl ⟨by kernel_rfl, fun W hW => ?_⟩) (fun inv => ?_)
  rotate_left
  · have z0 := hW.x.c0
    have z1 := hW.x.c1
    have z2 := hW.x.c2
    have z3 := hW.x.c3
    go_simp
    try with_reducible rfl
  try simp only [Act.put, List.setIfInBounds_toArray, List.set_cons_zero, List.set_cons_succ]
  refine wpAnyS_take (i := 6) (v := ?_) G inv hS (by decide) rfl (by kernel_rfl) (by kernel_rfl) (fun _ _ _ h => h) (Or.inl ⟨by kernel_rfl, fun W hW => ?_⟩) (fun inv => ?_)
  rotate_left
  · have z0 := hW.x.c0
    have z1 := hW.x.c1
    have z2 := hW.x.c2
    have z3 := hW.x.c3
    go_simp
    try with_reducible rfl
  try simp only [Act.put, List.setIfInBounds_toArray, List.set_cons_zero, List.set_cons_succ]
  refine wpAnyS_take (i := 7) (v := ?_) G inv hS (by decide) rfl (by kernel_rfl) (by kernel_rfl) (fun _ _ _ h => h) (Or.inl ⟨by kernel_rfl, fun W hW => ?_⟩) (fun inv => ?_)
  rotate_left
  · have z0 := hW.x.c0
    have z1 := hW.x.c1
    have z2 := hW.x.c2
    have z3 := hW.x.c3
    go_simp
    try with_reducible rfl
  try simp only [Act.put, List.setIfInBounds_toArray, List.set_cons_zero, List.set_cons_succ]
  refine wpAnyS_take (i := 8) (v := ?_) G inv hS (by decide) rfl (by kernel_rfl) (by kernel_rfl) (fun _ _ _ h => h) (Or.inl ⟨by kernel_rfl, fun W hW => ?_⟩) (fun inv => ?_)
  rotate_left
  · have z0 := hW.x.c0
    have z1 := hW.x.c1
    have z2 := hW.x.c2
    have z3 := hW.x.c3
    go_simp
    try with_reducible rfl
  try simp only [Act.put, List.setIfInBounds_toArray, List.set_cons_zero, List.set_cons_succ]
  refine wpAnyS_take (i := 9) (v := ?_) G inv hS (by decide) rfl (by kernel_rfl) (by kernel_rfl) (fun _ _ _ h => h) (Or.inl ⟨by kernel_rfl, fun W hW => ?_⟩) (fun inv => ?_)
  rotate_left
  · have z0 := hW.x.c0
    have z1 := hW.x.c1
    have z2 := hW.x.c2
    have z3 := hW.x.c3
    go_simp
    try with_reducible rfl
  try simp only [Act.put, List.setIfInBounds_toArray, List.set_cons_zero, List.set_cons_succ]
  refine wpAnyS_take (i := 10) (v := ?_) G inv hS (by decide) rfl (by kernel_rfl) (by kernel_rfl) (fun _ _ _ h => h) (Or.inl ⟨by kernel_rfl, fun W hW => ?_⟩) (fun inv => ?_)
  rotate_left
  · have z0 := hW.x.c0
    have z1 := hW.x.c1
    have z2 := hW.x.c2
    have z3 := hW.x.c3
    go_simp
    try with_reducible rfl
  try simp only [Act.put, List.setIfInBounds_toArray, List.set_cons_zero, List.set_cons_succ]
  refine wpAnyS_take (i := 11) (v := ?_) G inv hS (by decide) rfl (by kernel_rfl) (by kernel_rfl) (fun _ _ _ h => h) (Or.inl ⟨by kernel_rfl, fun W hW => ?_⟩) (fun inv => ?_)
  rotate_left
  · have z0 := hW.x.c0
    have z1 := hW.x.c1
    have z2 := hW.x.c2
    have z3 := hW.x.c3
    go_simp
    try with_reducible rfl
  try simp only [Act.put, List.setIfInBounds_toArray, List.set_cons_zero, List.set_cons_succ]
  refine wpAnyS_take (i := 12) (v := ?_) G inv hS (by decide) rfl (by kernel_rfl) (by kernel_rfl) (fun _ _ _ h => h) (Or.inl ⟨by kernel_rfl, fun W hW => ?_⟩) (fun inv => ?_)
  rotate_left
  · have z0 := hW.x.c0
    have z1 := hW.x.c1
    have z2 := hW.x.c2
    have z3 := hW.x.c3
    go_simp
    try with_reducible rfl
  try simp only [Act.put, List.setIfInBounds_toArray, List.set_cons_zero, List.set_cons_succ]
  refine wpAnyS_take (i := 13) (v := ?_) G inv hS (by decide) rfl (by kernel_rfl) (by kernel_rfl) (fun _ _ _ h => h) (Or.inl ⟨by kernel_rfl, fun W hW => ?_⟩) (fun inv => ?_)
  rotate_left
  · have z0 := hW.x.c0
    have z1 := hW.x.c1
    have z2 := hW.x.c2
    have z3 := hW.x.c3
    go_simp
    try with_reducible rfl
  try simp only [Act.put, List.setIfInBounds_toArray, List.set_cons_zero, List.set_cons_succ]
  refine wpAnyS_stepG (i := 14) (by kernel_rfl) rfl (by kernel_rfl) ?_
  go_wp2_with (go_at_call 26; refine (HW.out _ hS.m).mono ?_; rintro e w2 ⟨rfl, hb⟩)
  have hS := hS.next hb
  clear hb
  change (14 ≠ 38 → GH w q b len cap _ _ _ zs _) ∧ _
  refine ⟨fun _ => hS, ?_⟩
  have inv := HeadInv.setC (i := 14) inv (by kernel_rfl) (by decide)
  refine wpAnyS_take (i := 15) (v := ?_) G inv hS (by decide) rfl (by kernel_rfl) (by kernel_rfl) (fun _ _ _ h => h) (Or.inl ⟨by kernel_rfl, fun W hW => ?_⟩) (fun inv => ?_)
  rotate_left
  · have z0 := hW.x.c0
    have z1 := hW.x.c1
    have z2 := hW.x.c2
    have z3 := hW.x.c3
    go_simp
    try with_reducible rfl
  try simp only [Act.put, List.setIfInBounds_toArray, List.set_cons_zero, List.set_cons_succ]
  refine wpAnyS_take (i := 16) (v := ?_) G inv hS (by decide) rfl (by kernel_rfl) (by kernel_rfl) (fun _ _ _ h => h) (Or.inl ⟨by kernel_rfl, fun W hW => ?_⟩) (fun inv => ?_)
  rotate_left
  · have z0 := hW.x.c0
    have z1 := hW.x.c1
    have z2 := hW.x.c2
    have z3 := hW.x.c3
    go_simp
    try with_reducible rfl
  try simp only [Act.put, List.setIfInBounds_toArray, List.set_cons_zero, List.set_cons_succ]
  refine wpAnyS_take (i := 17) (v := ?_) G inv hS (by decide) rfl (by kernel_rfl) (by kernel_rfl) (fun _ _ _ h => h) (Or.inl ⟨by kernel_rfl, fun W hW => ?_⟩) (fun inv => ?_)
  rotate_left
  · have z0 := hW.x.c0
    have z1 := hW.x.c1
    have z2 := hW.x.c2
    have z3 := hW.x.c3
    go_simp
    try with_reducible rfl
  try simp only [Act.put, List.setIfInBounds_toArray, List.set_cons_zero, List.set_cons_succ]
  refine wpAnyS_take (i := 18) (v := ?_) G inv hS (by decide) rfl (by kernel_rfl) (by kernel_rfl) (fun _ _ _ h => h) (Or.inl ⟨by kernel_rfl, fun W hW => ?_⟩) (fun inv => ?_)
  rotate_left
  · have z0 := hW.x.c0
    have z1 := hW.x.c1
    have z2 := hW.x.c2
    have z3 := hW.x.c3
    go_simp
    try with_reducible rfl
  try simp only [Act.put, List.setIfInBounds_toArray, List.set_cons_zero, List.set_cons_succ]
  refine wpAnyS_take (i := 19) (v := ?_) G inv hS (by decide) rfl (by kernel_rfl) (by kernel_rfl) (fun _ _ _ h => h) (Or.inl ⟨by kernel_rfl, fun W hW => ?_⟩) (fun inv => ?_)
  rotate_left
  · have z0 := hW.x.c0
    have z1 := hW.x.c1
    have z2 := hW.x.c2
    have z3 := hW.x.c3
    go_simp
    try with_reducible rfl
  try simp only [Act.put, List.setIfInBounds_toArray, List.set_cons_zero, List.set_cons_succ]
  refine wpAnyS_take (i := 20) (v := ?_) G inv hS (by decide) rfl (by kernel_rfl) (by kernel_rfl) (fun _ _ _ h => h) (Or.inl ⟨by kernel_rfl, fun W hW => ?_⟩) (fun inv => ?_)
  rotate_left
  · have z0 := hW.x.c0
    have z1 := hW.x.c1
    have z2 := hW.x.c2
    have z3 := hW.x.c3
    go_simp
    try with_reducible rfl
  try simp only [Act.put, List.setIfInBounds_toArray, List.set_cons_zero, List.set_cons_succ]
  refine wpAnyS_take (i := 21) (v := ?_) G inv hS (by decide) rfl (by kernel_rfl) (by kernel_rfl) (fun _ _ _ h => h) (Or.inl ⟨by kernel_rfl, fun W hW => ?_⟩) (fun inv => ?_)
  rotate_left
  · have z0 := hW.x.c0
    have z1 := hW.x.c1
    have z2 := hW.x.c2
    have z3 := hW.x.c3
    go_simp
    try with_reducible rfl
  try simp only [Act.put, List.setIfInBounds_toArray, List.set_cons_zero, List.set_cons_succ]
  refine wpAnyS_take (i := 22) (v := ?_) G inv hS (by decide) rfl (by kernel_rfl) (by kernel_rfl) (fun _ _ _ h => h) (Or.inl ⟨by kernel_rfl, fun W hW => ?_⟩) (fun inv => ?_)
  rotate_left
  · have z0 := hW.x.c0
    have z1 := hW.x.c1
    have z2 := hW.x.c2
    have z3 := hW.x.c3
    go_simp
    try with_reducible rfl
  try simp only [Act.put, List.setIfInBounds_toArray, List.set_cons_zero, List.set_cons_succ]
  refine wpAnyS_take (i := 23) (v := ?_) G inv hS (by decide) rfl (by kernel_rfl) (by kernel_rfl) (fun _ _ _ h => h) (Or.inl ⟨by kernel_rfl, fun W hW => ?_⟩) (fun inv => ?_)
  rotate_left
  · have z0 := hW.x.c0
    have z1 := hW.x.c1
    have z2 := hW.x.c2
    have z3 := hW.x.c3
    go_simp
    try with_reducible rfl
  try simp only [Act.put, List.setIfInBounds_toArray, List.set_cons_zero, List.set_cons_succ]
  refine wpAnyS_take (i := 24) (v := ?_) G inv hS (by decide) rfl (by kernel_rfl) (by kernel_rfl) (fun _ _ _ h => h) (Or.inl ⟨by kernel_rfl, fun W hW => ?_⟩) (fun inv => ?_)
  rotate_left
  · have z0 := hW.x.c0
    have z1 := hW.x.c1
    have z2 := hW.x.c2
    have z3 := hW.x.c3
    go_simp
    try with_reducible rfl
  try simp only [Act.put, List.setIfInBounds_toArray, List.set_cons_zero, List.set_cons_succ]
  refine wpAnyS_take (i := 25) (v := ?_) G inv hS (by decide) rfl (by kernel_rfl) (by kernel_rfl) (fun _ _ _ h => h) (Or.inl ⟨by kernel_rfl, fun W hW => ?_⟩) (fun inv => ?_)
  rotate_left
  · have z0 := hW.x.c0
    have z1 := hW.x.c1
    have z2 := hW.x.c2
    have z3 := hW.x.c3
    go_simp
    try with_reducible rfl
  try simp only [Act.put, List.setIfInBounds_toArray, List.set_cons_zero, List.set_cons_succ]
  refine wpAnyS_take (i := 27) (v := ?_) G inv hS (by decide) rfl (by kernel_rfl) (by kernel_rfl) (fun _ _ _ h => h) (Or.inl ⟨by kernel_rfl, fun W hW => ?_⟩) (fun inv => ?_)
  rotate_left
  · have z0 := hW.x.c0
    have z1 := hW.x.c1
    have z2 := hW.x.c2
    have z3 := hW.x.c3
    go_simp
    try with_reducible rfl
  try simp only [Act.put, List.setIfInBounds_toArray, List.set_cons_zero, List.set_cons_succ]
  have hz := hS.m
  refine wpAnyS_stepG (i := 26) (by kernel_rfl) rfl (by kernel_rfl) ?_
  go_wp2_with (go_at_call 27; refine (HK.out _ hS.m).mono ?_; rintro e w3 ⟨rfl, hb⟩)
  have hS := hS.next hb
  clear hb
  change (26 ≠ 38 → GH w q b len cap _ _ _ zs _) ∧ _
  refine ⟨fun _ => hS, ?_⟩
  have inv := HeadInv.setC (i := 26) inv (by kernel_rfl) (by decide)
  refine wpAnyS_take (i := 28) (v := .bool true) G inv hS (by decide) rfl (by kernel_rfl) (by kernel_rfl) (fun _ _ _ h => h) (Or.inl ⟨by kernel_rfl, fun W hW => ?_⟩) (fun inv => ?_)
  skip
  · have z0 := hW.x.c0
    have z1 := hW.x.c1
    have z2 := hW.x.c2
    have z3 := hW.x.c3
    go_simp
    try with_reducible rfl
  try simp only [Act.put, List.setIfInBounds_toArray, List.set_cons_zero, List.set_cons_succ]
  refine wpAnyS_take (i := 29) (v := .bool true) G inv hS (by decide) rfl (by kernel_rfl) (by kernel_rfl) (fun _ _ _ h => h) (Or.inl ⟨by kernel_rfl, fun W hW => ?_⟩) (fun inv => ?_)
  skip
  · have z0 := hW.x.c0
    have z1 := hW.x.c1
    have z2 := hW.x.c2
    have z3 := hW.x.c3
    go_simp
    try with_reducible rfl
  try simp only [Act.put, List.setIfInBounds_toArray, List.set_cons_zero, List.set_cons_succ]
  refine wpAnyS_take (i := 30) (v := .bool true) G inv hS (by decide) rfl (by kernel_rfl) (by kernel_rfl) (fun _ _ _ h => h) (Or.inl ⟨by kernel_rfl, fun W hW => ?_⟩) (fun inv => ?_)
  skip
  · have z0 := hW.x.c0
    have z1 := hW.x.c1
    have z2 := hW.x.c2
    have z3 := hW.x.c3
    go_simp
    try with_reducible rfl
  try simp only [Act.put, List.setIfInBounds_toArray, List.set_cons_zero, List.set_cons_succ]
  refine wpAnyS_take (i := 31) (v := ?_) G inv hS (by decide) rfl (by kernel_rfl) (by kernel_rfl) (fun _ _ _ h => h) (Or.inl ⟨by kernel_rfl, fun W hW => ?_⟩) (fun inv => ?_)
  rotate_left
  · have z0 := hW.x.c0
    have z1 := hW.x.c1
    have z2 := hW.x.c2
    have z3 := hW.x.c3
    go_simp
    try with_reducible rfl
  try simp only [Act.put, List.setIfInBounds_toArray, List.set_cons_zero, List.set_cons_succ]
  refine wpAnyS_take (i := 32) (v := ?_) G inv hS (by decide) rfl (by kernel_rfl) (by kernel_rfl) (fun _ _ _ h => h) (Or.inl ⟨by kernel_rfl, fun W hW => ?_⟩) (fun inv => ?_)
  rotate_left
  · have z0 := hW.x.c0
    have z1 := hW.x.c1
    have z2 := hW.x.c2
    have z3 := hW.x.c3
    go_simp
    try with_reducible rfl
  try simp only [Act.put, List.setIfInBounds_toArray, List.set_cons_zero, List.set_cons_succ]
  refine wpAnyS_take (i := 33) (v := ?_) G inv hS (by decide) rfl (by kernel_rfl) (by kernel_rfl) (fun _ _ _ h => h) (Or.inl ⟨by kernel_rfl, fun W hW => ?_⟩) (fun inv => ?_)
  rotate_left
  · have z0 := hW.x.c0
    have z1 := hW.x.c1
    have z2 := hW.x.c2
    have z3 := hW.x.c3
    go_simp
    try with_reducible rfl
  try simp only [Act.put, List.setIfInBounds_toArray, List.set_cons_zero, List.set_cons_succ]
  refine wpAnyS_take (i := 34) (v := ?_) G inv hS (by decide) rfl (by kernel_rfl) (by kernel_rfl) (fun _ _ _ h => h) (Or.inl ⟨by kernel_rfl, fun W hW => ?_⟩) (fun inv => ?_)
  rotate_left
  · have z0 := hW.x.c0
    have z1 := hW.x.c1
    have z2 := hW.x.c2
    have z3 := hW.x.c3
    go_simp
    try with_reducible rfl
  try simp only [Act.put, List.setIfInBounds_toArray, List.set_cons_zero, List.set_cons_succ]
  refine wpAnyS_take (i := 35) (v := ?_) G inv hS (by decide) rfl (by kernel_rfl) (by kernel_rfl) (fun _ _ _ h => h) (Or.inl ⟨by kernel_rfl, fun W hW => ?_⟩) (fun inv => ?_)
  rotate_left
  · have z0 := hW.x.c0
    have z1 := hW.x.c1
    have z2 := hW.x.c2
    have z3 := hW.x.c3
    go_simp
    try with_reducible rfl
  try simp only [Act.put, List.setIfInBounds_toArray, List.set_cons_zero, List.set_cons_succ]
  refine wpAnyS_stepG (i := 36) (by kernel_rfl) rfl (by kernel_rfl) ?_
  go_wp2_with (go_at_call 13; refine (HI.out _).mono ?_; rintro e w' ⟨rfl, rfl⟩)
  change (36 ≠ 38 → GH w q b len cap _ _ _ zs _) ∧ _
  refine ⟨fun _ => hS, ?_⟩
  have inv := HeadInv.setC (i := 36) inv (by kernel_rfl) (by decide)
  refine wpAnyS_take (i := 37) (v := ?_) G inv hS (by decide) rfl (by kernel_rfl) (by kernel_rfl) (fun _ _ _ h => h) (Or.inl ⟨by kernel_rfl, fun W hW => ?_⟩) (fun inv => ?_)
  rotate_left
  · have z0 := hW.x.c0
    have z1 := hW.x.c1
    have z2 := hW.x.c2
    have z3 := hW.x.c3
    go_simp
    try with_reducible rfl
  try simp only [Act.put, List.setIfInBounds_toArray, List.set_cons_zero, List.set_cons_succ]
  refine wpAnyS_step (i := 38) (by kernel_rfl) rfl ?_
  go_wp2
  refine ⟨fun h => absurd rfl h, ?_⟩
  refine wpAnyS_done (by kernel_rfl) ?_ _
  go_wp2
  go_ret
  exact ⟨rfl, hS.b⟩
theorem l05Ok_any (d p : Int) (q b len cap : Nat) (k : Int) (zs : List Int) (w : World) (hX : Box4 w q (.int .i64 d) (.int .i64 p) (.slice (some ⟨b, 0, none⟩) len cap) (.int .i64 k)) (hM : Mt w b len zs) (r : Bool) (hr : gabF d p zs k = r) :
    Calls Tryd.prog 12 #[.pointer (some ⟨q, 0, none⟩)] w fun e w' => e = .returned (.bool r) ∧ Below w.heap.size w w' := by
  have hlen := hM.len
  subst hr
  cases hf : fldI d p with
  | false => rw [gabF_no hf]; exact l05Ok_A d p hf q b len cap k zs w hX hM
  | true =>
    obtain ⟨m, P, rfl, rfl, hF⟩ := fldI_nat hf
    have hF := Fld.of hF
    rw [gabF_yes hF]
    cases hg : gabB (2 ^ m) zs k with
    | true =>
      obtain ⟨h1, h2, h3, h4⟩ := gabB_yes hg
      exact l05Ok_D m P _ hF q b len cap k zs w hX hM h1 h2 true (decide_eq_true ⟨h3, by omega⟩)
    | false =>
      rcases gabB_no hg with h1 | ⟨h1, h2⟩ | ⟨h1, h2, h3⟩
      · exact l05Ok_B m P _ hF q b len cap k zs w hX hM h1
      · exact l05Ok_C m P _ hF q b len cap k zs w hX hM h1 h2
      · exact l05Ok_D m P _ hF q b len cap k zs w hX hM h1 h2 false (decide_eq_false (by omega))
end Go.Proofs.YtllojcndhkpfmaaDoor
namespace Go.Proofs.YtllojcndhkpfmaaDoor
open Go.RowKit Go.Joins
set_option linter.unusedVariables false

/-- The coder's three values. -/
structure PC (W : World) (q c g m P n len : Nat) (k : Int) (L : List Nat) : Prop where
  c0 : W.cell? ⟨q, 0, none⟩ = some (.pointer (some ⟨c, 0, none⟩))
  c1 : W.cell? ⟨q, 1, none⟩ = some (.slice (some ⟨g, 0, none⟩) len len)
  c2 : W.cell? ⟨q, 2, none⟩ = some (.int .i64 k)
  lt : q < W.heap.size
  cal : Calc c m P n W
  row : Rl W .u8 (some ⟨g, 0, none⟩) len L
theorem PC.next {W W' : World} {q c g m P n len : Nat} {k : Int} {L : List Nat} (h : PC W q c g m P n len k L) (hb : Below W.heap.size W W') : PC W' q c g m P n len k L :=
  ⟨(hb.cell (p := ⟨q, 0, none⟩) h.lt).trans h.c0, (hb.cell (p := ⟨q, 1, none⟩) h.lt).trans h.c1, (hb.cell (p := ⟨q, 2, none⟩) h.lt).trans h.c2, Nat.lt_of_lt_of_le h.lt hb.size, h.cal.below h.cal.lt hb, h.row.below hb⟩

set_option maxHeartbeats 1600000 in
theorem pointCoderFor_A (d p : Int) (hf : fldI d p = false) (hl : -9223372036854775808 ≤ p) (hh : p ≤ 9223372036854775807) (v : Value) (ao : Option Addr) (len cap : Nat) (hv : v = .slice ao len cap) (hlen : len ≤ 1048576) (k : Int) (w : World) :
    Calls Tryd.prog 17 #[.agg (gabC d p v k)] w fun e w' => e = .returned (.tuple #[.pointer none, .int .i64 1]) ∧ Below w.heap.size w w' := by
  subst hv
  have HF := Lib.hid hf
  have hb0 := below_alloc1 w (.cells (gabC d p (.slice ao len cap) k) 30)
  clear hf
  go_enter Tryd.func17, Tryd.ntmps17
  go_wp2_with (go_at_call 29; refine (calculatorFor_invalid d p HF.out hl hh _ _).mono ?_; rintro e w1 ⟨rfl, hb⟩)
  go_ret2
  exact ⟨rfl, hb0.trans (hb.mono hb0.size)⟩
set_option maxHeartbeats 1600000 in
theorem pointCoderFor_B (m P n : Nat) (hF : Fld m P n) (b len cap : Nat) (zs : List Int) (k : Int) (hi : allIn n zs = false) (w : World) (hM : Mt w b len zs) :
    Calls Tryd.prog 17 #[.agg (gabC m P (.slice (some ⟨b, 0, none⟩) len cap) k)] w fun e w' => e = .returned (.tuple #[.pointer none, .int .i64 1]) ∧ Below w.heap.size w w' := by
  have hb0 := below_alloc1 w (.cells (gabC m P (.slice (some ⟨b, 0, none⟩) len cap) k) 30)
  have hs := hM.small
  have HM := Lib.hid (hM.below hb0)
  have HI := Lib.hid hi
  clear hi hM
  go_enter Tryd.func17, Tryd.ntmps17
  go_wp2_with (go_at_call 29; refine (calculatorFor_B m P _ hF _ _ len cap zs HM.out.arg (by omega) HI.out).mono ?_; rintro e w1 ⟨rfl, hb⟩)
  go_ret2
  exact ⟨rfl, hb0.trans (hb.mono hb0.size)⟩
set_option maxHeartbeats 1600000 in
theorem pointCoderFor_K (m P n : Nat) (hF : Fld m P n) (b len cap : Nat) (zs : List Int) (k : Int) (hi : allIn n zs = true) (hk : k < 1 ∨ (len : Int) < k) (w : World) (hM : Mt w b len zs) :
    Calls Tryd.prog 17 #[.agg (gabC m P (.slice (some ⟨b, 0, none⟩) len cap) k)] w fun e w' => e = .returned (.tuple #[.pointer none, .int .i64 1]) ∧ Below w.heap.size w w' := by
  have hb0 := below_alloc1 w (.cells (gabC m P (.slice (some ⟨b, 0, none⟩) len cap) k) 30)
  have hX0 := Box4.one w (.int .i64 m) (.int .i64 P) (.slice (some ⟨b, 0, none⟩) len cap) (.int .i64 k) 30
  have hs := hM.small
  have HM := Lib.hid (hM.below hb0)
  have HI := Lib.hid hi
  have HX := Lib.hid hX0
  clear hi hM hX0
  rcases Int.lt_or_le k 1 with hk1 | hk1
  · clear hk
    go_enter Tryd.func17, Tryd.ntmps17
    go_wp2_with (go_at_call 29; refine (calculatorFor_C m P _ hF _ _ len cap zs HM.out.arg (by omega) HI.out).mono ?_; rintro e w1 ⟨c, rfl, hb, hC, hc⟩; have x2 := (HX.out.next hb).c3)
    go_ret2
    exact ⟨rfl, hb0.trans (hb.mono hb0.size)⟩
  · have hk2 : (len : Int) < k := by omega
    clear hk
    go_enter Tryd.func17, Tryd.ntmps17
    go_wp2_with (go_at_call 29; refine (calculatorFor_C m P _ hF _ _ len cap zs HM.out.arg (by omega) HI.out).mono ?_; rintro e w1 ⟨c, rfl, hb, hC, hc⟩; have x2 := (HX.out.next hb).c3)
    go_ret2
    exact ⟨rfl, hb0.trans (hb.mono hb0.size)⟩
set_option maxHeartbeats 1600000 in
theorem pointCoderFor_C (m P n : Nat) (hF : Fld m P n) (b len cap : Nat) (zs : List Int) (k : Int) (hi : allIn n zs = true) (hk : 1 ≤ k) (hk2 : k ≤ (len : Int)) (w : World) (hM : Mt w b len zs) (hT : Tab w) :
    Calls Tryd.prog 17 #[.agg (gabC m P (.slice (some ⟨b, 0, none⟩) len cap) k)] w fun e w' => Below w.heap.size w w' ∧ ((joined [] (nats zs)).length < len → e = .returned (.tuple #[.pointer none, .int .i64 1])) ∧
      (¬ (joined [] (nats zs)).length < len → ∃ q c g, e = .returned (.tuple #[.pointer (some ⟨q, 0, none⟩), .int .i64 0]) ∧ PC w' q c g m P n len k (nats zs)) := by
  have hm5 := hF.m5
  have h32 := hF.n32
  have hb0 := below_alloc1 w (.cells (gabC m P (.slice (some ⟨b, 0, none⟩) len cap) k) 30)
  have hX0 := Box4.one w (.int .i64 m) (.int .i64 P) (.slice (some ⟨b, 0, none⟩) len cap) (.int .i64 k) 30
  have hs := hM.small
  have hlt := lt_mem (nats_lt hi (by have := hF.n2; omega : 0 < n))
  rw [← hF.n] at hlt
  have RK := Lib.hid (fun A w hR hT => rank_any m hm5 A len len (nats zs) hlt (by omega) w hR hT)
  have HT := Lib.hid (hT.below hb0)
  have HM := Lib.hid (hM.below hb0)
  have HI := Lib.hid hi
  have HX := Lib.hid hX0
  have EL := Lib.hid (fun w hM => elementsOf_any b len cap n zs (by have := hF.n2; omega) (by omega) w hM hi)
  obtain ⟨p, hp⟩ : ∃ p, nats zs = p := ⟨_, rfl⟩
  rw [hp] at RK EL ⊢
  generalize (joined [] p).length = J at RK ⊢
  clear hi hM hX0 hlt hT hp
  by_cases hJ : J < len
  all_goals
    go_enter Tryd.func17, Tryd.ntmps17
    go_wp2_with fail
    refine (calculatorFor_C m P _ hF _ _ len cap zs HM.out.arg (by omega) HI.out).mono ?_
    rintro e w1 ⟨c, rfl, hb, hC, hc⟩
    have hX1 := HX.out.next hb
    have hb1 := hb0.trans (hb.mono hb0.size)
    have HM1 := Lib.hid (HM.out.below hb)
    have HT1 := Lib.hid (HT.out.below hb)
    have x2 := hX1.c2; have x3 := hX1.c3
    clear hb hb0 HM HT
    go_wp2_with fail
    refine (EL.out _ HM1.out).mono ?_
    rintro e w2 ⟨g, rfl, hb, hR⟩
    have hX2 := hX1.next hb
    have hb2 := hb1.trans (hb.mono hb1.size)
    have HT2 := Lib.hid (HT1.out.below hb)
    have HR2 := Lib.hid hR
    have HC2 := Lib.hid (hC.below hC.lt hb)
    clear hb hb1 hX1 x2 x3 HM1 HT1 hR hC
    go_wp2_with fail
    refine (RK.out _ _ HR2.out HT2.out).mono ?_
    rintro e w3 ⟨rfl, hb⟩
    have hX3 := hX2.next hb
    have hb3 := hb2.trans (hb.mono hb2.size)
    have HR3 := Lib.hid (HR2.out.below hb)
    have HC3 := Lib.hid (HC2.out.below HC2.out.lt hb)
    have x3 := hX3.c3
    have HB3 := Lib.hid hb3
    clear hb hb2 hX2 HR2 HC2 HT2 hb3
    go_wp2_with fail
    go_ret2
  · exact ⟨HB3.out, fun _ => rfl, fun h => absurd hJ h⟩
  · have hba := below_alloc1 w3 (.cells #[.pointer (some ⟨c, 0, none⟩), .slice (some ⟨g, 0, none⟩) len len, .int .i64 k] 55)
    exact ⟨HB3.out.trans (hba.mono HB3.out.size), fun h => absurd h hJ, fun _ => ⟨_, c, g, rfl, ⟨by simp, by simp, by simp, by simp, HC3.out.below HC3.out.lt hba, HR3.out.below hba⟩⟩⟩

/-- The coder, or ErrInvalid. -/
theorem pointCoderFor_no (d p : Int) (b len cap : Nat) (zs : List Int) (k : Int) (hg : gabF d p zs k = false) (hl : -9223372036854775808 ≤ p) (hh : p ≤ 9223372036854775807) (w : World) (hM : Mt w b len zs) (hT : Tab w) :
    Calls Tryd.prog 17 #[.agg (gabC d p (.slice (some ⟨b, 0, none⟩) len cap) k)] w fun e w' => e = .returned (.tuple #[.pointer none, .int .i64 1]) ∧ Below w.heap.size w w' := by
  have hlen := hM.len
  cases hf : fldI d p with
  | false => exact pointCoderFor_A d p hf hl hh _ _ _ _ rfl hM.small k w
  | true =>
    obtain ⟨m, P, rfl, rfl, hF⟩ := fldI_nat hf
    have hF := Fld.of hF
    rw [gabF_yes hF] at hg
    rcases gabB_alt hF.m5 rfl hg with hi | ⟨hi, hk⟩ | ⟨hi, hk, hk2, hj⟩
    · exact pointCoderFor_B m P _ hF b len cap zs k hi w hM
    · exact pointCoderFor_K m P _ hF b len cap zs k hi (by omega) w hM
    · refine (pointCoderFor_C m P _ hF b len cap zs k hi hk (by omega) w hM hT).mono ?_
      rintro e w' ⟨hb, h1, _⟩
      exact ⟨h1 (by omega), hb⟩
theorem pointCoderFor_yes (m P n : Nat) (hF : Fld m P n) (b len cap : Nat) (zs : List Int) (k : Int) (hg : gabB n zs k = true) (w : World) (hM : Mt w b len zs) (hT : Tab w) :
    Calls Tryd.prog 17 #[.agg (gabC m P (.slice (some ⟨b, 0, none⟩) len cap) k)] w fun e w' => ∃ q c g, e = .returned (.tuple #[.pointer (some ⟨q, 0, none⟩), .int .i64 0]) ∧ Below w.heap.size w w' ∧ PC w' q c g m P n len k (nats zs) := by
  have hlen := hM.len
  obtain ⟨h1, h2, h3, h4⟩ := gabB_yes hg
  refine (pointCoderFor_C m P _ hF b len cap zs k (okW_in h1) h3 (by omega) w hM hT).mono ?_
  rintro e w' ⟨hb, _, h5⟩
  obtain ⟨q, c, g, he, hP⟩ := h5 (by omega)
  exact ⟨q, c, g, he, hb, hP⟩
end Go.Proofs.YtllojcndhkpfmaaDoor
