/- A coder's code: its rows as a rank code. -/
import Derived.Test.YtljaabmemjehpaaCoder
import Derived.Test.YtljaabmemjehpaaCode
namespace Go.Proofs.Ytljaabmemjehpaa
open Go.RowKit Go.Joins Go.ChangeShapes Go.WideShapes Go.Deep
set_option linter.unusedVariables false
set_option linter.unusedSimpArgs false

/-- Rows of numbers that are appended one by one. -/
structure CR (W : World) (B len k : Nat) (v : Value) (hs : Nat → List Nat) (vs : Nat → Value) (b : Nat → Nat) : Prop where
  head : W.ownsRow B 27 1 v k ((List.range k).map vs)
  form : ∀ j, j < k → vs j = .slice (some ⟨b j, 0, none⟩) len len
  row : ∀ j, j < k → Mt W (b j) len (ints (hs j))
  own : ∀ j, j < k → B ≤ b j ∧ v.ownBlock ≠ some (b j)
  inj : Inj k b
theorem CR.below {W W' : World} {B len k : Nat} {v : Value} {hs : Nat → List Nat} {vs : Nat → Value} {b : Nat → Nat} (h : CR W B len k v hs vs b) (hb : Below W.heap.size W W') : CR W' B len k v hs vs b :=
  ⟨ownsRow_below h.head hb, h.form, fun j hj => (h.row j hj).below hb, h.own, h.inj⟩
theorem CR.other {W : World} {B len k : Nat} {v : Value} {hs : Nat → List Nat} {vs : Nat → Value} {b : Nat → Nat} (h : CR W B len k v hs vs b) {q : Nat} (hq : q < B) (i : Nat) (u : Value) : CR (W.setCell ⟨q, i, none⟩ u) B len k v hs vs b :=
  ⟨ownsRow_setCell_below h.head hq _, h.form, fun j hj => (h.row j hj).setCell (by have := (h.own j hj).1; show b j ≠ q; omega) _, h.own, h.inj⟩
theorem CR.snoc {w1 w2 : World} {B len k b1 : Nat} {v v' : Value} {hs : Nat → List Nat} {vs : Nat → Value} {b : Nat → Nat} {O : Obj} (h : CR w1 B len k v hs vs b) (hM : Mt w1 b1 len (ints (hs k))) (h1 : B ≤ b1) (h2 : v.ownBlock ≠ some b1 ∧ ∀ j, j < k → b j ≠ b1)
    (hown : w2.ownsRow B 27 1 v' (k + 1) ((List.range k).map vs ++ [.slice (some ⟨b1, 0, none⟩) len len])) (hgrow : (w1.alloc O).grownBy w2 v.ownBlock) (hat : v'.ownBlock = v.ownBlock ∨ v'.ownBlock = some (w1.alloc O).heap.size) :
    CR w2 B len (k + 1) v' hs (up vs k (.slice (some ⟨b1, 0, none⟩) len len)) (up b k b1) := by
  have hz : (w1.alloc O).heap.size = w1.heap.size + 1 := by simp
  have keep : ∀ x, x < w1.heap.size → v.ownBlock ≠ some x → w2.heap[x]? = w1.heap[x]? := fun x hx hne => (hgrow.block x (by omega) (fun e => hne e.symm)).trans ((below_alloc1 w1 O).block x hx)
  have hsz : w1.heap.size ≤ w2.heap.size := by have := hgrow.size; omega
  have hv' : ∀ x, x < w1.heap.size → v.ownBlock ≠ some x → v'.ownBlock ≠ some x := fun x hx hne => by
    rcases hat with e | e
    · rw [e]; exact hne
    · rw [e, hz]; intro h; injection h with h; omega
  refine ⟨?_, fun j hj => ?_, fun j hj => ?_, fun j hj => ?_, fun i j hi hj hij => ?_⟩
  · have e : (List.range (k + 1)).map (up vs k (.slice (some ⟨b1, 0, none⟩) len len)) = (List.range k).map vs ++ [.slice (some ⟨b1, 0, none⟩) len len] := by
      rw [le_range, List.map_append, List.map_singleton, up_same]
      congr 1
      refine List.map_congr_left (fun j hj => up_ne _ _ ?_)
      have := List.mem_range.1 hj; omega
    rw [e]; exact hown
  · by_cases e : j = k
    · subst e; rw [up_same, up_same]
    · rw [up_ne _ _ e, up_ne _ _ e]; exact h.form j (by omega)
  · by_cases e : j = k
    · subst e; rw [up_same]; exact hM.at (keep b1 hM.lt h2.1) hsz
    · rw [up_ne _ _ e]
      exact (h.row j (by omega)).at (keep (b j) (h.row j (by omega)).lt (h.own j (by omega)).2) hsz
  · by_cases e : j = k
    · subst e; rw [up_same]; exact ⟨h1, hv' _ hM.lt h2.1⟩
    · rw [up_ne _ _ e]
      exact ⟨(h.own j (by omega)).1, hv' _ (h.row j (by omega)).lt (h.own j (by omega)).2⟩
  · unfold up
    by_cases e1 : i = k
    · rw [if_pos e1, if_neg (by omega)]; exact fun e => h2.2 j (by omega) e.symm
    · rw [if_neg e1]
      by_cases e2 : j = k
      · rw [if_pos e2]; exact h2.2 i (by omega)
      · rw [if_neg e2]; exact h.inj i j (by omega) (by omega) hij
theorem CR.rs {W : World} {B len k : Nat} {v : Value} {hs : Nat → List Nat} {vs : Nat → Value} {b : Nat → Nat} (h : CR W B len k v hs vs b) (hk10 : k ≤ 1000) (h5 : len ≤ 5) : RS W B W.heap.size v ((List.range k).map fun j => ints (hs j)) := by
  have hrow : ∀ j, j < k → rw' ((List.range k).map fun j => ints (hs j)) j = ints (hs j) := fun j hj => by simp [rw', hj]
  have htot : ∀ i, i ≤ k → tot ((List.range k).map fun j => ints (hs j)) i ≤ i * 5 := by
    intro i
    induction i with
    | zero => intro _; exact Nat.zero_le _
    | succ i ih =>
      intro hi
      have h1 := ih (by omega)
      have h2 := (h.row i (by omega)).len
      simp only [tot]
      rw [hrow i (by omega)]
      omega
  have hsm : ((List.range k).map fun j => ints (hs j)).length + total ((List.range k).map fun j => ints (hs j)) ≤ 1048576 := by
    have h1 := htot k (Nat.le_refl _)
    unfold total
    rw [show ((List.range k).map fun j => ints (hs j)).length = k by simp]
    omega
  rcases ownsRow_forms h.head with ⟨rfl, rfl⟩ | ⟨g, cap, rfl⟩
  · exact ⟨Nat.le_refl _, hsm, none, 0, by simp, fun h0 => by simp at h0⟩
  · have hlt := h.head.lt g rfl
    refine ⟨Nat.le_refl _, hsm, some ⟨g, 0, none⟩, cap, by simp, fun h0 => ⟨g, rfl, hlt.1, hlt.2, vs, b, fun j hj => ?_, fun i j hij hj _ _ => ?_⟩⟩
    · have hjk : j < k := by simpa using hj
      rw [hrow j hjk]
      have hr := h.row j hjk
      obtain ⟨o1, o2⟩ := h.own j hjk
      refine ⟨by rw [h.head.cellAt j (by omega)]; simp [hjk], ?_, fun _ => ⟨o1, hr.lt, fun e => o2 (by rw [e]; rfl)⟩⟩
      rw [h.form j hjk]
      exact .row (b j) len len _ (Nat.le_refl _) (Nat.lt_succ_self _) hr.lt hr.len hr.small hr.cell (fun i _ => hr.free i)
    · have hjk : j < k := by simpa using hj
      exact h.inj i j (by omega) hjk (by omega)

set_option maxRecDepth 100000 in
set_option maxHeartbeats 12800000 in
theorem code_any (m P N : Nat) (hF : Fld m P N) (q c : Nat) (d p : Int) (B len n : Nat) (hl0 : 0 < len) (hl5 : len ≤ 5) (hn : n ≤ 900) (v : Value) (hs : Nat → List Nat) (vs : Nat → Value) (b : Nat → Nat) (hlt : ∀ j, j < n → ∀ i, nth (hs j) i < N) (w : World) (hK : KA w q c d p m P N B len n v hs vs b) :
    Calls Try.prog 85 #[.pointer (some ⟨q, 0, none⟩)] w fun e w' => ∃ v', e = .returned (.agg (codL d p (len : Int) v').toArray) ∧ Below w.heap.size w w' ∧ RS w' w.heap.size w'.heap.size v' ((List.range n).map fun j => ints (hs j)) := by
  obtain ⟨i1, hi', hz0', hz1', hz2'⟩ := info_parts Try.infoSl
  have hN32 := hF.n32
  have HK := Lib.hid hK
  have HLT := Lib.hid hlt
  have hqw : q < w.heap.size := hK.x.b.lt
  have HF := Lib.hid hF
  clear hlt
  go_enter Try.func85, Try.ntmps85
  have hR0 := LF.start w (codL 0 0 0 (.slice none 0 0)) 33
  have hb0 := below_alloc1 w (.cells (codL 0 0 0 (.slice none 0 0)).toArray 33)
  obtain ⟨A', cap', rfl, _⟩ := hK.r.rk
  obtain ⟨Φ, hΦ⟩ : ∃ Φ : World → Prop, Φ = fun W => LF W w.heap.size (codL 0 0 0 (.slice none 0 0)) ∧ Below w.heap.size w W := ⟨_, rfl⟩
  have F0 : Φ (w.alloc (.cells (codL 0 0 0 (.slice none 0 0)).toArray 33)).drew := by
    rw [hΦ]
    exact ⟨hR0.next (Below.refl _ _).drew, hb0.drew⟩
  have SA : Hid (∀ W O, Φ W → Φ (W.alloc O)) := Lib.hid fun W O h => by
    rw [hΦ] at h ⊢
    exact ⟨h.1.next (below_alloc1 _ _), h.2.trans ((below_alloc1 _ _).mono h.2.size)⟩
  have KQ : Hid (∀ W, Below w.heap.size w W → KA W q c d p m P N B len n (.slice A' n cap') hs vs b) := Lib.hid fun W h => HK.out.next h
  have CX1 : Hid (∀ W, Φ W → W.cell? ⟨q, 1, none⟩ = some (.int .i64 d)) := Lib.hid fun W h => by rw [hΦ] at h; exact (KQ.out _ h.2).x.b.cell 1 _ rfl
  have CX2 : Hid (∀ W, Φ W → W.cell? ⟨q, 2, none⟩ = some (.int .i64 p)) := Lib.hid fun W h => by rw [hΦ] at h; exact (KQ.out _ h.2).x.b.cell 2 _ rfl
  have CX3 : Hid (∀ W, Φ W → W.cell? ⟨q, 3, none⟩ = some (.int .i64 (len : Int))) := Lib.hid fun W h => by rw [hΦ] at h; exact (KQ.out _ h.2).x.b.cell 3 _ rfl
  have CE := Lib.hid hΦ
  clear hΦ hK hR0 hb0
  go_wp2_with fail
  refine wp_region_S (n := 10) (S := Φ) (by kernel_rfl) (by kernel_rfl) F0 (fun G inv hS => ?_)
  clear F0
  refine wpAnyS_take (i := 0) (v := ?_) G inv hS (by decide) rfl (by kernel_rfl) (by kernel_rfl) (fun _ _ _ h => h) (Or.inl ⟨by kernel_rfl, fun W hW => ?_⟩) (fun inv => ?_)
  rotate_left
  · have z1 := CX1.out _ hW
    have z2 := CX2.out _ hW
    have z3 := CX3.out _ hW
    go_simp
    try with_reducible rfl
  try simp only [Act.put, List.setIfInBounds_toArray, List.set_cons_zero, List.set_cons_succ]
  refine wpAnyS_take (i := 1) (v := ?_) G inv hS (by decide) rfl (by kernel_rfl) (by kernel_rfl) (fun _ _ _ h => h) (Or.inl ⟨by kernel_rfl, fun W hW => ?_⟩) (fun inv => ?_)
  rotate_left
  · have z1 := CX1.out _ hW
    have z2 := CX2.out _ hW
    have z3 := CX3.out _ hW
    go_simp
    try with_reducible rfl
  try simp only [Act.put, List.setIfInBounds_toArray, List.set_cons_zero, List.set_cons_succ]
  refine wpAnyS_take (i := 2) (v := ?_) G inv hS (by decide) rfl (by kernel_rfl) (by kernel_rfl) (fun _ _ _ h => h) (Or.inl ⟨by kernel_rfl, fun W hW => ?_⟩) (fun inv => ?_)
  rotate_left
  · have z1 := CX1.out _ hW
    have z2 := CX2.out _ hW
    have z3 := CX3.out _ hW
    go_simp
    try with_reducible rfl
  try simp only [Act.put, List.setIfInBounds_toArray, List.set_cons_zero, List.set_cons_succ]
  refine wpAnyS_take (i := 3) (v := ?_) G inv hS (by decide) rfl (by kernel_rfl) (by kernel_rfl) (fun _ _ _ h => h) (Or.inl ⟨by kernel_rfl, fun W hW => ?_⟩) (fun inv => ?_)
  rotate_left
  · have z1 := CX1.out _ hW
    have z2 := CX2.out _ hW
    have z3 := CX3.out _ hW
    go_simp
    try with_reducible rfl
  try simp only [Act.put, List.setIfInBounds_toArray, List.set_cons_zero, List.set_cons_succ]
  refine wpAnyS_take (i := 4) (v := ?_) G inv hS (by decide) rfl (by kernel_rfl) (by kernel_rfl) (fun _ _ _ h => h) (Or.inl ⟨by kernel_rfl, fun W hW => ?_⟩) (fun inv => ?_)
  rotate_left
  · have z1 := CX1.out _ hW
    have z2 := CX2.out _ hW
    have z3 := CX3.out _ hW
    go_simp
    try with_reducible rfl
  try simp only [Act.put, List.setIfInBounds_toArray, List.set_cons_zero, List.set_cons_succ]
  refine wpAnyS_take (i := 5) (v := ?_) G inv hS (by decide) rfl (by kernel_rfl) (by kernel_rfl) (fun _ _ _ h => h) (Or.inl ⟨by kernel_rfl, fun W hW => ?_⟩) (fun inv => ?_)
  rotate_left
  · have z1 := CX1.out _ hW
    have z2 := CX2.out _ hW
    have z3 := CX3.out _ hW
    go_simp
    try with_reducible rfl
  try simp only [Act.put, List.setIfInBounds_toArray, List.set_cons_zero, List.set_cons_succ]
  refine wpAnyS_take (i := 6) (v := ?_) G inv hS (by decide) rfl (by kernel_rfl) (by kernel_rfl) (fun _ _ _ h => h) (Or.inl ⟨by kernel_rfl, fun W hW => ?_⟩) (fun inv => ?_)
  rotate_left
  · have z1 := CX1.out _ hW
    have z2 := CX2.out _ hW
    have z3 := CX3.out _ hW
    go_simp
    try with_reducible rfl
  try simp only [Act.put, List.setIfInBounds_toArray, List.set_cons_zero, List.set_cons_succ]
  refine wpAnyS_take (i := 7) (v := ?_) G inv hS (by decide) rfl (by kernel_rfl) (by kernel_rfl) (fun _ _ _ h => h) (Or.inl ⟨by kernel_rfl, fun W hW => ?_⟩) (fun inv => ?_)
  rotate_left
  · have z1 := CX1.out _ hW
    have z2 := CX2.out _ hW
    have z3 := CX3.out _ hW
    go_simp
    try with_reducible rfl
  try simp only [Act.put, List.setIfInBounds_toArray, List.set_cons_zero, List.set_cons_succ]
  refine wpAnyS_take (i := 8) (v := ?_) G inv hS (by decide) rfl (by kernel_rfl) (by kernel_rfl) (fun _ _ _ h => h) (Or.inl ⟨by kernel_rfl, fun W hW => ?_⟩) (fun inv => ?_)
  rotate_left
  · have z1 := CX1.out _ hW
    have z2 := CX2.out _ hW
    have z3 := CX3.out _ hW
    go_simp
    try with_reducible rfl
  try simp only [Act.put, List.setIfInBounds_toArray, List.set_cons_zero, List.set_cons_succ]
  refine wpAnyS_step (i := 9) (by kernel_rfl) rfl ?_
  go_wp2
  change (9 ≠ 10 → Φ _) ∧ _
  refine ⟨fun _ => SA.out _ _ hS, ?_⟩
  refine wpAnyS_step (i := 10) (by kernel_rfl) rfl ?_
  go_wp2
  refine ⟨fun h => absurd rfl h, ?_⟩
  refine wpAnyS_done (by kernel_rfl) ?_ _
  obtain ⟨W2, hW2⟩ : ∃ W2, ((w.alloc (.cells #[.int .i64 0, .int .i64 0, .int .i64 0, .slice none 0 0] 33)).alloc (.cells #[.int .i64 d, .int .i64 p, .int .i64 (len : Int), .slice none 0 0] 33)).drew = W2 := ⟨_, rfl⟩
  rw [hW2]
  have hz1 : (w.alloc (.cells #[.int .i64 0, .int .i64 0, .int .i64 0, .slice none 0 0] 33)).heap.size = w.heap.size + 1 := by simp
  have hO2 : LF W2 (w.heap.size + 1) (codL d p (len : Int) (.slice none 0 0)) := by
    have h := (LF.start (w.alloc (.cells #[.int .i64 0, .int .i64 0, .int .i64 0, .slice none 0 0] 33)) (codL d p (len : Int) (.slice none 0 0)) 33).next (Below.refl _ _).drew
    rw [hz1] at h
    rw [← hW2]; exact h
  have hR2 : LF W2 w.heap.size (codL 0 0 0 (.slice none 0 0)) := by
    rw [← hW2]
    exact ((LF.start w (codL 0 0 0 (.slice none 0 0)) 33).next (below_alloc1 _ _)).next (Below.refl _ _).drew
  have hB2 : Below w.heap.size w W2 := by
    rw [← hW2]
    exact ((below_alloc1 w _).trans ((below_alloc1 _ _).mono (by simp))).drew
  clear hS inv G CX1 CX2 CX3 SA CE hW2 hz1
  have hC0 : CR W2 (w.heap.size + 1 + 1) len 0 (.slice none 0 0) hs (fun _ => undef) (fun _ => 0) := ⟨World.ownsRow_nil _ _ _ _, fun j hj => by omega, fun j hj => by omega, fun j hj => by omega, fun i j hi => by omega⟩
  have hzW := hO2.b.lt
  have HZ := Lib.hid hzW
  have HO := Lib.hid hO2
  have HRr := Lib.hid hR2
  have HB := Lib.hid hB2
  have HC := Lib.hid hC0
  have hx4 := (KQ.out _ hB2).x.b.cell 4 _ rfl
  clear hO2 hR2 hB2 hC0 hzW Φ
  go_wp2_with fail
  go_loopw [20] (fun iv wr => ∃ (k : Nat) (v' : Value) (vs' : Nat → Value) (b' : Nat → Nat), k ≤ n ∧ iv = .int .i64 k ∧ Below w.heap.size w wr ∧ LF wr w.heap.size (codL 0 0 0 (.slice none 0 0)) ∧ LF wr (w.heap.size + 1) (codL d p (len : Int) v') ∧ CR wr (w.heap.size + 1 + 1) len k v' hs vs' b') (fun iv _ => n - (intOf iv).toNat)
  case atStart => exact ⟨0, _, _, _, Nat.zero_le _, rfl, HB.out, HRr.out, HO.out, HC.out⟩
  case round =>
    obtain ⟨k, v', vs', b', hk, rfl, hb, hR, hO, hC⟩ := hrel
    clear HB HRr HO HC HZ hx4
    by_cases hlt : k < n
    · obtain ⟨g, cp, cj, e, _, _, hck, _, _⟩ := (KQ.out _ hb).r.at hlt
      injection e with e1 e2 e3
      subst e1
      subst e3
      have hrk := (KQ.out _ hb).r.row k hlt
      have HRK := Lib.hid (And.intro hrk ((KQ.out _ hb).r.own k hlt))
      obtain ⟨bk, hbk⟩ : ∃ x, b k = x := ⟨_, rfl⟩
      rw [hbk] at hck
      have HBK := Lib.hid hbk
      obtain ⟨Φ, hΦ⟩ : ∃ Φ : World → Prop, Φ = fun W => Below w.heap.size w W ∧ LF W w.heap.size (codL 0 0 0 (.slice none 0 0)) ∧ LF W (w.heap.size + 1) (codL d p (len : Int) v') := ⟨_, rfl⟩
      have F0 : Φ wr.drew := by
        rw [hΦ]
        exact ⟨hb.drew, hR.next (Below.refl _ _).drew, hO.next (Below.refl _ _).drew⟩
      have HCRD := Lib.hid (hC.below (Below.refl _ wr).drew)
      have SP : Hid (∀ W W', Φ W → Below W.heap.size W W' → Φ W') := Lib.hid fun W W' h hb => by
        rw [hΦ] at h ⊢
        exact ⟨h.1.trans (hb.mono h.1.size), h.2.1.next hb, h.2.2.next hb⟩
      have CX : Hid (∀ W, Φ W → W.cell? ⟨w.heap.size + 1, 3, none⟩ = some v') := Lib.hid fun W h => by rw [hΦ] at h; exact h.2.2.b.cell 3 _ rfl
      have CF : Hid (∀ W, Φ W → W.frozen? ⟨w.heap.size + 1, 3, none⟩ = false) := Lib.hid fun W h => by rw [hΦ] at h; exact h.2.2.free 3 (by simp)
      have CS : Hid (∀ W, Φ W → w.heap.size + 1 + 1 ≤ W.heap.size) := Lib.hid fun W h => by rw [hΦ] at h; exact h.2.2.b.lt
      have CN : Hid (∀ W, Φ W → Calls Try.prog 70 #[.slice (some ⟨bk, 0, none⟩) len cj] W fun e w' => ∃ b, e = .returned (.slice (some ⟨b, 0, none⟩) len len) ∧ W.heap.size ≤ b ∧ Below W.heap.size W w' ∧ Mt w' b len (ints (hs k))) := Lib.hid fun W h => by
        rw [hΦ] at h
        have h1 := (KQ.out _ h.1).r.row k hlt
        rw [HBK.out] at h1
        exact numbersOf_any (some ⟨bk, 0, none⟩) len cj (hs k) (by omega) (fun j => by have := HLT.out k hlt j; omega) W h1
      have CO : Hid (∀ x, wr.drew.heap.size ≤ x → v'.ownBlock ≠ some x ∧ ∀ j, j < k → b' j ≠ x) := Lib.hid fun x hx =>
        ⟨fun e => by have h1 := HCRD.out.head.lt _ e; omega, fun j hj => by have h1 := (HCRD.out.row j hj).lt; omega⟩
      have CG : Hid (∀ W w2 O, Φ W → CR W (w.heap.size + 1 + 1) len k v' hs vs' b' → (W.alloc O).grownBy w2 v'.ownBlock → Φ w2) := Lib.hid fun W w2 O h hc hg => by
        rw [hΦ] at h ⊢
        have hz : (W.alloc O).heap.size = W.heap.size + 1 := by simp
        have hsz : W.heap.size ≤ w2.heap.size := by have := hg.size; omega
        have keep : ∀ x, x < W.heap.size → x < w.heap.size + 1 + 1 → w2.heap[x]? = W.heap[x]? := fun x hx hx2 => (hg.block x (by omega) (fun e => by have h1 := hc.head.lt _ e.symm; omega)).trans ((below_alloc1 W O).block x hx)
        have h2 := h.2.2.b.lt
        have h3 := h.1.size
        exact ⟨h.1.trans ⟨hg.os, hg.tape, hg.output, hsz, fun x hx => keep x (by omega) (by omega)⟩, h.2.1.at (keep _ (by omega) (by omega)) hsz, h.2.2.at (keep _ h2 (by omega)) hsz⟩
      have CE := Lib.hid hΦ
      clear hΦ hrk hb hR hO hC hbk
      go_wp2_with fail
      refine wp_region_S (n := 7) (S := Φ) (by kernel_rfl) (by kernel_rfl) F0 (fun G inv hS => ?_)
      clear F0 hck
      refine wpAnyS_take (i := 0) (v := ?_) G inv hS (by decide) rfl (by kernel_rfl) (by kernel_rfl) (fun _ _ _ h => h) (Or.inl ⟨by kernel_rfl, fun W hW => ?_⟩) (fun inv => ?_)
      rotate_left
      · have z3 := CX.out _ hW
        go_simp
        try with_reducible rfl
      try simp only [Act.put, List.setIfInBounds_toArray, List.set_cons_zero, List.set_cons_succ]
      refine wpAnyS_take (i := 1) (v := ?_) G inv hS (by decide) rfl (by kernel_rfl) (by kernel_rfl) (fun _ _ _ h => h) (Or.inl ⟨by kernel_rfl, fun W hW => ?_⟩) (fun inv => ?_)
      rotate_left
      · have z3 := CX.out _ hW
        go_simp
        try with_reducible rfl
      try simp only [Act.put, List.setIfInBounds_toArray, List.set_cons_zero, List.set_cons_succ]
      refine wpAnyS_take (i := 2) (v := ?_) G inv hS (by decide) rfl (by kernel_rfl) (by kernel_rfl) (fun _ _ _ h => h) (Or.inl ⟨by kernel_rfl, fun W hW => ?_⟩) (fun inv => ?_)
      rotate_left
      · have z3 := CX.out _ hW
        go_simp
        try with_reducible rfl
      try simp only [Act.put, List.setIfInBounds_toArray, List.set_cons_zero, List.set_cons_succ]
      refine wpAnyS_step (i := 3) (by kernel_rfl) rfl ?_
      go_wp2_with (go_at_call 70; refine (CN.out _ hS).mono ?_; rintro e w1 ⟨b1, rfl, hge, hb1, hM1⟩)
      have F1 : Φ w1 := SP.out _ _ hS hb1
      have CR1 := Lib.hid (HCRD.out.below hb1)
      have hge2 := CS.out _ hS
      have hsz1 := CS.out _ F1
      have hne := CO.out _ hge
      clear hb1
      change (3 ≠ 7 → Φ w1) ∧ _
      refine ⟨fun _ => F1, ?_⟩
      refine wpAnyS_step (i := 4) (by kernel_rfl) rfl ?_
      go_wp2
      change (4 ≠ 7 → Φ _) ∧ _
      refine ⟨fun _ => SP.out _ _ F1 (below_alloc1 _ _), ?_⟩
      refine wpAnyS_step (i := 5) (by kernel_rfl) rfl ?_
      refine wpList_append_own_at (w := w1.alloc (.cells #[.slice (some ⟨b1, 0, none⟩) len len] 27)) rfl _ _ 24 rfl (w.heap.size + 1 + 1) 27 i1 (.slice none 0 0) 1 24 Try.underlying24 hi' hz0' hz1' hz2' rfl (by decide) v' k ((List.range k).map vs') (by simp [Act.eval]) (CR1.out.head.alloc _) ⟨w1.heap.size, 0, none⟩ 1 1 [.slice (some ⟨b1, 0, none⟩) len len] (by simp [Act.eval]) rfl (one_new w1 _ _) (by intro u hu; simp at hu; subst hu; rfl) (by unfold maxLen; omega) (by omega) (by simp; omega) ?_
      intro v2 w2 hown hgrow _ hat
      have F2 : Φ w2 := CG.out _ _ _ F1 CR1.out hgrow
      rcases ownsRow_forms hown with ⟨_, e0⟩ | ⟨g', cap2, rfl⟩
      · omega
      have HCR2 := Lib.hid (CR1.out.snoc hM1 (by omega) hne hown hgrow hat)
      clear hown hgrow hat
      change (5 ≠ 7 → Φ w2) ∧ _
      refine ⟨fun _ => F2, ?_⟩
      refine wpAnyS_step (i := 6) (by kernel_rfl) rfl ?_
      go_wp2
      change (6 ≠ 7 → Φ w2) ∧ _
      refine ⟨fun _ => F2, ?_⟩
      have y0 := CX.out _ F2
      have y1 := CF.out _ F2
      refine wpAnyS_step (i := 7) (by kernel_rfl) rfl ?_
      go_wp2
      refine ⟨fun h => absurd rfl h, ?_⟩
      refine wpAnyS_done (by kernel_rfl) ?_ _
      rw [CE.out] at F2
      have HEND := Lib.hid F2
      clear F1 F2 hS inv G y0 y1 hne hge hge2 hsz1 hM1
      go_wp2_with fail
      go_roundw
      case rel => exact ⟨k + 1, _, _, _, by omega, by go_num, HEND.out.1.setCell (p := ⟨w.heap.size + 1, 3, none⟩) (by show w.heap.size ≤ w.heap.size + 1; omega) _, HEND.out.2.1.other (by omega) _ _, HEND.out.2.2.set 3 (by simp) _, HCR2.out.other (by omega) _ _⟩
      case measure => simp [intOf]; omega
    · obtain rfl : n = k := by omega
      obtain ⟨A3, c3, rfl⟩ : ∃ A3 c3, v' = .slice A3 n c3 := by
        rcases ownsRow_forms hC.head with ⟨rfl, rfl⟩ | ⟨g', cap2, rfl⟩
        · exact ⟨_, _, rfl⟩
        · exact ⟨_, _, rfl⟩
      have o0 := hO.b.cell 0 _ rfl; have o1 := hO.b.cell 1 _ rfl; have o2 := hO.b.cell 2 _ rfl; have o3 := hO.b.cell 3 _ rfl
      have r0 := hR.b.cell 0 _ rfl; have r1 := hR.b.cell 1 _ rfl; have r2 := hR.b.cell 2 _ rfl; have r3 := hR.b.cell 3 _ rfl
      have g0 := hR.free 0 (by simp); have g1 := hR.free 1 (by simp); have g2 := hR.free 2 (by simp); have g3 := hR.free 3 (by simp)
      have HB := Lib.hid hb
      have HRr := Lib.hid hR
      have HC := Lib.hid (hC.rs (by omega) hl5)
      have hzz := hO.b.lt
      clear hb hR hO hC
      go_wp2_with fail
      have hc : ∀ (W : World) (i : Nat) (x : Value), Chg 0 (w.heap.size + 1) W (W.setCell ⟨w.heap.size, i, none⟩ x) := fun W i x => ⟨rfl, rfl, rfl, Nat.le_of_eq (size_setCell_ ..).symm, fun k hk ho => Below.heap_setCell W ⟨w.heap.size, i, none⟩ x k (by show k ≠ w.heap.size; omega)⟩
      have hfin := (((HRr.out.set 0 (by simp) (.int .i64 d)).set 1 (by simp) (.int .i64 p)).set 2 (by simp) (.int .i64 (len : Int))).set 3 (by simp) (.slice A3 n c3)
      refine bodyPost_ret (v := .agg (codL d p (len : Int) (.slice A3 n c3)).toArray) (lb_result (p := 2) (fn := Try.f85) rfl _ rfl hfin.b Try.underlying33 rfl Try.infoCode) rfl ⟨_, rfl, ?_, ?_⟩
      · exact (((HB.out.setCell (p := ⟨w.heap.size, 0, none⟩) (Nat.le_refl _) _).setCell (p := ⟨w.heap.size, 1, none⟩) (Nat.le_refl _) _).setCell (p := ⟨w.heap.size, 2, none⟩) (Nat.le_refl _) _).setCell (p := ⟨w.heap.size, 3, none⟩) (Nat.le_refl _) _
      · have h := HC.out.chg (((hc wr 0 (.int .i64 d)).trans (hc _ 1 (.int .i64 p))).trans ((hc _ 2 (.int .i64 (len : Int))).trans (hc _ 3 (.slice A3 n c3)))) (.inr (by omega))
        simp only [size_setCell_]
        exact h.wide (by omega)
end Go.Proofs.Ytljaabmemjehpaa
