/- A coder's rows: words that a call has made and changes. -/
import Derived.Test.YtfpahdbkcdpchaaHW
import Derived.Test.YtfpahdbkcdpchaaBSearch
import Derived.Test.YtfpahdbkcdpchaaInsert
import Derived.Test.YtfpahdbkcdpchaaWSum
import Derived.Test.YtfpahdbkcdpchaaLinI4
namespace Go.Proofs.Ytfpahdbkcdpchaa
open Go.RowKit Go.Joins
set_option linter.unusedVariables false

/-- A coder's five cells. -/
abbrev kcL (c : Nat) (d p l : Int) (v : Value) : List Value := [.pointer (some ⟨c, 0, none⟩), .int .i64 d, .int .i64 p, .int .i64 l, v]

theorem nth_xorW {p q : List Nat} {k : Nat} (hp : p.length = k) (hq : q.length = k) : nth (xorW p q k) = va (nth p) (nth q) := funext fun j => by
  show nth (xorW p q k) j = nth p j ^^^ nth q j
  rcases Nat.lt_or_ge j k with h | h
  · rw [xorW, lst_nth _ h]
  · rw [nth_ge (by rw [xorW, lst_length]; exact h), nth_ge (p := p) (by omega), nth_ge (p := q) (by omega)]; rfl
theorem nth_scl' {m P n : Nat} (hF : Fld m P n) {a : Nat} (ha : a < n) (p : List Nat) : nth (scl P a p) = vs P a (nth p) := funext fun j => by
  show nth (scl P a p) j = mul P a (nth p j)
  rcases Nat.lt_or_ge j p.length with h | h
  · rw [scl, lst_nth _ h]
  · rw [nth_ge (by rw [scl, lst_length]; exact h), nth_ge (p := p) h, mul_zero' hF ha]
theorem restV_snoc (P len : Nat) (L : List (Nat → Nat)) (s w : Nat → Nat) : restV P len (L ++ [s]) w = va (restV P len L w) (Go.Proofs.Ytfpahdbkcdpchaa.vs P (restV P len L w (ldv s len)) s) := by
  rw [restV, List.foldl_append]; rfl
theorem fs_succ (hs : Nat → List Nat) (n : Nat) : fs hs (n + 1) = fs hs n ++ [nth (hs n)] := by simp [fs, List.range_succ]
theorem fs_mem {hs : Nat → List Nat} {n j : Nat} (hj : j < n) : nth (hs j) ∈ fs hs n := List.mem_map.2 ⟨j, List.mem_range.2 hj, rfl⟩

structure KW (W : World) (B len n : Nat) (v : Value) (hs : Nat → List Nat) (vs : Nat → Value) (b : Nat → Nat) : Prop where
  head : W.ownsRow B 88 1 v n ((List.range n).map vs)
  form : ∀ j, j < n → ∃ cj, vs j = .slice (some ⟨b j, 0, none⟩) len cj
  row : ∀ j, j < n → Rl W .u8 (some ⟨b j, 0, none⟩) len (hs j)
  own : ∀ j, j < n → B ≤ b j ∧ b j < W.heap.size ∧ v.ownBlock ≠ some (b j)
theorem KW.below {W W' : World} {B len n : Nat} {v : Value} {hs : Nat → List Nat} {vs : Nat → Value} {b : Nat → Nat} (h : KW W B len n v hs vs b) (hb : Below W.heap.size W W') : KW W' B len n v hs vs b :=
  ⟨ownsRow_below h.head hb, h.form, fun j hj => (h.row j hj).below hb, fun j hj => by
    obtain ⟨h1, h2, h3⟩ := h.own j hj
    exact ⟨h1, Nat.lt_of_lt_of_le h2 hb.size, h3⟩⟩
theorem KW.at {W : World} {B len n : Nat} {v : Value} {hs : Nat → List Nat} {vs : Nat → Value} {b : Nat → Nat} (h : KW W B len n v hs vs b) {j : Nat} (hj : j < n) : ∃ g cap cj, v = .slice (some ⟨g, 0, none⟩) n cap ∧ B ≤ g ∧ g < W.heap.size ∧ W.cell? ⟨g, j, none⟩ = some (.slice (some ⟨b j, 0, none⟩) len cj) ∧ vs j = .slice (some ⟨b j, 0, none⟩) len cj ∧ ∀ i, W.frozen? ⟨g, i, none⟩ = false := by
  rcases ownsRow_forms h.head with ⟨_, e⟩ | ⟨g, cap, rfl⟩
  · omega
  · obtain ⟨cj, hv⟩ := h.form j hj
    have hlt := h.head.lt g rfl
    exact ⟨g, cap, cj, rfl, hlt.1, hlt.2, by rw [h.head.cellAt j (by omega), ← hv]; simp [hj], hv, fun i => h.head.frozenAt i⟩
theorem KW.rk {W : World} {B len n : Nat} {v : Value} {hs : Nat → List Nat} {vs : Nat → Value} {b : Nat → Nat} (h : KW W B len n v hs vs b) : RK W v len n hs := by
  rcases ownsRow_forms h.head with ⟨rfl, rfl⟩ | ⟨g, cap, rfl⟩
  · exact ⟨none, 0, rfl, fun h => by omega⟩
  · refine ⟨some ⟨g, 0, none⟩, cap, rfl, fun _ => ⟨g, rfl, (h.head.lt g rfl).2, fun j hj => ?_⟩⟩
    obtain ⟨g', cap', cj, e, _, _, h1, _, _⟩ := h.at hj
    injection e with e1 e2 e3
    injection e1 with e1; injection e1 with e1
    exact ⟨b j, cj, by rw [e1]; exact h1, h.row j hj⟩
theorem map_up {α : Type} (f : Nat → α) (n i : Nat) (x : α) : (List.range n).map (up f i x) = ((List.range n).map f).set i x := by
  refine List.ext_getElem (by simp) (fun j h1 h2 => ?_)
  rw [List.getElem_map, List.getElem_range, List.getElem_set]
  by_cases e : i = j
  · subst e; rw [if_pos rfl, up_same]
  · rw [if_neg e, up_ne _ _ (fun h => e h.symm), List.getElem_map, List.getElem_range]
theorem KW.set {W : World} {B len n g cap : Nat} {hs : Nat → List Nat} {vs : Nat → Value} {b : Nat → Nat} (h : KW W B len n (.slice (some ⟨g, 0, none⟩) n cap) hs vs b) (i : Nat) {b' cj : Nat} {p : List Nat} (hR : Rl W .u8 (some ⟨b', 0, none⟩) len p) (h1 : B ≤ b') (h2 : b' ≠ g) (h3 : b' < W.heap.size) :
    KW (W.setCell ⟨g, i, none⟩ (.slice (some ⟨b', 0, none⟩) len cj)) B len n (.slice (some ⟨g, 0, none⟩) n cap) (up hs i p) (up vs i (.slice (some ⟨b', 0, none⟩) len cj)) (up b i b') := by
  refine ⟨by rw [map_up]; exact (h.head.stored i _).1, fun j hj => ?_, fun j hj => ?_, fun j hj => ?_⟩
  · by_cases e : j = i
    · subst e; rw [up_same, up_same]; exact ⟨_, rfl⟩
    · rw [up_ne _ _ e, up_ne _ _ e]; exact h.form j hj
  · by_cases e : j = i
    · subst e; rw [up_same, up_same]; exact hR.other h2 _ _
    · rw [up_ne _ _ e, up_ne _ _ e]
      exact (h.row j hj).other (fun e => (h.own j hj).2.2 (by rw [e]; rfl)) _ _
  · by_cases e : j = i
    · subst e; rw [up_same]
      exact ⟨h1, by rw [size_setCell_]; exact h3, fun e => h2 (by simp only [Value.ownBlock, Option.some.injEq] at e; exact e.symm)⟩
    · rw [up_ne _ _ e]
      obtain ⟨q1, q2, q3⟩ := h.own j hj
      exact ⟨q1, by rw [size_setCell_]; exact q2, q3⟩
theorem Calc.other {c m P n : Nat} {W : World} (h : Calc c m P n W) {g : Nat} (hne : c ≠ g) (i : Nat) (v : Value) : Calc c m P n (W.setCell ⟨g, i, none⟩ v) :=
  ⟨by rw [World.cell?_setCell_other _ ⟨g, i, none⟩ ⟨c, 0, none⟩ _ (fun e => hne (by injection e with e _ _; omega))]; exact h.deg,
    fun a b ha hb => by rw [World.cell?_setCell_other _ ⟨g, i, none⟩ ⟨c, 1 + a * 32 + b, none⟩ _ (fun e => hne (by injection e with e _ _; omega))]; exact h.tab a b ha hb⟩
theorem Calc.next {c m P n : Nat} {W W' : World} (h : Calc c m P n W) (hb : Below W.heap.size W W') : Calc c m P n W' := h.below h.lt hb

/-- A list's function with one element more. -/
def ins3 {α : Type} (f : Nat → α) (p : Nat) (x : α) : Nat → α := fun j => if j < p then f j else if j = p then x else f (j - 1)
theorem map_ins3 {α : Type} (f : Nat → α) {n p : Nat} (x : α) (hp : p ≤ n) : (List.range (n + 1)).map (ins3 f p x) = ((List.range n).map f).take p ++ x :: ((List.range n).map f).drop p := by
  have hl : (((List.range n).map f).take p).length = p := by simp; omega
  refine List.ext_getElem (by simp; omega) (fun j h1 h2 => ?_)
  rw [List.getElem_map, List.getElem_range]
  by_cases e1 : j < p
  · rw [List.getElem_append_left (by omega), List.getElem_take, List.getElem_map, List.getElem_range, ins3, if_pos e1]
  · rw [List.getElem_append_right (by omega)]
    by_cases e2 : j = p
    · subst e2
      simp [ins3, hl]
    · obtain ⟨k, rfl⟩ : ∃ k, j = p + 1 + k := ⟨j - p - 1, by omega⟩
      simp only [hl, show p + 1 + k - p = k + 1 by omega, List.getElem_cons_succ, List.getElem_drop, List.getElem_map, List.getElem_range, ins3]
      rw [if_neg (by omega), if_neg (by omega)]
      congr 1; omega

theorem insert_any (B n i : Nat) (v : Value) (xs : List Value) (w : World) (hown : w.ownsRow B 88 1 v n xs) (h1x : ∀ u ∈ xs, u.oneCell' = true) (hi0 : i ≤ n) (hn : n ≤ 1000) (hB : B ≤ w.heap.size) (vb : Nat) (x : Value) (hx : One w vb x) (hvb : v.ownBlock ≠ some vb) :
    Calls Try.prog 130 #[v, .int .i64 (i : Int), .slice (some ⟨vb, 0, none⟩) 1 1] w fun e w' => ∃ v', e = .returned v' ∧ w'.ownsRow B 88 1 v' (n + 1) (xs.take i ++ x :: xs.drop i) ∧ w.grownBy w' v.ownBlock ∧ (v'.ownBlock = v.ownBlock ∨ v'.ownBlock = some w.heap.size) := by
  have hxl : xs.length = n := by have := hown.1; omega
  by_cases e : i = n
  · subst e
    rw [List.take_of_length_le (by omega), List.drop_eq_nil_of_le (by omega)]
    exact insert_end B i v xs w hown hn hB vb x hx
  · rcases ownsRow_forms hown with ⟨rfl, rfl⟩ | ⟨g, c, rfl⟩
    · omega
    · by_cases hr : n + 1 ≤ c
      · refine (insert_shift B n g c i xs w hown h1x (by omega) hn hr vb x hx (fun e => hvb (by rw [e]; rfl))).mono ?_
        rintro e w' ⟨v', h1, h2, h3, h4⟩
        exact ⟨v', h1, h2, h3, .inl h4⟩
      · refine (insert_grow B n g c i xs w hown h1x (by omega) hn (by omega) vb x hx).mono ?_
        rintro e w' ⟨v', h1, h2, h3, h4⟩
        exact ⟨v', h1, h2, h3, .inr h4⟩
theorem KW.insert {w w' : World} {B len n p : Nat} {v v' : Value} {hs : Nat → List Nat} {vs : Nat → Value} {b : Nat → Nat} {gq cq : Nat} {q : List Nat} (h : KW w B len n v hs vs b) (hp : p ≤ n)
    (hown : w'.ownsRow B 88 1 v' (n + 1) (((List.range n).map vs).take p ++ .slice (some ⟨gq, 0, none⟩) len cq :: ((List.range n).map vs).drop p)) (hg : w.grownBy w' v.ownBlock) (hv : v'.ownBlock = v.ownBlock ∨ v'.ownBlock = some w.heap.size)
    (hR : Rl w .u8 (some ⟨gq, 0, none⟩) len q) (h1 : B ≤ gq) (h2 : v.ownBlock ≠ some gq) (h3 : gq < w.heap.size) : KW w' B len (n + 1) v' (ins3 hs p q) (ins3 vs p (.slice (some ⟨gq, 0, none⟩) len cq)) (ins3 b p gq) := by
  have keep : ∀ x, x < w.heap.size → v.ownBlock ≠ some x → w'.heap[x]? = w.heap[x]? := fun x hx hne => hg.block x hx (fun e => hne e.symm)
  have hv' : ∀ x, x < w.heap.size → v.ownBlock ≠ some x → v'.ownBlock ≠ some x := fun x hx hne => by
    rcases hv with e | e
    · rw [e]; exact hne
    · rw [e]; intro h; injection h with h; omega
  have rowOf : ∀ x l, Rl w .u8 (some ⟨x, 0, none⟩) len l → x < w.heap.size → v.ownBlock ≠ some x → Rl w' .u8 (some ⟨x, 0, none⟩) len l := fun x l hr hx hne =>
    ⟨hr.len, fun h0 => by
      obtain ⟨y, e, hy, hc⟩ := hr.row h0
      injection e with e; injection e with e
      subst e
      exact ⟨x, rfl, Nat.lt_of_lt_of_le hx hg.size, fun j hj => (World.cell?_of_block (w := w) (a := ⟨x, j, none⟩) (keep x hx hne)).trans (hc j hj)⟩⟩
  refine ⟨by rw [map_ins3 vs _ hp]; exact hown, fun j hj => ?_, fun j hj => ?_, fun j hj => ?_⟩
  · unfold ins3
    by_cases e1 : j < p
    · simp only [if_pos e1]; exact h.form j (by omega)
    · by_cases e2 : j = p
      · simp only [if_neg e1, if_pos e2]; exact ⟨_, rfl⟩
      · simp only [if_neg e1, if_neg e2]; exact h.form (j - 1) (by omega)
  · unfold ins3
    by_cases e1 : j < p
    · simp only [if_pos e1]; exact rowOf _ _ (h.row j (by omega)) (h.own j (by omega)).2.1 (h.own j (by omega)).2.2
    · by_cases e2 : j = p
      · simp only [if_neg e1, if_pos e2]; exact rowOf _ _ hR h3 h2
      · simp only [if_neg e1, if_neg e2]; exact rowOf _ _ (h.row (j - 1) (by omega)) (h.own (j - 1) (by omega)).2.1 (h.own (j - 1) (by omega)).2.2
  · have hsz := hg.size
    unfold ins3
    by_cases e1 : j < p
    · simp only [if_pos e1]
      obtain ⟨o1, o2, o3⟩ := h.own j (by omega)
      exact ⟨o1, by omega, hv' _ o2 o3⟩
    · by_cases e2 : j = p
      · simp only [if_neg e1, if_pos e2]; exact ⟨h1, by omega, hv' _ h3 h2⟩
      · simp only [if_neg e1, if_neg e2]
        obtain ⟨o1, o2, o3⟩ := h.own (j - 1) (by omega)
        exact ⟨o1, by omega, hv' _ o2 o3⟩
end Go.Proofs.Ytfpahdbkcdpchaa
