/- Lists of fields: equal, marked, held; all fields of a degree, both sides. -/
import Derived.Test.YtlchelaohiojiaaFieldOf
import Derived.Maps.AppendAt
import Derived.Deep.RegionHeldLaw
import Derived.Deep.RegionLaw
import Derived.RangeFuncBox
namespace Go.Proofs.Ytlchelaohiojiaa
open Go.RowKit Go.Shelf Go.Joins
set_option linter.unusedVariables false

/-- A list of n fields that may be written: the degrees X, the polynomials Y, in a block from B on. -/
structure FR (W : World) (B : Nat) (v : Value) (n : Nat) (X Y : Nat → Int) : Prop where
  is : ∃ A cap, v = .slice A n cap ∧ (0 < n → ∃ g, A = some ⟨g, 0, none⟩ ∧ B ≤ g ∧ g < W.heap.size ∧ ∀ j, j < n → (W.cell? ⟨g, j * 2, none⟩ = some (.int .i64 (X j)) ∧ W.cell? ⟨g, j * 2 + 1, none⟩ = some (.int .i64 (Y j))) ∧ W.frozen? ⟨g, j * 2, none⟩ = false ∧ W.frozen? ⟨g, j * 2 + 1, none⟩ = false)
theorem FR.next {W V : World} {B n : Nat} {v : Value} {X Y : Nat → Int} (h : FR W B v n X Y) (hb : Below W.heap.size W V) : FR V B v n X Y := by
  obtain ⟨A, cap, e, h⟩ := h.is
  refine ⟨A, cap, e, fun h0 => ?_⟩
  obtain ⟨g, e, h1, h2, h3⟩ := h h0
  exact ⟨g, e, h1, Nat.lt_of_lt_of_le h2 hb.size, fun j hj => by
    obtain ⟨⟨a, b⟩, c, d⟩ := h3 j hj
    exact ⟨⟨(hb.cell (p := ⟨g, j * 2, none⟩) h2).trans a, (hb.cell (p := ⟨g, j * 2 + 1, none⟩) h2).trans b⟩, (hb.frozen (p := ⟨g, j * 2, none⟩) h2).trans c, (hb.frozen (p := ⟨g, j * 2 + 1, none⟩) h2).trans d⟩⟩
theorem FR.nil (W : World) (B : Nat) (A : Option Addr) (cap : Nat) (X Y : Nat → Int) : FR W B (.slice A 0 cap) 0 X Y := ⟨A, cap, rfl, fun h => absurd h (Nat.lt_irrefl _)⟩
theorem FR.only {W V : World} {B b n : Nat} {v : Value} {X Y : Nat → Int} (h : FR W B v n X Y) (ho : Only b W V) (hb : b < B) : FR V B v n X Y := by
  obtain ⟨A, cap, e, h⟩ := h.is
  refine ⟨A, cap, e, fun h0 => ?_⟩
  obtain ⟨g, e, h1, h2, h3⟩ := h h0
  have hg := ho.block g (by omega)
  exact ⟨g, e, h1, by rw [ho.size]; exact h2, fun j hj => by
    obtain ⟨⟨a, b⟩, c, d⟩ := h3 j hj
    exact ⟨⟨(World.cell?_of_block (w := W) (a := ⟨g, j * 2, none⟩) hg).trans a, (World.cell?_of_block (w := W) (a := ⟨g, j * 2 + 1, none⟩) hg).trans b⟩, (World.frozen?_of_block (w := W) (a := ⟨g, j * 2, none⟩) hg).trans c, (World.frozen?_of_block (w := W) (a := ⟨g, j * 2 + 1, none⟩) hg).trans d⟩⟩
theorem FR.of_own {W : World} {B d : Nat} {v : Value} {L : List Nat} (h : W.ownsRow B 25 2 v L.length (fCs d L)) : FR W B v L.length (fun _ => d) (fun j => (nth L j : Nat)) := by
  rcases ownsRow_forms h with ⟨rfl, h0⟩ | ⟨g, cap, rfl⟩
  · rw [h0]; exact FR.nil W B _ _ _ _
  · refine ⟨_, cap, rfl, fun _ => ⟨g, rfl, (h.lt g rfl).1, (h.lt g rfl).2, fun j hj => ?_⟩⟩
    have c0 := h.cells rfl (2 * j) _ (fCs_get d L j hj).1
    have c1 := h.cells rfl (2 * j + 1) _ (fCs_get d L j hj).2
    rw [addr_at] at c0 c1
    rw [Nat.mul_comm j 2]
    exact ⟨⟨c0, c1⟩, h.frozenAt _, h.frozenAt _⟩

set_option maxRecDepth 100000 in
set_option maxHeartbeats 1600000 in
theorem eqFields_fr {w : World} {B B' n : Nat} {v v' : Value} {X Y : Nat → Int} (hn : n ≤ 64) (h : FR w B v n X Y) (h' : FR w B' v' n X Y) :
    Calls Try.prog 44 #[v, v'] w fun e w' => e = .returned (.bool true) ∧ Below w.heap.size w w' := by
  have HH := Lib.hid h
  have HH' := Lib.hid h'
  obtain ⟨A, cap, rfl, k1⟩ := h.is
  obtain ⟨A', cap', rfl, k2⟩ := h'.is
  clear h h' k1 k2
  go_enter Try.func44, Try.ntmps44
  go_wp2_with fail
  go_loopw [5] (fun i wr => ∃ k : Nat, k ≤ n ∧ i = .int .i64 k ∧ Below w.heap.size w wr) (fun i _ => n - (intOf i).toNat)
  case atStart => exact ⟨0, Nat.zero_le _, rfl, Below.refl _ _⟩
  case round =>
    obtain ⟨k, hk, rfl, hb⟩ := hrel
    by_cases hlt : k < n
    · obtain ⟨A1, cap1, e1, h1⟩ := (HH.out.next hb).is
      obtain ⟨A2, cap2, e2, h2⟩ := (HH'.out.next hb).is
      injection e1 with e1 _ e3; subst e1; subst e3
      injection e2 with e2 _ e4; subst e2; subst e4
      obtain ⟨g, rfl, _, hg, h1⟩ := h1 (by omega)
      obtain ⟨g', rfl, _, hg', h2⟩ := h2 (by omega)
      obtain ⟨⟨c0, c1⟩, _⟩ := h1 k hlt
      obtain ⟨⟨d0, d1⟩, _⟩ := h2 k hlt
      have HB := Lib.hid hb
      clear hb h1 h2
      generalize X k = x at c0 d0
      generalize Y k = y at c1 d1
      generalize hW : wr = W at *
      have HE := Lib.hid (eqField_one x y W.drew)
      have HBD := Lib.hid HB.out.drew
      go_wp2_with fail
      go_region_law (go_simp; go_wp2_with (go_at_call 42; refine HE.out.mono ?_; rintro e w2 ⟨rfl, hb⟩; have HB3 := Lib.hid hb; clear hb))
      all_goals
        go_wp2_with fail
        go_roundw
        case rel => first | exact ⟨k + 1, by omega, by go_num, HBD.out.trans (HB3.out.mono HBD.out.size)⟩ | ((repeat apply Exists.intro); exact ⟨⟨k + 1, by omega, by go_num, HBD.out.trans (HB3.out.mono HBD.out.size)⟩, rfl⟩)
        case measure => simp [intOf]; omega
    · obtain rfl : k = n := by omega
      have HB := Lib.hid hb
      clear hb
      go_wp2_with fail
      go_ret
      exact ⟨rfl, HB.out⟩

/-- The marks of a list of fields. -/
def mkX (k0 j : Nat) : Int := ((k0 + j * 2 : Nat) : Int)
def mkY (k0 j : Nat) : Int := ((k0 + (j * 2 + 1) : Nat) : Int)

set_option maxHeartbeats 1600000 in
theorem markFields_g (g n cap k0 : Nat) (hk0 : k0 ≤ 1000) (hn : n ≤ 64) (w : World) (hc : ∀ t, t < n * 2 → ∃ v, w.cell? ⟨g, t, none⟩ = some v) (hf : ∀ t, t < n * 2 → w.frozen? ⟨g, t, none⟩ = false) :
    Calls Try.prog 45 #[.slice (some ⟨g, 0, none⟩) n cap, .int .i64 k0] w fun e w' => e = .returned (.int .i64 ((k0 + n * 2 : Nat) : Int)) ∧ Only g w w' ∧ (∀ x, w'.frozen? x = w.frozen? x) ∧ ∀ t, t < n * 2 → w'.cell? ⟨g, t, none⟩ = some (.int .i64 ((k0 + t : Nat) : Int)) := by
  have HC := Lib.hid hc
  have HF := Lib.hid hf
  clear hc hf
  go_enter Try.func45, Try.ntmps45
  go_wp2
  go_loopw [1, 5] (fun s i wr => ∃ k : Nat, k ≤ n ∧ i = .int .i64 k ∧ s = .int .i64 ((k0 + k * 2 : Nat) : Int) ∧ Only g w wr ∧ (∀ t, t < n * 2 → ∃ v, wr.cell? ⟨g, t, none⟩ = some v) ∧ (∀ x, wr.frozen? x = w.frozen? x) ∧ ∀ t, t < k * 2 → wr.cell? ⟨g, t, none⟩ = some (.int .i64 ((k0 + t : Nat) : Int))) (fun _ i _ => n - (intOf i).toNat)
  case atStart => exact ⟨0, Nat.zero_le _, rfl, rfl, Only.refl _ _, HC.out, fun _ => rfl, fun j hj => by omega⟩
  case round =>
    obtain ⟨k, hk, rfl, rfl, hO, hex, hfr, hdone⟩ := hrel
    have HEX := Lib.hid hex
    have HFR := Lib.hid hfr
    have HD := Lib.hid hdone
    clear hex hfr hdone
    by_cases hlt : k < n
    · obtain ⟨v, hv⟩ := HEX.out (k * 2) (by omega)
      obtain ⟨u, hu⟩ := HEX.out (k * 2 + 1) (by omega)
      have hfk : wr.frozen? ⟨g, k * 2, none⟩ = false := (HFR.out _).trans (HF.out (k * 2) (by omega))
      have hfl : wr.frozen? ⟨g, k * 2 + 1, none⟩ = false := (HFR.out _).trans (HF.out (k * 2 + 1) (by omega))
      generalize hs : k0 + k * 2 = s
      have hsb : s ≤ 2000 := by omega
      have HS := Lib.hid hs
      have HV := Lib.hid (And.intro hv hu)
      clear hs
      go_wp2
      go_roundw
      case rel =>
        have other : ∀ (W : World) (i j : Nat) (v : Value), j ≠ i → (W.setCell ⟨g, i, none⟩ v).cell? ⟨g, j, none⟩ = W.cell? ⟨g, j, none⟩ := fun W i j v hne => World.cell?_setCell_other _ ⟨g, i, none⟩ ⟨g, j, none⟩ _ (fun h => hne (by injection h with _ h _; first | exact h | exact h.symm))
        refine ⟨k + 1, by omega, by go_num, by have := HS.out; rw [show k0 + (k + 1) * 2 = s + 1 + 1 by omega]; go_num, (hO.setCell _ _).setCell _ _, fun t ht => ?_, fun x => by rw [World.frozen?_setCell, World.frozen?_setCell]; exact HFR.out x, fun t ht => ?_⟩
        · by_cases e : t = k * 2 + 1
          · subst e; exact ⟨_, World.cell?_setCell_same' _ _ _ (by rw [other _ _ _ _ (by omega), HV.out.2]; rfl)⟩
          · rw [other _ _ _ _ e]
            by_cases e2 : t = k * 2
            · subst e2; exact ⟨_, World.cell?_setCell_same' _ _ _ (by rw [HV.out.1]; rfl)⟩
            · rw [other _ _ _ _ e2]; exact HEX.out t ht
        · by_cases e : t = k * 2 + 1
          · subst e
            rw [show k0 + (k * 2 + 1) = s + 1 by have := HS.out; omega]
            exact World.cell?_setCell_same' _ _ _ (by rw [other _ _ _ _ (by omega), HV.out.2]; rfl)
          · rw [other _ _ _ _ e]
            by_cases e2 : t = k * 2
            · subst e2
              rw [HS.out]
              exact World.cell?_setCell_same' _ _ _ (by rw [HV.out.1]; rfl)
            · rw [other _ _ _ _ e2]; exact HD.out t (by omega)
      case measure => simp [intOf]; omega
    · obtain rfl : k = n := by omega
      go_wp2
      go_ret
      exact ⟨rfl, hO, HFR.out, HD.out⟩

set_option maxHeartbeats 1600000 in
theorem markFields_nil (A : Option Addr) (cap k0 : Nat) (hk0 : k0 ≤ 1000) (w : World) :
    Calls Try.prog 45 #[.slice A 0 cap, .int .i64 k0] w fun e w' => e = .returned (.int .i64 k0) ∧ w = w' := by
  go_enter Try.func45, Try.ntmps45
  go_wp2
  go_loop [1, 5] (fun s i => i = .int .i64 0 ∧ s = .int .i64 k0) (fun _ i => 0)
  case atStart => exact ⟨rfl, rfl⟩
  case round =>
    obtain ⟨rfl, rfl⟩ := hrel
    go_wp2
    go_ret
    exact ⟨rfl, rfl⟩

theorem markFields_fr {w : World} {B n : Nat} {v : Value} {X Y : Nat → Int} (k0 : Nat) (hk0 : k0 ≤ 1000) (hn : n ≤ 64) (h : FR w B v n X Y) :
    Calls Try.prog 45 #[v, .int .i64 k0] w fun e w' => e = .returned (.int .i64 ((k0 + n * 2 : Nat) : Int)) ∧ (∃ g, (n = 0 ∧ w' = w ∨ B ≤ g ∧ Only g w w')) ∧ FR w' B v n (mkX k0) (mkY k0) := by
  obtain ⟨A, cap, rfl, k⟩ := h.is
  rcases Nat.eq_zero_or_pos n with rfl | h0
  · refine (markFields_nil A cap k0 hk0 w).mono ?_
    rintro e w' ⟨rfl, rfl⟩
    exact ⟨rfl, ⟨0, .inl ⟨rfl, rfl⟩⟩, FR.nil _ _ _ _ _ _⟩
  · obtain ⟨g, rfl, h1, h2, h3⟩ := k h0
    have two : ∀ {p : Nat → Prop}, (∀ j, j < n → p (j * 2) ∧ p (j * 2 + 1)) → ∀ t, t < n * 2 → p t := fun hp t ht => by
      have := hp (t / 2) (by omega)
      rcases Nat.mod_two_eq_zero_or_one t with e | e
      · rw [show t = t / 2 * 2 by omega]; exact this.1
      · rw [show t = t / 2 * 2 + 1 by omega]; exact this.2
    refine (markFields_g g n cap k0 hk0 hn w (two fun j hj => ⟨⟨_, (h3 j hj).1.1⟩, ⟨_, (h3 j hj).1.2⟩⟩) (two fun j hj => (h3 j hj).2)).mono ?_
    rintro e w' ⟨rfl, hO, hF, hc⟩
    exact ⟨rfl, ⟨g, .inr ⟨h1, hO⟩⟩, ⟨_, cap, rfl, fun _ => ⟨g, rfl, h1, by rw [hO.size]; exact h2, fun j hj => ⟨⟨hc _ (by omega), hc _ (by omega)⟩, (hF _).trans (h3 j hj).2.1, (hF _).trans (h3 j hj).2.2⟩⟩⟩⟩

set_option maxHeartbeats 1600000 in
theorem heldFields_fr {w : World} {B n : Nat} {v : Value} (k0 : Nat) (hk0 : k0 ≤ 1000) (hn : n ≤ 64) (h : FR w B v n (mkX k0) (mkY k0)) :
    Calls Try.prog 46 #[v, .int .i64 k0] w fun e w' => e = .returned (.int .i64 ((k0 + n * 2 : Nat) : Int)) ∧ w = w' := by
  obtain ⟨A, cap, rfl, k⟩ := h.is
  have HH := Lib.hid k
  clear h k
  go_enter Try.func46, Try.ntmps46
  go_wp2
  go_loop [1, 5] (fun s i => ∃ k : Nat, k ≤ n ∧ i = .int .i64 k ∧ s = .int .i64 ((k0 + k * 2 : Nat) : Int)) (fun _ i => n - (intOf i).toNat)
  case atStart => exact ⟨0, Nat.zero_le _, rfl, rfl⟩
  case round =>
    obtain ⟨k, hk, rfl, rfl⟩ := hrel
    by_cases hlt : k < n
    · obtain ⟨g, rfl, _, _, h3⟩ := HH.out (by omega)
      obtain ⟨⟨c0, c1⟩, _⟩ := h3 k hlt
      have e0 : mkX k0 k = ((k0 + k * 2 : Nat) : Int) := rfl
      have e1 : mkY k0 k = ((k0 + k * 2 : Nat) : Int) + 1 := by unfold mkY; omega
      rw [e0] at c0; rw [e1] at c1
      clear h3 e0 e1
      generalize hs : k0 + k * 2 = s at c0 c1 ⊢
      have hsb : s ≤ 2000 := by omega
      have HS := Lib.hid hs
      clear hs
      go_wp2
      go_round
      case rel => exact ⟨k + 1, by omega, by go_num, by have := HS.out; rw [show k0 + (k + 1) * 2 = s + 1 + 1 by omega]; go_num⟩
      case measure => simp [intOf]; omega
    · obtain rfl : k = n := by omega
      go_wp2
      go_ret
      exact ⟨rfl, rfl⟩

/-- What FieldsOf returns: the number of fields, their polynomials' list, the code. -/
def fFieldsOf (d : Int) : List Nat × Int := if 1 ≤ d ∧ d ≤ 5 then (fOf d.toNat (2 * 2 ^ d.toNat), 0) else ([], 2)
theorem fFieldsOf_len (d : Int) : (fFieldsOf d).1.length ≤ 64 := by
  unfold fFieldsOf
  split
  · rename_i h
    have h1 := fOf_len d.toNat (2 * 2 ^ d.toNat)
    have h2 : 2 ^ d.toNat ≤ 32 := Nat.pow_le_pow_right (n := 2) (by omega) (show d.toNat ≤ 5 by omega)
    show (fOf d.toNat (2 * 2 ^ d.toNat)).length ≤ 64
    omega
  · simp

set_option maxHeartbeats 1600000 in
theorem specFieldsOf_any (d : Int) (w : World) :
    Calls Try.prog 43 #[.int .i64 d] w fun e w' => ∃ v, e = .returned (.tuple #[v, .int .i64 (fFieldsOf d).2]) ∧ Below w.heap.size w w' ∧ FR w' w.heap.size v (fFieldsOf d).1.length (fun _ => d) (fun j => (nth (fFieldsOf d).1 j : Nat)) := by
  by_cases h : 1 ≤ d ∧ d ≤ 5
  · obtain ⟨m, rfl⟩ := Int.eq_ofNat_of_zero_le (by omega : 0 ≤ d)
    rw [fFieldsOf, if_pos h]
    obtain ⟨h1, h5⟩ := h
    have HS := Lib.hid (fun w => l01Fields_any m (by omega) (by omega) w)
    rw [Int.toNat_natCast]
    dsimp only
    generalize fOf m (2 * 2 ^ m) = L at HS ⊢
    go_enter Try.func43, Try.ntmps43
    go_wp2_with (go_at_call 96; refine (l00In_yes (m : Int) 1 5 (by omega) (by omega) _).mono ?_; rintro e w' ⟨rfl, rfl⟩)
    refine (HS.out _).mono ?_
    rintro e w3 ⟨g, cap, rfl, hb, hO⟩
    have HB := Lib.hid hb
    have HO := Lib.hid hO
    clear hb hO
    go_wp2_with fail
    go_ret2
    exact ⟨_, rfl, HB.out, FR.of_own HO.out⟩
  · rw [fFieldsOf, if_neg h]
    go_enter Try.func43, Try.ntmps43
    go_wp2_with (go_at_call 96; refine (l00In_no d 1 5 (by omega) _).mono ?_; rintro e w' ⟨rfl, rfl⟩)
    go_ret2
    exact ⟨_, rfl, below_alloc1 w _, FR.nil _ _ _ _ _ _⟩

theorem ownsRow_low {W : World} {base base' : Nat} {e : TypeId} {size k : Nat} {v : Value} {xs : List Value} (h : W.ownsRow base e size v k xs) (hle : base' ≤ base) : W.ownsRow base' e size v k xs := by
  refine ⟨h.1, ?_⟩
  rcases h.2 with hn | ⟨g, cap, cur, hv, hb, rest⟩
  · exact .inl hn
  · exact .inr ⟨g, cap, cur, hv, Nat.le_trans hle hb, rest⟩
theorem ownsRow_obj {W : World} {base : Nat} {e : TypeId} {size k : Nat} {v : Value} {xs : List Value} (h : W.ownsRow base e size v k xs) {r : Nat} (hr : v.ownBlock = some r) : base ≤ r ∧ ∃ o : Obj, W.heap[r]? = some o ∧ o.isCells = true := by
  rcases h.2 with ⟨rfl, _⟩ | ⟨g, cap, cur, rfl, hb, hg, _⟩
  · simp [Value.ownBlock] at hr
  · obtain rfl : g = r := by simpa [Value.ownBlock] using hr
    exact ⟨hb, _, hg, rfl⟩
theorem Rnd.grown2 {Q : Nat → Prop} {B K : Nat} {W W' : World} {row : Option Nat} (h : W.grownBy W' row) (hr : ∀ r, row = some r → ¬ Q r ∧ (r < B ∨ B + K ≤ r ∧ ∃ o : Obj, W.heap[r]? = some o ∧ o.isCells = true)) : Rnd Q B K W W' :=
  ⟨h.size, fun k o hk hq => (h.block k (Array.getElem?_eq_some_iff.1 hk).1 (fun e => by
    obtain ⟨h1, h2⟩ := hr k e.symm
    rcases hq with hq | ⟨hB, hc⟩
    · exact h1 hq
    · rcases h2 with h2 | ⟨h2, o', ho', hcl⟩
      · omega
      · rw [hk] at ho'
        obtain rfl : o = o' := by injection ho'
        rcases hc with hc | hc
        · omega
        · rw [hcl] at hc; cases hc)).trans hk⟩
theorem FR.low {W : World} {B B' n : Nat} {v : Value} {X Y : Nat → Int} (h : FR W B v n X Y) (hB : B' ≤ B) : FR W B' v n X Y := by
  obtain ⟨A, cap, e, h⟩ := h.is
  refine ⟨A, cap, e, fun h0 => ?_⟩
  obtain ⟨g, e, h1, h2⟩ := h h0
  exact ⟨g, e, Nat.le_trans hB h1, h2⟩
/-- The fields so far lie in a row of the call's own, told by a variable in a box. -/
def FI (d B : Nat) (w : World) (pre : List (FieldP d)) (V : World) : Prop :=
  (∃ v, Boxed V w.heap.size 32 v ∧ V.ownsRow B 25 2 v (pre.map (·.1)).length (fCs d (pre.map (·.1)))) ∧ Below w.heap.size w V
theorem FI.bears (d : Nat) {B0 B K : Nat} {w : World} (hB : B0 + K ≤ B) (hw : w.heap.size < B0) : Bears B0 K (FI d B w) := fun s W V row h hg hr => by
  obtain ⟨⟨v, hv, ho⟩, hb⟩ := h
  refine ⟨⟨v, hv.kept hg (fun e => by have := (hr _ e.symm).1; omega), ho.kept hg ?_⟩, hb.grown hg hb.size fun k e => by have := (hr k e).1; omega⟩
  cases hob : v.ownBlock with
  | none => exact .inl rfl
  | some r =>
    refine .inr fun e => ?_
    obtain ⟨h1, o, ho1, ho2⟩ := ownsRow_obj ho hob
    obtain ⟨h2, h3⟩ := hr r e.symm
    rcases h3 with h3 | ⟨o', h3, h4⟩
    · omega
    · rw [ho1] at h3
      obtain rfl : o = o' := by injection h3
      rw [ho2] at h4; cases h4
end Go.Proofs.Ytlchelaohiojiaa
