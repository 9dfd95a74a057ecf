/- InverseLinear: what the model's and the program's function return. · What is zero at the first elements is zero at their sums alone; so interpolation goes through exactly where the elements' rank is their number. Pure, of no program. -/
import Derived.Test.YtfppacahjdpamaaDivPure
import Derived.Test.YtfppacahjdpamaaColPure
import Derived.Test.YtfppacahjdpamaaRankL
import Derived.Test.YtfppacahjdpamaaIpS
import Derived.Test.YtfppacahjdpamaaIpI
import Derived.Maps.AppendAt
namespace Go.Proofs.Ytfppacahjdpamaa
set_option linter.unusedVariables false

theorem xor4x (a b c d : Nat) : (a ^^^ b) ^^^ (c ^^^ d) = (a ^^^ c) ^^^ (b ^^^ d) := by
  apply Nat.eq_of_testBit_eq; intro i
  simp only [Nat.testBit_xor]
  cases a.testBit i <;> cases b.testBit i <;> cases c.testBit i <;> cases d.testBit i <;> rfl
theorem vlk_add {m P n x y : Nat} (hF : Fld m P n) {p : List Nat} (ep : ∀ j, nth p j < n) (hx : x < n) (hy : y < n) : ∀ k, vlk P p (x ^^^ y) k = vlk P p x k ^^^ vlk P p y k
  | 0 => by simp [vlk]
  | k + 1 => by
    simp only [vlk]
    rw [vlk_add hF ep hx hy k, sq_xor hF hx hy, mul_add' hF (sq_lt hF hx k) (sq_lt hF hy k) (ep k), xor4x]
theorem vl_add {m P n x y : Nat} (hF : Fld m P n) {p : List Nat} (ep : ∀ j, nth p j < n) (hx : x < n) (hy : y < n) : vl P p (x ^^^ y) = vl P p x ^^^ vl P p y := vlk_add hF ep hx hy _
theorem xor_zero_iff {a b : Nat} : a ^^^ b = 0 ↔ a = b :=
  ⟨fun h => by have := congrArg (· ^^^ b) h; simpa [Nat.xor_assoc] using this, fun h => by rw [h, Nat.xor_self]⟩
theorem sp_snoc {L : List Nat} {r x : Nat} : Sp (L ++ [r]) x ↔ Sp L x ∨ Sp L (x ^^^ r) := by
  have hsub : ∀ {y}, Sp L y → Sp (L ++ [r]) y := fun h => Sp.sub (fun s hs => Sp.mem (by simp [hs])) h
  constructor
  · intro h
    refine Sp.least (S := fun x => Sp L x ∨ Sp L (x ^^^ r)) (.inl (Sp.zero L)) (fun a b ha hb => ?_) (fun s hs => ?_) h
    · rcases ha with ha | ha <;> rcases hb with hb | hb
      · exact .inl (ha.xor hb)
      · refine .inr ?_
        rw [Nat.xor_assoc]; exact ha.xor hb
      · refine .inr ?_
        rw [show a ^^^ b ^^^ r = (a ^^^ r) ^^^ b by rw [Nat.xor_assoc, Nat.xor_comm b r, ← Nat.xor_assoc]]; exact ha.xor hb
      · refine .inl ?_
        have := ha.xor hb
        rwa [xor4x, Nat.xor_self, Nat.xor_zero] at this
    · rcases List.mem_append.1 hs with h | h
      · exact .inl (Sp.mem h)
      · simp at h; subst h
        exact .inr (by rw [Nat.xor_self]; exact Sp.zero L)
  · rintro (h | h)
    · exact hsub h
    · have := (hsub h).xor (Sp.mem (L := L ++ [r]) (r := r) (by simp))
      rwa [Nat.xor_assoc, Nat.xor_self, Nat.xor_zero] at this
theorem vl_one1 {m P n y : Nat} (hF : Fld m P n) (hy : y < n) : vl P [1] y = y := by
  show vlk P [1] y 1 = y
  simp only [vlk]
  show 0 ^^^ mul P 1 (sq P y 0) = y
  rw [one_mul' hF (sq_lt hF hy 0)]
  simp [sq]
theorem ip_free {m P n : Nat} (hF : Fld m P n) {xs ys : Nat → Nat} (hx : ∀ i, xs i < n) : ∀ i {y : Nat}, y < n → (vl P (ip P n xs ys i).1 y = 0 ↔ Sp (lst xs i) y)
  | 0, y, hy => by
    have e : (ip P n xs ys 0).1 = [1] := rfl
    rw [e, vl_one1 hF hy, show lst xs 0 = [] from rfl]
    constructor
    · intro h; rw [h]; exact .nil
    · intro h; cases h; rfl
  | i + 1, y, hy => by
    have hp := (ip_lt hF xs ys i).1
    have hv := vl_lt hF (ip P n xs ys i).1 (xs i)
    have ht := vl_lt hF (ip P n xs ys i).1 y
    have h1 := ip_free hF (ys := ys) hx i hy
    have h2 := ip_free hF (ys := ys) hx i (y := y ^^^ xs i) (hF.xor_lt hy (hx i))
    rw [ip_next1, vl_cmp hF (two_lt hF hv) hp hy, vl_two hF hv ht, show lst xs (i + 1) = lst xs i ++ [xs i] from range_succ_map xs i, sp_snoc, ← h1, ← h2, vl_add hF hp hy (hx i), ← add_mul' hF hv ht ht]
    generalize vl P (ip P n xs ys i).1 (xs i) = v at hv ⊢
    generalize vl P (ip P n xs ys i).1 y = t at ht ⊢
    by_cases e0 : t = 0
    · subst e0
      simp only [true_or, iff_true]
      exact mul_zero' hF (hF.xor_lt hv ht)
    · by_cases e1 : v ^^^ t = 0
      · have := xor_zero_iff.1 e1
        subst this
        simp only [Nat.xor_self, or_true, iff_true]
        rw [mul_comm' hF (by have := hF.n2; omega) ht]
        exact mul_zero' hF ht
      · have := mul_ne hF (hF.xor_lt hv ht) ht e1 e0
        simp only [this, e0, false_or, false_iff]
        intro h; exact e1 (by rw [Nat.xor_comm]; exact h)
theorem rest_iff {L : List Nat} (h : Ech L) {r : Nat} : rest L r = 0 ↔ Sp L r := by
  obtain ⟨h1, y, h2, h3, _⟩ := rest_spec h r
  constructor
  · intro e
    rw [h3] at e
    rw [xor_zero_iff.1 e]; exact h2
  · intro k
    exact h.zero (by rw [h3]; exact k.xor h2) h1
theorem add_len {L : List Nat} (h : Ech L) (r : Nat) : (Sp L r → (add L r).length = L.length) ∧ (¬ Sp L r → (add L r).length = L.length + 1) := by
  refine ⟨fun k => by rw [add_zero_rest (rest_iff h |>.2 k)], fun k => ?_⟩
  have : rest L r ≠ 0 := fun e => k ((rest_iff h).1 e)
  rw [add_rest this, ins_len]
theorem ip_rank {m P n : Nat} (hF : Fld m P n) {xs ys : Nat → Nat} (hx : ∀ i, xs i < n) : ∀ i, (joined [] (lst xs i)).length ≤ i ∧ (ipB P n xs ys i = true ↔ (joined [] (lst xs i)).length = i)
  | 0 => ⟨Nat.le_refl _, by simp [ipB, show joined [] (lst xs 0) = [] from rfl]⟩
  | i + 1 => by
    obtain ⟨h1, h2⟩ := ip_rank hF (ys := ys) hx i
    obtain ⟨hE, hS⟩ := joined_spec (lst xs i) Ech.nil
    have hS' := hS (xs i)
    rw [List.nil_append] at hS'
    have hf := ip_free hF (ys := ys) hx i (hx i)
    rw [show lst xs (i + 1) = lst xs i ++ [xs i] from range_succ_map xs i, joined_snoc]
    obtain ⟨a1, a2⟩ := add_len hE (xs i)
    simp only [ipB, Bool.and_eq_true, decide_eq_true_eq]
    by_cases k : Sp (joined [] (lst xs i)) (xs i)
    · rw [a1 k]
      refine ⟨by omega, ?_⟩
      have := hf.2 (hS'.1 k)
      constructor
      · rintro ⟨_, h⟩; exact absurd this h
      · intro h; omega
    · rw [a2 k]
      refine ⟨by omega, ?_⟩
      rw [h2]
      have : vl P (ip P n xs ys i).1 (xs i) ≠ 0 := fun e => k (hS'.2 (hf.1 e))
      constructor
      · rintro ⟨h, _⟩; omega
      · intro h; exact ⟨by omega, this⟩
end Go.Proofs.Ytfppacahjdpamaa
namespace Go.Proofs.Ytfppacahjdpamaa
open Go.RowKit Go.Joins
set_option linter.unusedVariables false

/-- The units. -/
def un (k : Nat) : List Nat := lst (fun j => 2 ^ j) k
theorem un_succ (k : Nat) : un (k + 1) = un k ++ [2 ^ k] := range_succ_map _ _
theorem un_nth {m P n : Nat} (hF : Fld m P n) (j : Nat) : nth (un m) j < n := by
  by_cases h : j < m
  · rw [un, lst_nth _ h]; exact pow_lt_n hF h
  · rw [nth_ge (by rw [un, lst_length]; omega)]; have := hF.n2; omega
theorem uv_nth {m P n : Nat} (hF : Fld m P n) (p : List Nat) (j : Nat) : nth (uv P p m) j < n := by
  by_cases h : j < m
  · rw [uv, lst_nth _ h]; exact vl_lt hF _ _
  · rw [nth_ge (by rw [uv_len]; omega)]; have := hF.n2; omega
/-- Interpolation goes through exactly where the rank is the degree. -/
theorem uv_ip {m P n : Nat} (hF : Fld m P n) (p ys : List Nat) : ipB P n (nth (uv P p m)) (nth ys) m = decide ((joined [] (uv P p m)).length = m) := by
  have h := (ip_rank hF (xs := nth (uv P p m)) (ys := nth ys) (uv_nth hF p) m).2
  rw [← lst_of (uv_len P p m)] at h
  cases hb : ipB P n (nth (uv P p m)) (nth ys) m with
  | true => rw [hb] at h; simp [h.1 rfl]
  | false =>
    rw [hb] at h
    symm
    rw [decide_eq_false_iff_not]
    intro e; exact absurd (h.2 e) (by simp)

def fInverseLinear (d p : Int) (zs : List Int) : List Int × Int :=
  if okFL d p zs = false then ([], 1) else if (joined [] (uv p.toNat (nats zs) d.toNat)).length = d.toNat then (ints (ip p.toNat (2 ^ d.toNat) (nth (uv p.toNat (nats zs) d.toNat)) (nth (un d.toNat)) d.toNat).2, 0) else ([], 4)
theorem fInverseLinear_B {d p : Int} {zs : List Int} (h : okFL d p zs = false) : fInverseLinear d p zs = ([], 1) := by simp [fInverseLinear, h]
theorem fInverseLinear_S {m P n : Nat} (hF : Fld m P n) {zs : List Int} (h : okL n zs = true) (hr : (joined [] (uv P (nats zs) m)).length ≠ m) : fInverseLinear m P zs = ([], 4) := by
  rw [fInverseLinear, okFL_yes hF, h, if_neg (by simp), Int.toNat_natCast, Int.toNat_natCast, if_neg hr]
theorem fInverseLinear_C {m P n : Nat} (hF : Fld m P n) {zs : List Int} (h : okL n zs = true) (hr : (joined [] (uv P (nats zs) m)).length = m) : fInverseLinear m P zs = (ints (ip P n (nth (uv P (nats zs) m)) (nth (un m)) m).2, 0) := by
  rw [fInverseLinear, okFL_yes hF, h, if_neg (by simp), Int.toNat_natCast, Int.toNat_natCast, if_pos hr, hF.n]

theorem OL.kept {W W' : World} {B : Nat} {A : Option Addr} {n cap : Nat} {p : List Nat} {row : Option Nat} (h : OL W B A n cap p) (hg : W.grownBy W' row) (hne : (Value.slice A n cap).ownBlock ≠ row) : OL W' B A n cap p := ⟨h.len, h.own.kept hg (.inr hne)⟩
theorem ap_ne {W : World} {B n : Nat} {e : TypeId} {sz : Nat} {v u v' : Value} {xs : List Value} (hu : W.ownsRow B e sz u n xs) (hne : u.ownBlock ≠ v.ownBlock) (h : v'.ownBlock = v.ownBlock ∨ v'.ownBlock = some W.heap.size) : u.ownBlock ≠ v'.ownBlock := by
  rcases h with h | h
  · rw [h]; exact hne
  · rw [h]; intro e; have := (hu.lt _ e).2; omega
theorem OL.new {W : World} {B : Nat} (hB : B ≤ W.heap.size) : OL (W.alloc (.cells #[] 2)) B (some ⟨W.heap.size, 0, none⟩) 0 0 [] := ⟨rfl, World.ownsRow_made W #[] 0 hB (by unfold maxLen; omega) (by simp)⟩
theorem OL.rl {W : World} {B : Nat} {A : Option Addr} {n cap : Nat} {p : List Nat} (h : OL W B A n cap p) : Rl W .i64 A n p := h.sv.rl
theorem mt_more {w W W' : World} {b len : Nat} {zs : List Int} (h : Mt W b len zs) (hb0 : b < w.heap.size + 1) (hb : Below (w.heap.size + 1) W W') : Mt W' b len zs :=
  ⟨h.len, h.small, Nat.lt_of_lt_of_le h.lt hb.size, fun j hj => (hb.cell (p := ⟨b, j, none⟩) hb0).trans (h.cell j hj), fun j => (hb.frozen (p := ⟨b, j, none⟩) hb0).trans (h.free j)⟩
theorem FAt.more {w W W' : World} {m P : Int} (h : FAt w m P W) (hb : Below (w.heap.size + 1) W W') : FAt w m P W' :=
  ⟨h.b.trans (hb.mono (by omega)), Nat.le_trans h.z hb.size, (hb.cell (p := ⟨w.heap.size, 0, none⟩) (by simp)).trans h.c0, (hb.cell (p := ⟨w.heap.size, 1, none⟩) (by simp)).trans h.c1⟩

set_option maxHeartbeats 800000 in
theorem specInverseLinear_A (d p : Int) (hf : fldI d p = false) (v : Value) (w : World) :
    Calls Try.prog 41 #[.agg #[.int .i64 d, .int .i64 p], v] w fun e w' => ∃ v, e = .returned (.tuple #[v, .int .i64 1]) ∧ Below w.heap.size w w' ∧ Res w' w.heap.size w'.heap.size v [] := by
  have HF := Lib.hid hf
  clear hf
  go_enter Try.func41, Try.ntmps41
  have h0 := FAt.start w d p 27
  go_wp2_with fail
  refine (specValidLinear_A d p HF.out _ _).mono ?_
  rintro e w1 ⟨rfl, hb⟩
  have h1 := h0.next hb
  have HB := Lib.hid h1
  clear hb h0 h1
  go_wp2_with fail
  go_ret2
  exact ⟨_, rfl, (HB.out.alloc _).b, .nil _ _⟩
set_option maxHeartbeats 800000 in
theorem specInverseLinear_B (m P n : Nat) (hF : Fld m P n) (b len cap : Nat) (zs : List Int) (hok : okL n zs = false) (w : World) (hM : Mt w b len zs) :
    Calls Try.prog 41 #[.agg #[.int .i64 m, .int .i64 P], .slice (some ⟨b, 0, none⟩) len cap] w fun e w' => ∃ v, e = .returned (.tuple #[v, .int .i64 1]) ∧ Below w.heap.size w w' ∧ Res w' w.heap.size w'.heap.size v [] := by
  have HOK := Lib.hid hok
  have HM := Lib.hid hM
  clear hok hM
  go_enter Try.func41, Try.ntmps41
  have h0 := FAt.start w m P 27
  go_wp2_with fail
  refine (specValidLinear_C m P n hF b len cap zs _ (HM.out.below h0.b) _ HOK.out).mono ?_
  rintro e w1 ⟨rfl, hb⟩
  have h1 := h0.next hb
  have HB := Lib.hid h1
  clear hb h0 h1
  go_wp2_with fail
  go_ret2
  exact ⟨_, rfl, (HB.out.alloc _).b, .nil _ _⟩
set_option maxRecDepth 100000 in
set_option maxHeartbeats 3200000 in
theorem specInverseLinear_S (m P n : Nat) (hF : Fld m P n) (b len cap : Nat) (zs : List Int) (hok : okL n zs = true) (hr : (joined [] (uv P (nats zs) m)).length ≠ m) (w : World) (hM : Mt w b len zs) :
    Calls Try.prog 41 #[.agg #[.int .i64 m, .int .i64 P], .slice (some ⟨b, 0, none⟩) len cap] w fun e w' => ∃ v, e = .returned (.tuple #[v, .int .i64 4]) ∧ Below w.heap.size w w' ∧ Res w' w.heap.size w'.heap.size v [] := by
  have h32 := hF.n32
  have hn2 := hF.n2
  have hlen := hM.len
  have h12 := okL_len hok
  have HIN := Lib.hid (okL_in hok)
  have HOK := Lib.hid hok
  have HM := Lib.hid hM
  have HR := Lib.hid (fun (w : World) (hM : Mt w b len zs) => l03Rank_any m P n hF (some ⟨b, 0, none⟩) len cap (nats zs) (nats_lt HIN.out (by omega)) (by omega) w (hM.rl HIN.out))
  generalize (joined [] (uv P (nats zs) m)).length = r at HR hr
  clear hok hM
  go_enter Try.func41, Try.ntmps41
  have h0 := FAt.start w m P 27
  go_wp2_with fail
  refine (specValidLinear_C m P n hF b len cap zs _ (HM.out.below h0.b) _ HOK.out).mono ?_
  rintro e w1 ⟨rfl, hb⟩
  have h1 := h0.next hb
  have c1 := h1.c0; have d1 := h1.c1
  clear hb h0
  have HA := Lib.hid h1
  have HMM := Lib.hid (HM.out.below h1.b)
  clear h1
  have g0 : ((r : Int) == (m : Int)) = false := by simp; omega
  have g1 : ((r : Int) != (m : Int)) = true := by simp; omega
  go_wp2_with fail
  have HAD := Lib.hid HA.out.drew
  have c2 : w1.drew.cell? ⟨w.heap.size, 0, none⟩ = some (.int .i64 m) := c1
  have d2 : w1.drew.cell? ⟨w.heap.size, 1, none⟩ = some (.int .i64 P) := d1
  go_region_law (go_simp; go_wp2_with (go_at_call 74; refine (HR.out _ (HMM.out.below (Below.refl _ w1).drew)).mono ?_; rintro e w3 ⟨rfl, hb3⟩; have H3 := Lib.hid (HAD.out.next hb3); have c3 := H3.out.c0; have d3 := H3.out.c1; clear hb3))
  all_goals
    go_wp2_with fail
    go_ret2
    exact ⟨_, rfl, (H3.out.alloc _).b, .nil _ _⟩
set_option maxRecDepth 100000 in
set_option maxHeartbeats 6400000 in
theorem specInverseLinear_C (m P n : Nat) (hF : Fld m P n) (b len cap : Nat) (zs : List Int) (hok : okL n zs = true) (hr : (joined [] (uv P (nats zs) m)).length = m) (w : World) (hM : Mt w b len zs) :
    Calls Try.prog 41 #[.agg #[.int .i64 m, .int .i64 P], .slice (some ⟨b, 0, none⟩) len cap] w fun e w' => ∃ v, e = .returned (.tuple #[v, .int .i64 0]) ∧ Below w.heap.size w w' ∧ Res w' w.heap.size w'.heap.size v (ints (ip P n (nth (uv P (nats zs) m)) (nth (un m)) m).2) := by
  obtain ⟨i0, hi, hz0, hz1, hz2⟩ := info_parts Try.infoI
  have h32 := hF.n32
  have hn2 := hF.n2
  have hm5 := hF.m5
  have hm1 := hF.m1
  have hlen := hM.len
  have h12 := okL_len hok
  have HIN := Lib.hid (okL_in hok)
  have HOK := Lib.hid hok
  have HM := Lib.hid hM
  have hB0 : Hid (b < w.heap.size + 1) := Lib.hid (by have := hM.lt; omega)
  have HR := Lib.hid (fun (w : World) (hM : Mt w b len zs) => l03Rank_any m P n hF (some ⟨b, 0, none⟩) len cap (nats zs) (nats_lt HIN.out (by omega)) (by omega) w (hM.rl HIN.out))
  have hB : ipB P n (nth (uv P (nats zs) m)) (nth (un m)) m = true := by rw [uv_ip hF, hr]; simp
  rw [hr] at HR
  have HP := Lib.hid (nats_lt HIN.out (show 0 < n by omega))
  have HRL := Lib.hid (fun (W : World) (hM : Mt W b len zs) => hM.rl HIN.out)
  obtain ⟨p, hp⟩ : ∃ p, nats zs = p := ⟨_, rfl⟩
  rw [hp] at hB HP HRL ⊢
  have HI := Lib.hid (fun (A1 A2 : Option Addr) (c1 c2 : Nat) (W : World) (hX : Rl W .i64 A1 m (uv P p m)) (hY : Rl W .i64 A2 m (un m)) => l03Interpolate_any m P n hF A1 A2 m c1 c2 (uv P p m) (un m) (uv_nth hF p) (un_nth hF) W (by omega) hX hY)
  have hsmall := ip_small hF (uv_nth hF p) (ipB_ok hB)
  have hle := (ip_le P n (nth (uv P p m)) (nth (un m)) m).2
  rw [hB] at HI
  have HLE := Lib.hid hle
  clear hok hM hr hp hB hle hsmall
  go_enter Try.func41, Try.ntmps41
  have h0 := FAt.start w m P 27
  go_wp2_with fail
  refine (specValidLinear_C m P n hF b len cap zs _ (HM.out.below h0.b) _ HOK.out).mono ?_
  rintro e w1 ⟨rfl, hb⟩
  have h1 := h0.next hb
  have c1 := h1.c0; have d1 := h1.c1
  clear hb h0
  have HA := Lib.hid h1
  have HMM := Lib.hid (HM.out.below h1.b)
  clear h1
  have g1 : ((m : Int) != (m : Int)) = false := by simp
  go_wp2_with fail
  have HAD := Lib.hid HA.out.drew
  have c2 : w1.drew.cell? ⟨w.heap.size, 0, none⟩ = some (.int .i64 m) := c1
  have d2 : w1.drew.cell? ⟨w.heap.size, 1, none⟩ = some (.int .i64 P) := d1
  go_region_law (go_simp; go_wp2_with (go_at_call 74; refine (HR.out _ (HMM.out.below (Below.refl _ w1).drew)).mono ?_; rintro e w3 ⟨rfl, hb3⟩; have H3 := Lib.hid (HAD.out.next hb3); have c3 := H3.out.c0; have d3 := H3.out.c1; have HM3 := Lib.hid ((HMM.out.below (Below.refl _ w1).drew).below hb3); clear hb3))
  all_goals
    clear HA HMM HAD HM HR c1 d1 c2 d2
    have HX0 := Lib.hid ((OL.new (W := w3) (B := w.heap.size + 1) H3.out.z).below (below_alloc1 _ (.cells #[] 2)))
    have HY0 := Lib.hid (OL.new (W := w3.alloc (.cells #[] 2)) (B := w.heap.size + 1) (by have := H3.out.z; simp; omega))
    have HA0 := Lib.hid ((H3.out.alloc (.cells #[] 2)).alloc (.cells #[] 2))
    have HM0 := Lib.hid ((HM3.out.below (below_alloc1 _ (.cells #[] 2))).below (below_alloc1 _ (.cells #[] 2)))
    have e0 : (w3.alloc (.cells #[] 2)).heap.size = w3.heap.size + 1 := by simp
    rw [e0] at HY0
    have HN0 : Hid ((Value.slice (some ⟨w3.heap.size, 0, none⟩) 0 0).ownBlock ≠ (Value.slice (some ⟨w3.heap.size + 1, 0, none⟩) 0 0).ownBlock) := Lib.hid (by simp [Value.ownBlock])
    clear H3 HM3 c3 d3 e0
    go_wp2_with fail
    go_loopw [6, 7, 8] (fun v1 v2 i wr => ∃ (k c1 c2 : Nat) (D1 D2 : Option Addr), k ≤ m ∧ i = .int .i64 k ∧ v1 = .slice D1 k c1 ∧ v2 = .slice D2 k c2 ∧ FAt w m P wr ∧ OL wr (w.heap.size + 1) D1 k c1 (uv P p k) ∧ OL wr (w.heap.size + 1) D2 k c2 (un k) ∧ Hid ((Value.slice D1 k c1).ownBlock ≠ (Value.slice D2 k c2).ownBlock) ∧ Mt wr b len zs) (fun _ _ i _ => m - (intOf i).toNat)
    case atStart => exact ⟨0, 0, 0, _, _, Nat.zero_le _, rfl, rfl, rfl, HA0.out, HX0.out, HY0.out, HN0, HM0.out⟩
    case round =>
      obtain ⟨k, k1, k2, D1, D2, hk, rfl, rfl, rfl, hA, hO1, hO2, HN, hMr⟩ := hrel
      clear HA0 HX0 HY0 HN0 HM0
      have z1 := hA.z; have c1 := hA.c0; have d1 := hA.c1
      have HA := Lib.hid hA
      have HO1 := Lib.hid hO1
      have HO2 := Lib.hid hO2
      have HMr := Lib.hid hMr
      clear hA hO1 hO2 hMr
      by_cases hlt : k < m
      · have hxn : 2 ^ k < n := pow_lt_n hF hlt
        have e1 := pow_wrap' (j := k) (by omega)
        have HV := Lib.hid (fun (W : World) (h : Rl W .i64 (some ⟨b, 0, none⟩) len p) => l03Value_any m P n hF (some ⟨b, 0, none⟩) len cap p HP.out (2 ^ k) hxn (by omega) W h)
        have hvn := vl_lt hF p (2 ^ k)
        have hus := uv_succ P p k
        have hns := un_succ k
        obtain ⟨x, hx⟩ : ∃ x, 2 ^ k = x := ⟨_, rfl⟩
        rw [hx] at e1 HV hxn hvn hus hns
        obtain ⟨y, hy⟩ : ∃ y, vl P p x = y := ⟨_, rfl⟩
        rw [hy] at HV hvn hus
        have HE := Lib.hid hus
        have HE2 := Lib.hid hns
        clear hx hy hus hns
        go_wp2_with (first | (go_at_call 71; refine (HV.out _ (HRL.out _ HM4.out)).mono ?_; rintro e w5 ⟨rfl, hb5⟩; have HA5 := Lib.hid (HA4.out.next hb5); have z5 := HA5.out.z; have c5 := HA5.out.c0; have d5 := HA5.out.c1; have HX5 := Lib.hid (HX4.out.below hb5); have HY5 := Lib.hid (HO4.out.below hb5); have HM5 := Lib.hid (HM4.out.below hb5); clear hb5 HX4 HO4 HM4) | (at_builtin; refine wpList_append_own_at _ rfl _ _ 24 rfl (w.heap.size + 1) 2 i0 (.int .i64 0) 1 8 Try.underlying24 hi hz0 hz1 hz2 rfl (by decide) _ _ _ rfl (HX5.out.own.alloc _) ⟨w5.heap.size, 0, none⟩ 1 1 [.int .i64 y] rfl rfl (one_new _ _ _) (one_one _ _) (by unfold maxLen; omega) (by omega) (by simp; omega) ?_; intro v1' w6 hown' hgrow _ hob; have hb6 : Below (w.heap.size + 1) w5 w6 := ((Below.refl _ w5).alloc (by omega) _).grown hgrow (by simp; omega) (fun g hg => (HX5.out.own.lt g hg).1); have HA6 := Lib.hid (HA5.out.more hb6); have HY6 := Lib.hid ((HY5.out.below (below_alloc1 w5 _)).kept hgrow (Ne.symm HN4.out)); have HN6 := Lib.hid (Ne.symm (ap_ne (HY5.out.below (below_alloc1 w5 _)).own (Ne.symm HN4.out) hob)); have HM6 := Lib.hid (mt_more HM5.out hB0.out hb6); obtain ⟨A6, cp6, hv6, hO6⟩ := OL.of (n := k + 1) (p := uv P p (k + 1)) (by rw [HE.out]; simpa [ints] using hown'); subst hv6; have HO6 := Lib.hid hO6; clear hown' hgrow hob hO6 hb6) | (at_builtin; refine wpList_append_own_at _ rfl _ _ 24 rfl (w.heap.size + 1) 2 i0 (.int .i64 0) 1 8 Try.underlying24 hi hz0 hz1 hz2 rfl (by decide) _ _ _ rfl (HO2.out.own.alloc _) ⟨wr.heap.size, 0, none⟩ 1 1 [.int .i64 x] rfl rfl (one_new _ _ _) (one_one _ _) (by unfold maxLen; omega) (by omega) (by simp; omega) ?_; intro v2' w4 hown' hgrow _ hob; have hb4 : Below (w.heap.size + 1) wr w4 := ((Below.refl _ wr).alloc (by omega) _).grown hgrow (by simp; omega) (fun g hg => (HO2.out.own.lt g hg).1); have HA4 := Lib.hid (HA.out.more hb4); have z4 := HA4.out.z; have c4 := HA4.out.c0; have d4 := HA4.out.c1; have HX4 := Lib.hid ((HO1.out.below (below_alloc1 wr _)).kept hgrow HN.out); have HN4 := Lib.hid (ap_ne (HO1.out.below (below_alloc1 wr _)).own HN.out hob); have HM4 := Lib.hid (mt_more HMr.out hB0.out hb4); obtain ⟨A4, cp4, hv4, hO4⟩ := OL.of (n := k + 1) (p := un (k + 1)) (by rw [HE2.out]; simpa [ints] using hown'); subst hv4; have HO4 := Lib.hid hO4; clear hown' hgrow hob hO4 hb4))
        go_roundw
        case rel => exact ⟨k + 1, cp6, cp4, A6, A4, by omega, by go_num, rfl, rfl, HA6.out, HO6.out, HY6.out, HN6, HM6.out⟩
        case measure => simp [intOf]; omega
      · obtain rfl : k = m := by omega
        go_wp2_with fail
        refine (HI.out _ _ _ _ _ HO1.out.rl HO2.out.rl).mono ?_
        rintro e w5 ⟨D, r, cd, rfl, hb, hR⟩
        have h5 := HA.out.next hb
        have hs := (hR trivial).sv.len
        have hO := ((hR trivial).res (by have := HLE.out; omega)).wide2 (B' := w.heap.size) HA.out.b.size
        have HO5 := Lib.hid hO
        have H5 := Lib.hid h5
        clear hb hR h5 hs hO
        go_wp2_with fail
        go_ret2
        exact ⟨_, rfl, H5.out.b, HO5.out⟩
theorem specInverseLinear_any (d p : Int) (b len cap : Nat) (zs : List Int) (w : World) (hM : Mt w b len zs) :
    Calls Try.prog 41 #[.agg #[.int .i64 d, .int .i64 p], .slice (some ⟨b, 0, none⟩) len cap] w fun e w' => ∃ v, e = .returned (.tuple #[v, .int .i64 (fInverseLinear d p zs).2]) ∧ Below w.heap.size w w' ∧ Res w' w.heap.size w'.heap.size v (fInverseLinear d p zs).1 := by
  cases hf : fldI d p with
  | false => rw [fInverseLinear_B (okFL_no hf)]; exact specInverseLinear_A d p hf _ w
  | true =>
    obtain ⟨m, P, rfl, rfl, hF⟩ := fldI_nat hf
    have hF := Fld.of hF
    cases hok : okL (2 ^ m) zs with
    | false => rw [fInverseLinear_B (by rw [okFL_yes hF]; exact hok)]; exact specInverseLinear_B m P _ hF b len cap zs hok w hM
    | true =>
      by_cases hr : (joined [] (uv P (nats zs) m)).length = m
      · rw [fInverseLinear_C hF hok hr]; exact specInverseLinear_C m P _ hF b len cap zs hok hr w hM
      · rw [fInverseLinear_S hF hok hr]; exact specInverseLinear_S m P _ hF b len cap zs hok hr w hM
set_option maxHeartbeats 800000 in
theorem implInverseLinear_A (d p : Int) (hf : fldI d p = false) (hl : -9223372036854775808 ≤ p) (hh : p ≤ 9223372036854775807) (v : Value) (w : World) :
    Calls Try.prog 42 #[.agg #[.int .i64 d, .int .i64 p], v] w fun e w' => ∃ v, e = .returned (.tuple #[v, .int .i64 1]) ∧ Below w.heap.size w w' ∧ Res w' w.heap.size w'.heap.size v [] := by
  have HF := Lib.hid hf
  clear hf
  go_enter Try.func42, Try.ntmps42
  have hb0 := below_alloc1 w (.cells #[.int .i64 d, .int .i64 p] 27)
  have HB0 := Lib.hid hb0
  clear hb0
  go_wp2_with fail
  refine (linearFor_A d p HF.out hl hh v _ _).mono ?_
  rintro e w1 ⟨rfl, hb⟩
  have HB1 := Lib.hid (HB0.out.trans (hb.mono HB0.out.size))
  clear hb
  go_wp2_with fail
  go_ret2
  exact ⟨_, rfl, HB1.out, .nil _ _⟩
set_option maxHeartbeats 800000 in
theorem implInverseLinear_B (m P n : Nat) (hF : Fld m P n) (b len cap : Nat) (zs : List Int) (hok : okL n zs = false) (w : World) (hM : Mt w b len zs) :
    Calls Try.prog 42 #[.agg #[.int .i64 m, .int .i64 P], .slice (some ⟨b, 0, none⟩) len cap] w fun e w' => ∃ v, e = .returned (.tuple #[v, .int .i64 1]) ∧ Below w.heap.size w w' ∧ Res w' w.heap.size w'.heap.size v [] := by
  have HOK := Lib.hid hok
  have HM := Lib.hid hM
  clear hok hM
  go_enter Try.func42, Try.ntmps42
  have hb0 := below_alloc1 w (.cells #[.int .i64 m, .int .i64 P] 27)
  have HB0 := Lib.hid hb0
  clear hb0
  go_wp2_with fail
  refine (linearFor_B m P n hF b len cap zs _ _ (HM.out.below HB0.out) HOK.out).mono ?_
  rintro e w1 ⟨rfl, hb⟩
  have HB1 := Lib.hid (HB0.out.trans (hb.mono HB0.out.size))
  clear hb
  go_wp2_with fail
  go_ret2
  exact ⟨_, rfl, HB1.out, .nil _ _⟩
set_option maxRecDepth 100000 in
set_option maxHeartbeats 3200000 in
theorem implInverseLinear_C (m P n : Nat) (hF : Fld m P n) (b len cap : Nat) (zs : List Int) (hok : okL n zs = true) (r : Bool) (hr : ipB P n (nth (uv P (nats zs) m)) (nth (un m)) m = r) (w : World) (hM : Mt w b len zs) :
    Calls Try.prog 42 #[.agg #[.int .i64 m, .int .i64 P], .slice (some ⟨b, 0, none⟩) len cap] w fun e w' => ∃ v, e = .returned (.tuple #[v, .int .i64 (if r then 0 else 4)]) ∧ Below w.heap.size w w' ∧ Res w' w.heap.size w'.heap.size v (if r then ints (ip P n (nth (uv P (nats zs) m)) (nth (un m)) m).2 else []) := by
  have h32 := hF.n32
  have hn2 := hF.n2
  have hm5 := hF.m5
  have hlen := hM.len
  have h12 := okL_len hok
  have HIN := Lib.hid (okL_in hok)
  have HOK := Lib.hid hok
  have HM := Lib.hid hM
  have HU := Lib.hid (fun (c g : Nat) (w : World) (hC : Calc c m P n w) (hR : Rl w .u8 (some ⟨g, 0, none⟩) len (nats zs)) => unitValues_any c m P n hF (some ⟨g, 0, none⟩) len len (nats zs) (nats_lt HIN.out (by omega)) (by omega) w hC hR)
  have HX : Hid (lst (fun j => vl P (nats zs) (2 ^ j)) m = uv P (nats zs) m) := Lib.hid rfl
  have HY : Hid (lst (fun j => 2 ^ j) m = un m) := Lib.hid rfl
  have HI := Lib.hid (fun (c g1 g2 : Nat) (W : World) (hC : Calc c m P n W) (hX : Rl W .i64 (some ⟨g1, 0, none⟩) m (uv P (nats zs) m)) (hY : Rl W .i64 (some ⟨g2, 0, none⟩) m (un m)) => interpolated_any c m P n hF _ _ m m m (uv P (nats zs) m) (un m) (uv_nth hF _) (un_nth hF) W (by omega) hC hX hY)
  rw [hr] at HI
  have HLE := Lib.hid (ip_le P n (nth (uv P (nats zs) m)) (nth (un m)) m).2
  have H256 := Lib.hid (fun i => show nth (ip P n (nth (uv P (nats zs) m)) (nth (un m)) m).2 i < 256 by have := (ip_lt hF (nth (uv P (nats zs) m)) (nth (un m)) m).2 i; omega)
  clear hok hM hr
  go_enter Try.func42, Try.ntmps42
  have hb0 := below_alloc1 w (.cells #[.int .i64 m, .int .i64 P] 27)
  have HB0 := Lib.hid hb0
  clear hb0
  go_wp2_with fail
  refine (linearFor_C m P n hF b len cap zs none 0 0 [] (by omega) _ (HM.out.below HB0.out) HOK.out (arg_nil _) rfl).mono ?_
  rintro e w1 ⟨c, g, rfl, hb, hC, hR⟩
  have HB1 := Lib.hid (HB0.out.trans (hb.mono HB0.out.size))
  have HC := Lib.hid hC
  have HW := Lib.hid (HU.out c g _ hC hR)
  clear hb hC hR HU
  go_wp2_with fail
  refine HW.out.mono ?_
  rintro e w2 ⟨u, rfl, hu, hb2, hW⟩
  have hx := hW.rl
  rw [HX.out] at hx
  have HRX := Lib.hid hx
  have HC2 := Lib.hid (HC.out.below HC.out.lt hb2)
  have HB2 := Lib.hid (HB1.out.trans (hb2.mono HB1.out.size))
  have HU2 := Lib.hid (units_any c m P n hF w2 HC2.out.deg)
  clear hb2 hW hu hx HC HW HB1
  go_wp2_with fail
  refine HU2.out.mono ?_
  rintro e w3 ⟨v, rfl, hv, hb3, hW⟩
  have hy := hW.rl
  rw [HY.out] at hy
  have HRY := Lib.hid hy
  have HRX3 := Lib.hid (HRX.out.below hb3)
  have HC3 := Lib.hid (HC2.out.below HC2.out.lt hb3)
  have HB3 := Lib.hid (HB2.out.trans (hb3.mono HB2.out.size))
  clear hb3 hW hv hy HC2 HU2 HRX HB2
  go_wp2_with fail
  refine (HI.out _ _ _ _ HC3.out HRX3.out HRY.out).mono ?_
  rintro e w4 ⟨D, q, cd, rfl, hb4, hR⟩
  have HB4 := Lib.hid (HB3.out.trans (hb4.mono HB3.out.size))
  cases r with
  | false =>
    clear hb4 hR
    go_wp2_with fail
    go_ret2
    exact ⟨_, rfl, HB4.out, .nil _ _⟩
  | true =>
    have HR := Lib.hid (hR rfl)
    have hs := HR.out.len
    have hle := HLE.out
    have hq : q ≤ 1048576 := by omega
    clear hb4 hR hs hle
    go_wp2_with fail
    refine (numbers_any D q cd _ hq H256.out _ HR.out).mono ?_
    rintro e w5 ⟨b3, rfl, hbb, hb, hM⟩
    have hz := HB4.out.size
    have HB5 := Lib.hid (HB4.out.trans (hb.mono HB4.out.size))
    have HRES := Lib.hid (hM.res (cap := q) (B := w.heap.size) (by omega))
    clear hb hM
    go_wp2_with fail
    go_ret2
    exact ⟨_, rfl, HB5.out, HRES.out⟩
theorem implInverseLinear_any (d p : Int) (b len cap : Nat) (zs : List Int) (w : World) (hl : -9223372036854775808 ≤ p) (hh : p ≤ 9223372036854775807) (hM : Mt w b len zs) :
    Calls Try.prog 42 #[.agg #[.int .i64 d, .int .i64 p], .slice (some ⟨b, 0, none⟩) len cap] w fun e w' => ∃ v, e = .returned (.tuple #[v, .int .i64 (fInverseLinear d p zs).2]) ∧ Below w.heap.size w w' ∧ Res w' w.heap.size w'.heap.size v (fInverseLinear d p zs).1 := by
  cases hf : fldI d p with
  | false => rw [fInverseLinear_B (okFL_no hf)]; exact implInverseLinear_A d p hf hl hh _ w
  | true =>
    obtain ⟨m, P, rfl, rfl, hF⟩ := fldI_nat hf
    have hF := Fld.of hF
    cases hok : okL (2 ^ m) zs with
    | false => rw [fInverseLinear_B (by rw [okFL_yes hF]; exact hok)]; exact implInverseLinear_B m P _ hF b len cap zs hok w hM
    | true =>
      have hi := uv_ip hF (nats zs) (un m)
      by_cases hr : (joined [] (uv P (nats zs) m)).length = m
      · rw [fInverseLinear_C hF hok hr]
        have := implInverseLinear_C m P _ hF b len cap zs hok true (by rw [hi]; simp [hr]) w hM
        simpa using this
      · rw [fInverseLinear_S hF hok hr]
        have := implInverseLinear_C m P _ hF b len cap zs hok false (by rw [hi]; simp [hr]) w hM
        simpa using this
end Go.Proofs.Ytfppacahjdpamaa
