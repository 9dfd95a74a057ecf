/- The program's lists of coefficients: without zeros at the end, as numbers, values. · The program's lists of coefficients: multiples, composed, sums. · The program's lists of coefficients: sums, made of numbers; what linearFor and linearsFor return. · The program's linear polynomials: made of numbers; what linearFor and linearsFor return. -/
import Derived.Test.YtilghmfffdmnjaaEPlus
import Derived.Test.YtilghmfffdmnjaaSqr
import Derived.Test.YtilghmfffdmnjaaWr
import Derived.Test.YtilghmfffdmnjaaDivPure
import Derived.Test.YtilghmfffdmnjaaIn
import Derived.Test.YtilghmfffdmnjaaElemsOf
import Derived.Laws.CopyOwn
namespace Go.Proofs.Ytilghmfffdmnjaa
open Go.RowKit Go.Joins
set_option linter.unusedVariables false

set_option maxHeartbeats 1600000 in
theorem trimmed_any (A : Option Addr) (n cap : Nat) (f : Nat → Nat) (hn : n ≤ cap) (hcap : cap ≤ 2097152) (w : World) (h : 0 < n → ∃ g, A = some ⟨g, 0, none⟩ ∧ ∀ j, j < n → w.cell? ⟨g, j, none⟩ = some (.int .u8 (f j : Nat))) :
    Calls Try.prog 119 #[.slice A n cap] w fun e w' => e = .returned (.slice A (tl f n) cap) ∧ w = w' := by
  have HH := Lib.hid h
  clear h
  go_enter Try.func119, Try.ntmps119
  go_wp2
  go_loop [0] (fun s => ∃ k : Nat, k ≤ n ∧ s = .slice A k cap ∧ Hid (tl f k = tl f n)) (fun s => match s with | .slice _ k _ => k | _ => 0)
  case atStart => exact ⟨n, Nat.le_refl _, rfl, Lib.hid rfl⟩
  case round =>
    obtain ⟨k, hk, rfl, HT⟩ := hrel
    cases k with
    | zero =>
      go_wp2
      go_ret
      exact ⟨by rw [← HT.out]; rfl, rfl⟩
    | succ k =>
      obtain ⟨g, rfl, hc⟩ := HH.out (by omega)
      have hck := hc k (by omega)
      clear hc
      obtain ⟨x, hx⟩ : ∃ x, f k = x := ⟨_, rfl⟩
      rw [hx] at hck
      have HX := Lib.hid hx
      clear hx
      by_cases h0 : x = 0
      · subst h0
        go_wp2
        go_round
        case rel => exact ⟨k, by omega, by first | rfl | simp, Lib.hid (by rw [← HT.out]; simp only [tl]; rw [if_pos HX.out])⟩
        case measure => simp
      · go_wp2
        go_ret
        exact ⟨by rw [← HT.out]; simp only [tl]; rw [if_neg (by rw [HX.out]; exact h0)]; rfl, rfl⟩


set_option maxHeartbeats 1600000 in
theorem value_any (c m P n : Nat) (hF : Fld m P n) (A : Option Addr) (k cap : Nat) (p : List Nat) (hp : ∀ j, nth p j < n) (x : Nat) (hx : x < n) (hk : k ≤ 1048577) (w : World) (hC : Calc c m P n w) (hR : Rl w .u8 A k p) :
    Calls Try.prog 71 #[.pointer (some ⟨c, 0, none⟩), .slice A k cap, .int .u8 x] w fun e w' => e = .returned (.int .u8 (vl P p x)) ∧ w = w' := by
  have h32 := hF.n32
  have HP := Lib.hid hp
  have HR := Lib.hid hR
  clear hp hR
  obtain ⟨r, hr⟩ : ∃ r, vl P p x = r := ⟨_, rfl⟩
  rw [hr]
  have HV := Lib.hid hr
  clear hr
  go_enter Try.func71, Try.ntmps71
  go_wp2
  go_loop [2, 7, 12] (fun y s i => ∃ j a b : Nat, j ≤ k ∧ i = .int .i64 j ∧ y = .int .u8 a ∧ s = .int .u8 b ∧ a < n ∧ b < n ∧ Hid (a = sq P x j) ∧ Hid (b = vlk P p x j)) (fun _ _ i => k - (intOf i).toNat)
  case atStart => exact ⟨0, x, 0, Nat.zero_le _, rfl, rfl, rfl, hx, by omega, Lib.hid rfl, Lib.hid rfl⟩
  case round =>
    obtain ⟨j, a, b, hj, rfl, rfl, rfl, ha, hb, HA, HS⟩ := hrel
    by_cases hlt : j < k
    · obtain ⟨g, rfl, hg, hc⟩ := HR.out.row (by omega)
      have hck := hc j hlt
      clear hc
      have hq := HP.out j
      obtain ⟨q, hqe⟩ : ∃ q, nth p j = q := ⟨_, rfl⟩
      rw [hqe] at hck hq
      have HQ := Lib.hid hqe
      clear hqe
      have hm := hF.mul_lt q a
      have hsq := hF.mul_lt a a
      go_wp2_with (first | (go_at_call 59; refine (product_any c m P n hF _ _ hq ha _ hC).mono ?_; rintro e w' ⟨rfl, rfl⟩) | (go_at_call 100; refine (ePlus_any _ _ (by omega) (by omega) _).mono ?_; rintro e w' ⟨rfl, rfl⟩) | (go_at_call 92; refine (squared_any c m P n hF _ ha 1 (by omega) _ hC).mono ?_; rintro e w' ⟨rfl, rfl⟩))
      go_round
      case rel => exact ⟨j + 1, _, _, by omega, by go_num, rfl, rfl, sq_lt hF ha 1, hF.xor_lt hb hm, Lib.hid (by rw [HA.out]; rfl), Lib.hid (by rw [HS.out, ← HQ.out, HA.out]; rfl)⟩
      case measure => simp [intOf]; omega
    · obtain rfl : j = k := by omega
      go_wp2
      go_ret
      exact ⟨ret_int (by rw [← HV.out, HS.out, vl, HR.out.len]), rfl⟩

set_option maxHeartbeats 800000 in
theorem timesInside_any (c m P n : Nat) (hF : Fld m P n) (a b i j : Nat) (ha : a < n) (hb : b < n) (hi : i ≤ 1000000) (w : World) (hC : Calc c m P n w) :
    Calls Try.prog 120 #[.pointer (some ⟨c, 0, none⟩), .int .u8 a, .int .u8 b, .int .i64 i, .int .i64 j] w fun e w' => e = .returned (.int .u8 (mul P a (sq P b i))) ∧ w = w' := by
  have hs := sq_lt hF hb i
  go_enter Try.func120, Try.ntmps120
  go_wp2_with (first | (go_at_call 92; refine (squared_any c m P n hF _ hb _ hi _ hC).mono ?_; rintro e w' ⟨rfl, rfl⟩) | (go_at_call 59; refine (product_any c m P n hF _ _ ha hs _ hC).mono ?_; rintro e w' ⟨rfl, rfl⟩))
  go_ret
  exact ⟨rfl, rfl⟩
end Go.Proofs.Ytilghmfffdmnjaa
namespace Go.Proofs.Ytilghmfffdmnjaa
open Go.RowKit Go.Joins
set_option linter.unusedVariables false

theorem Rl.drewN {W : World} {K : IntKind} {A : Option Addr} {n : Nat} {p : List Nat} (h : Rl W K A n p) (k : Nat) : Rl (W.drewN k) K A n p := h.same rfl
theorem Wr.drewN {W : World} {K : IntKind} {g n : Nat} {f : Nat → Nat} (h : Wr W K g n f) (k : Nat) : Wr (W.drewN k) K g n f := h.same rfl

set_option maxHeartbeats 1600000 in
theorem multiple_new (c m P n : Nat) (hF : Fld m P n) (a : Nat) (ha : a < n) (A : Option Addr) (k cap : Nat) (p : List Nat) (hp : ∀ j, nth p j < n) (hk : k ≤ 1048576) (w : World) (hC : Calc c m P n w) (hR : Rl w .u8 A k p) :
    Calls Try.prog 102 #[.pointer (some ⟨c, 0, none⟩), .int .u8 a, .slice A k cap] w fun e w' => ∃ b, e = .returned (.slice (some ⟨b, 0, none⟩) k k) ∧ w.heap.size ≤ b ∧ Below w.heap.size w w' ∧ Rl w' .u8 (some ⟨b, 0, none⟩) k (scl P a p) := by
  obtain ⟨i0, hi, hz0, hz1, hz2⟩ := info_parts Try.infoE
  have HP := Lib.hid hp
  have HR := Lib.hid hR
  have hcl := hC.lt
  have HC := Lib.hid hC
  clear hp hR hC
  go_enter Try.func102, Try.ntmps102
  go_wp2_with (at_make; refine wpList_make_full _ rfl _ _ 94 rfl w.heap.size 76 i0 (.int .u8 0) 1 Try.underlying94 hi hz0 hz1 .i64 .i64 _ _ k rfl rfl rfl rfl (by rw [hz2]; omega) (by unfold maxLen; omega) (Nat.le_refl _) ?_; intro w1 hown hgrow)
  have hb1 : Below w.heap.size w w1 := (Below.refl _ w).grown hgrow (Nat.le_refl _) (fun k h => by cases h)
  have HW := Lib.hid (Wr.made (K := .u8) hown)
  have HB := Lib.hid hb1
  clear hown hgrow hz0 hz1 hz2 hi hb1
  go_loopw [15] (fun i wr => ∃ (j : Nat) (F : Nat → Nat), j ≤ k ∧ i = .int .i64 j ∧ Below w.heap.size w wr ∧ Wr wr .u8 w.heap.size k F ∧ Hid (∀ i, i < j → F i = mul P a (nth p i))) (fun i _ => k - (intOf i).toNat)
  case atStart => exact ⟨0, _, Nat.zero_le _, rfl, HB.out, HW.out, Lib.hid (fun j hj => by omega)⟩
  case round =>
    obtain ⟨j, F, hj, rfl, hb, hW, HI⟩ := hrel
    clear HW HB
    by_cases hlt : j < k
    · obtain ⟨g, rfl, hg, hc⟩ := (HR.out.below hb).row (by omega)
      have hck := hc j hlt
      clear hc
      have hx := HP.out j
      obtain ⟨x, hxe⟩ : ∃ x, nth p j = x := ⟨_, rfl⟩
      rw [hxe] at hck hx
      have HX := Lib.hid hxe
      clear hxe
      have hcw := hW.cell j hlt
      have hfw := hW.free j
      have hCr := HC.out.below hcl hb
      have HB2 := Lib.hid hb
      have HW2 := Lib.hid hW
      clear hb hW
      go_wp2_with (go_at_call 59; refine (product_any c m P n hF _ _ ha hx _ hCr).mono ?_; rintro e w' ⟨rfl, rfl⟩)
      go_roundw
      case rel => exact ⟨j + 1, _, by omega, by go_num, below_set HB2.out _ _ (Nat.le_refl _) _, HW2.out.set j hlt _, Lib.hid (fun i hi => by
        simp only [put]
        by_cases e : i = j
        · subst e; rw [if_pos rfl, HX.out]
        · rw [if_neg e]; exact HI.out i (by omega))⟩
      case measure => simp [intOf]; omega
    · obtain rfl : j = k := by omega
      have HB2 := Lib.hid hb
      have HW2 := Lib.hid hW
      clear hb hW
      go_wp2
      go_ret
      refine ⟨_, rfl, Nat.le_refl _, HB2.out, ?_⟩
      have h1 := HW2.out.rl
      rwa [show lst F j = scl P a p by rw [scl, HR.out.len]; exact lst_congr fun i hi => HI.out i hi] at h1
theorem multiple_any (c m P n : Nat) (hF : Fld m P n) (a : Nat) (ha : a < n) (A : Option Addr) (k cap : Nat) (p : List Nat) (hp : ∀ j, nth p j < n) (hk : k ≤ 1048576) (w : World) (hC : Calc c m P n w) (hR : Rl w .u8 A k p) :
    Calls Try.prog 102 #[.pointer (some ⟨c, 0, none⟩), .int .u8 a, .slice A k cap] w fun e w' => ∃ b, e = .returned (.slice (some ⟨b, 0, none⟩) k k) ∧ Below w.heap.size w w' ∧ Rl w' .u8 (some ⟨b, 0, none⟩) k (scl P a p) := by
  refine (multiple_new c m P n hF a ha A k cap p hp hk w hC hR).mono ?_
  rintro e w' ⟨b, h1, _, h2, h3⟩
  exact ⟨b, h1, h2, h3⟩

set_option maxRecDepth 100000 in
set_option maxHeartbeats 3200000 in
theorem composed_any (c m P n : Nat) (hF : Fld m P n) (A B : Option Addr) (k l ca cb : Nat) (p q : List Nat) (hp : ∀ j, nth p j < n) (hq : ∀ j, nth q j < n) (hk : k ≤ 500000) (hl : l ≤ 500000) (w : World) (hC : Calc c m P n w) (hR : Rl w .u8 A k p) (hS : Rl w .u8 B l q) :
    Calls Try.prog 103 #[.pointer (some ⟨c, 0, none⟩), .slice A k ca, .slice B l cb] w fun e w' => ∃ D r, e = .returned (.slice D r r) ∧ Below w.heap.size w w' ∧ Rl w' .u8 D r (cmp P p q) := by
  obtain ⟨i0, hi, hz0, hz1, hz2⟩ := info_parts Try.infoE
  have h32 := hF.n32
  have hkp := hR.len
  have hlq := hS.len
  have HP := Lib.hid hp
  have HQ := Lib.hid hq
  have HR := Lib.hid hR
  have HS := Lib.hid hS
  have hcl := hC.lt
  have HC := Lib.hid hC
  clear hp hq hR hS hC
  by_cases hk0 : k = 0
  · subst hk0
    go_enter Try.func103, Try.ntmps103
    go_wp2
    go_ret
    exact ⟨none, 0, rfl, Below.refl _ _, by unfold cmp; rw [if_pos (.inl hkp)]; exact Rl.nil _ _ _⟩
  by_cases hl0 : l = 0
  · subst hl0
    go_enter Try.func103, Try.ntmps103
    go_wp2
    go_ret
    exact ⟨none, 0, rfl, Below.refl _ _, by unfold cmp; rw [if_pos (.inr hlq)]; exact Rl.nil _ _ _⟩
  have g1 : ((k : Int) == 0) = false := by simp; omega
  have g2 : ((l : Int) == 0) = false := by simp; omega
  obtain ⟨N, hN⟩ : ∃ N, k + l - 1 = N := ⟨_, rfl⟩
  have eN : (k : Int) + (l : Int) - 1 = (N : Int) := by omega
  have eN2 : IntKind.i64.wrap ((k : Int) + (l : Int)) = (k : Int) + (l : Int) := by rw [IntKind.wrap_i64]; omega
  have eN3 : IntKind.i64.wrap ((k : Int) + (l : Int) - 1) = (N : Int) := by rw [IntKind.wrap_i64]; omega
  go_enter Try.func103, Try.ntmps103
  go_wp2_with (at_make; refine wpList_make_full _ rfl _ _ 95 rfl w.heap.size 76 i0 (.int .u8 0) 1 Try.underlying95 hi hz0 hz1 .i64 .i64 _ _ N rfl rfl (by first | rfl | omega) (by first | rfl | omega) (by rw [hz2]; omega) (by unfold maxLen; omega) (Nat.le_refl _) ?_; intro w1 hown hgrow)
  have hb1 : Below w.heap.size w w1 := (Below.refl _ w).grown hgrow (Nat.le_refl _) (fun k h => by cases h)
  have HW := Lib.hid (Wr.made (K := .u8) hown)
  have HB := Lib.hid hb1
  have HN := Lib.hid hN
  clear hown hgrow hz0 hz1 hz2 hi hb1 hN eN eN2 eN3
  go_loopw [29] (fun i wr => ∃ (I : Nat), I ≤ k ∧ i = .int .i64 I ∧ Below w.heap.size w wr ∧ Wr wr .u8 w.heap.size N (call P p q I)) (fun i _ => k - (intOf i).toNat)
  case atStart => exact ⟨0, Nat.zero_le _, rfl, HB.out, HW.out⟩
  case round =>
    obtain ⟨I, hI, rfl, hb, hW⟩ := hrel
    clear HW HB
    by_cases hlt : I < k
    · obtain ⟨g, rfl, hg, hc⟩ := (HR.out.below hb).row (by omega)
      have hck := hc I hlt
      clear hc
      have hx := HP.out I
      obtain ⟨x, hxe⟩ : ∃ x, nth p I = x := ⟨_, rfl⟩
      rw [hxe] at hck hx
      have HX := Lib.hid hxe
      clear hxe
      have HB2 := Lib.hid hb
      have HW2 := Lib.hid hW
      clear hb hW
      go_wp2
      go_loopw [36] (fun i wr => ∃ (J : Nat), J ≤ l ∧ i = .int .i64 J ∧ Below w.heap.size w wr ∧ Wr wr .u8 w.heap.size N (crow P p q I (call P p q I) J)) (fun i _ => l - (intOf i).toNat)
      case atStart => exact ⟨0, Nat.zero_le _, rfl, HB2.out, HW2.out⟩
      case round =>
        obtain ⟨J, hJ, rfl, hb, hW⟩ := hrel
        clear HW2 HB2 hck
        by_cases hltJ : J < l
        · obtain ⟨g2, rfl, hg2, hc2⟩ := (HS.out.below hb).row (by omega)
          have hcq := hc2 J hltJ
          clear hc2
          have hy := HQ.out J
          obtain ⟨y, hye⟩ : ∃ y, nth q J = y := ⟨_, rfl⟩
          rw [hye] at hcq hy
          have HY := Lib.hid hye
          clear hye
          have hIJ : I + J < N := by have := HN.out; omega
          have hvl := crow_lt hF p q I (call_lt hF p q I) J (I + J)
          have hcw := hW.cell (I + J) hIJ
          have hfw := hW.free (I + J)
          have hset := hW.drewN 1
          obtain ⟨v, hv⟩ : ∃ v, crow P p q I (call P p q I) J (I + J) = v := ⟨_, rfl⟩
          rw [hv] at hcw hvl
          have HV := Lib.hid hv
          clear hv
          have hCr := HC.out.below hcl hb
          have hm := hF.mul_lt x (sq P y I)
          have HB2 := Lib.hid hb
          have HW2 := Lib.hid hW
          clear hb hW hset
          have e3 : IntKind.i64.wrap ((I : Int) + (J : Int)) = (I : Int) + (J : Int) := by rw [IntKind.wrap_i64]; omega
          have e4 : (0 : Int) ≤ (I : Int) + (J : Int) := by omega
          have e5 : (I : Int) + (J : Int) < (N : Int) := by omega
          have e6 : ((I : Int) + (J : Int)).toNat = I + J := by omega
          have hcw' : wr.drew.cell? ⟨w.heap.size, I + J, none⟩ = some (.int .u8 v) := hcw
          have hfw' : wr.drew.frozen? ⟨w.heap.size, I + J, none⟩ = false := hfw
          have HNEW : Hid (Wr (wr.setCell ⟨w.heap.size, I + J, none⟩ (.int .u8 ((v ^^^ mul P x (sq P y I) : Nat) : Int))).drew .u8 w.heap.size N (crow P p q I (call P p q I) (J + 1))) := by
            have h1 := (HW2.out.set (I + J) hIJ (v ^^^ mul P x (sq P y I))).drewN 1
            have e : crow P p q I (call P p q I) (J + 1) = put (crow P p q I (call P p q I) J) (I + J) (v ^^^ mul P x (sq P y I)) := by rw [← HV.out, ← HX.out, ← HY.out]; rfl
            rw [e]; exact h1
          go_wp2
          go_region_law (first | (go_simp; go_at_call 120; refine (timesInside_any c m P n hF x y I J hx hy (by omega) _ (by exact ⟨hCr.deg, hCr.tab⟩)).mono ?_; rintro e w' ⟨rfl, rfl⟩) | (go_simp; go_at_call 100; refine (ePlus_any _ _ (by omega) (by omega) _).mono ?_; rintro e w' ⟨rfl, rfl⟩))
          all_goals go_wp2
          all_goals go_roundw
          all_goals first | exact ⟨J + 1, by omega, by go_num, (below_set HB2.out _ _ (Nat.le_refl _) _).drew, HNEW.out⟩ | (simp [intOf]; omega)
        · obtain rfl : J = l := by omega
          have HB2 := Lib.hid hb
          have HW2 := Lib.hid hW
          clear hb hW
          go_wp2
          go_roundw
          case rel => exact ⟨I + 1, by omega, by go_num, HB2.out, by
            have h1 := HW2.out
            simp only [call]
            rw [hlq]
            exact h1⟩
          case measure => simp [intOf]; omega
    · obtain rfl : I = k := by omega
      have HB2 := Lib.hid hb
      have HW2 := Lib.hid hW
      clear hb hW
      go_wp2
      go_ret
      refine ⟨_, _, rfl, HB2.out, ?_⟩
      have h1 := HW2.out.rl
      unfold cmp
      rw [if_neg (by omega), hkp, hlq, HN.out, cmpF, hkp]
      exact h1
end Go.Proofs.Ytilghmfffdmnjaa
namespace Go.Proofs.Ytilghmfffdmnjaa
open Go.RowKit Go.Joins
set_option linter.unusedVariables false

/-- The cells of a row of elements. -/
def els (p : List Nat) : List Value := p.map fun (x : Nat) => Value.int .u8 (x : Int)
theorem els_len (p : List Nat) : (els p).length = p.length := by simp [els]
theorem els_get {p : List Nat} {j : Nat} {v : Value} (h : (els p)[j]? = some v) : j < p.length ∧ v = .int .u8 (nth p j : Nat) := by
  have hj : j < p.length := by
    have := (List.getElem?_eq_some_iff.1 h).1
    rwa [els_len] at this
  refine ⟨hj, ?_⟩
  rw [nth_eq hj]
  simp [els, List.getElem?_eq_getElem hj] at h
  exact h.symm
theorem els_one (p : List Nat) : ∀ v ∈ els p, v.oneCell' = true := by
  intro v hv
  obtain ⟨x, _, rfl⟩ := List.mem_map.1 hv
  rfl
theorem add_head (g j : Nat) : (⟨g, 0, none⟩ : Addr).add j = ⟨g, j, none⟩ := by
  unfold Addr.add
  split
  · subst_vars; rfl
  · simp
/-- A row that has been made, onto which p has been copied. -/
theorem wr_copied {W : World} {g N : Nat} {T : TypeId} {p : List Nat} (hp : p.length ≤ N) (hg : W.heap[g]? = some (.cells (Go.splice (List.replicate N (Value.int .u8 0)) 0 (els p)).toArray T (0, 0))) : Wr W .u8 g N (nth p) := by
  have hlt : g < W.heap.size := by
    rcases Nat.lt_or_ge g W.heap.size with h | h
    · exact h
    · rw [Array.getElem?_eq_none h] at hg; cases hg
  have hc : ∀ j, W.cell? ⟨g, j, none⟩ = (Go.splice (List.replicate N (Value.int .u8 0)) 0 (els p))[j]? := by
    intro j
    rw [(cell_of_cells (x := j) hg).1]
    simp
  refine ⟨fun j hj => ?_, fun j => (cell_of_cells (x := j) hg).2, hlt⟩
  rw [hc, Go.splice]
  simp only [List.take_zero, List.nil_append, Nat.zero_add]
  by_cases e : j < p.length
  · rw [List.getElem?_append_left (by rw [els_len]; exact e), List.getElem?_eq_getElem (by rw [els_len]; exact e)]
    have := els_get (List.getElem?_eq_getElem (show j < (els p).length by rw [els_len]; exact e))
    rw [this.2]
  · rw [List.getElem?_append_right (by rw [els_len]; omega), els_len, List.getElem?_drop, List.getElem?_replicate, if_pos (by omega), nth_ge (by omega)]
    rfl
theorem made_list (K : IntKind) (n : Nat) : (madeCells (Value.int K 0).cells (n * 1)).toList = List.replicate n (Value.int K 0) := by
  apply List.ext_getElem?
  intro j
  by_cases h : j < n
  · rw [made_get K n j h, List.getElem?_replicate, if_pos h]
  · rw [List.getElem?_eq_none (by rw [Array.length_toList, size_madeCells]; omega), List.getElem?_eq_none (by rw [List.length_replicate]; omega)]
/-- The block of a row that has just been made. -/
theorem made_heap {W : World} {B g n : Nat} {T : TypeId} {K : IntKind} (h : W.ownsRow B T 1 (.slice (some ⟨g, 0, none⟩) n n) n (madeCells (Value.int K 0).cells (n * 1)).toList) : W.heap[g]? = some (.cells (List.replicate n (Value.int K 0)).toArray T (0, 0)) := by
  obtain ⟨hl, h⟩ := h
  rcases h with ⟨h, _⟩ | ⟨g', cap', cur, hv, hb, hg, h1, h2, h3, h4⟩
  · injection h with h; cases h
  · injection hv with e1 _ e2
    injection e1 with e1
    injection e1 with e1
    subst e1 e2
    rw [hg]
    have hcur : cur.toList = List.replicate n (Value.int K 0) := by
      rw [← made_list K n, ← h4, List.take_of_length_le (by rw [Array.length_toList, h3]; omega)]
    rw [← hcur]

theorem copy_src {W : World} {A : Option Addr} {k g : Nat} {p : List Nat} (h : Rl W .u8 A k p) : 0 < (els p).length → (some (⟨g, 0, none⟩ : Addr) = some ⟨g, 0, none⟩) ∧ ∃ ad, A = some ad ∧ ∀ j v, (els p)[j]? = some v → W.cell? (ad.add j) = some v := by
  intro h0
  rw [els_len] at h0
  have hl := h.len
  obtain ⟨a, e, hg, hc⟩ := h.row (by omega)
  refine ⟨rfl, _, e, fun j v hv => ?_⟩
  rw [add_head, hc j (by have := (els_get hv).1; omega), (els_get hv).2]
/-- 'copy(sum, p)': p laid over the head of a row that has been made. -/
theorem copy_step {w w1 : World} {A : Option Addr} {g k ca N : Nat} {p : List Nat} (hkp : p.length = k) (hN : k ≤ N) (hb : Below g w w1) (hG : w1.heap[g]? = some (.cells (List.replicate N (Value.int .u8 0)).toArray 76 (0, 0))) (hR : Rl w1 .u8 A k p)
    {ops : Array Oper} {rest : List Oper} {o : Oper} {a : Act} {Q : Exit → Act → World → Prop} {d s : Operand} (hgd : o.guard = none) (ho : o.op = .call { callee := .builtin .copy, args := #[d, s], argTypes := #[95, 95] }) (hd : a.eval d = .slice (some ⟨g, 0, none⟩) N N) (hs : a.eval s = .slice A k ca) (h : ∀ w', Hid (Wr w' .u8 g N (nth p)) → Hid (Below g w w') → wpList Try.prog ops Q rest (a.put o.dst (.int .i64 p.length)) w') : wpList Try.prog ops Q (o :: rest) a w1 :=
  wpList_copy_splice hgd _ _ 95 95 ho 76 Try.underlying95 (by kernel_rfl) (some ⟨g, 0, none⟩) A N N k ca hd hs g 0 (List.replicate N (Value.int .u8 0)) 76 hG (els p) (by rw [els_len, hkp]; show _ = min _ _; omega) (copy_src hR) (by rw [els_len, List.length_replicate]; omega) (els_one p) g w hb (Nat.le_refl _) (fun w' h1 h2 => by
    have h3 := h w' (Lib.hid (wr_copied (p := p) (by omega) h1.out)) (Lib.hid h2)
    rw [← els_len] at h3
    exact h3)
set_option maxRecDepth 100000 in
set_option maxHeartbeats 3200000 in
theorem plusL_any (A B : Option Addr) (k l ca cb : Nat) (p q : List Nat) (hp : ∀ j, nth p j < 256) (hq : ∀ j, nth q j < 256) (hk : k ≤ 500000) (hl : l ≤ 500000) (w : World) (hR : Rl w .u8 A k p) (hS : Rl w .u8 B l q) :
    Calls Try.prog 101 #[.slice A k ca, .slice B l cb] w fun e w' => ∃ D r cd, e = .returned (.slice D r cd) ∧ r ≤ cd ∧ cd ≤ 1000000 ∧ Below w.heap.size w w' ∧ Rl w' .u8 D r (sumL p q) := by
  obtain ⟨i0, hi, hz0, hz1, hz2⟩ := info_parts Try.infoE
  have hkp := hR.len
  have hlq := hS.len
  have HP := Lib.hid hp
  have HQ := Lib.hid hq
  have HR := Lib.hid hR
  have HS := Lib.hid hS
  clear hp hq hR hS
  obtain ⟨N, hN⟩ : ∃ N, max k l = N := ⟨_, rfl⟩
  have eN : max (k : Int) (l : Int) = (N : Int) := by omega
  have hNk : k ≤ N := by omega
  have hNl : l ≤ N := by omega
  have hNs : N ≤ 500000 := by omega
  have HN := Lib.hid hN
  clear hN
  go_enter Try.func101, Try.ntmps101
  go_wp2_with (first | (at_make; refine wpList_make_full _ rfl _ _ 95 rfl w.heap.size 76 i0 (.int .u8 0) 1 Try.underlying95 hi hz0 hz1 .i64 .i64 _ _ N rfl rfl (by first | rfl | omega) (by first | rfl | omega) (by rw [hz2]; omega) (by unfold maxLen; omega) (Nat.le_refl _) ?_; intro w1 hown hgrow; have hb1 : Below w.heap.size w w1 := (Below.refl _ w).grown hgrow (Nat.le_refl _) (fun k h => by cases h); have hg1 := made_heap (K := .u8) hown; have HB := Lib.hid hb1; have HG := Lib.hid hg1; clear hown hgrow hb1 hg1) | (refine copy_step hkp hNk HB.out HG.out (HR.out.below HB.out) rfl rfl rfl rfl ?_; intro w2 HW HB2))
  go_loopw [19] (fun i wr => ∃ (j : Nat) (F : Nat → Nat), j ≤ l ∧ i = .int .i64 j ∧ Below w.heap.size w wr ∧ Wr wr .u8 w.heap.size N F ∧ Hid (∀ i, F i = if i < j then nth p i ^^^ nth q i else nth p i)) (fun i _ => l - (intOf i).toNat)
  case atStart => exact ⟨0, _, Nat.zero_le _, rfl, HB2.out, HW.out, Lib.hid (fun i => by rw [if_neg (by omega)])⟩
  case round =>
    obtain ⟨j, F, hj, rfl, hb, hW, HI⟩ := hrel
    clear HW HB2 HG HB
    by_cases hlt : j < l
    · obtain ⟨g, rfl, hg, hc⟩ := (HS.out.below hb).row (by omega)
      have hck := hc j hlt
      clear hc
      have hy := HQ.out j
      obtain ⟨y, hye⟩ : ∃ y, nth q j = y := ⟨_, rfl⟩
      rw [hye] at hck hy
      have HY := Lib.hid hye
      clear hye
      have hx := HP.out j
      have hcw := hW.cell j (by omega)
      rw [HI.out j, if_neg (by omega)] at hcw
      obtain ⟨x, hxe⟩ : ∃ x, nth p j = x := ⟨_, rfl⟩
      rw [hxe] at hcw hx
      have HX := Lib.hid hxe
      clear hxe
      have hfw := hW.free j
      have hjN : j < N := by omega
      have HB2 := Lib.hid hb
      have HW2 := Lib.hid hW
      clear hb hW
      go_wp2_with (go_at_call 100; refine (ePlus_any _ _ hx hy _).mono ?_; rintro e w' ⟨rfl, rfl⟩)
      go_roundw
      case rel => exact ⟨j + 1, _, by omega, by go_num, below_set HB2.out _ _ (Nat.le_refl _) _, HW2.out.set j hjN _, Lib.hid (fun i => by
        simp only [put]
        by_cases e : i = j
        · subst e; rw [if_pos rfl, if_pos (by omega), HX.out, HY.out]
        · rw [if_neg e, HI.out i]
          by_cases h : i < j
          · rw [if_pos h, if_pos (by omega)]
          · rw [if_neg h, if_neg (by omega)])⟩
      case measure => simp [intOf]; omega
    · obtain rfl : j = l := by omega
      have hT := trimmed_any (some ⟨w.heap.size, 0, none⟩) N N F (Nat.le_refl _) (by omega) wr (fun _ => ⟨_, rfl, hW.cell⟩)
      have eF : ∀ i, i < N → F i = nth p i ^^^ nth q i := fun i hi => by
        rw [HI.out i]
        by_cases h : i < j
        · rw [if_pos h]
        · rw [if_neg h, nth_ge (p := q) (by omega), Nat.xor_zero]
      have eS : sumL p q = lst F (tl F N) := by
        rw [sumL, hkp, hlq, HN.out, trim, lst_length]
        have e1 : tl (nth (lst (sumF p q) N)) N = tl F N := tl_congr fun i hi => by rw [lst_nth _ hi, eF i hi]; rfl
        rw [e1]
        exact lst_congr fun i hi => by
          have := tl_le F N
          rw [lst_nth _ (by omega), eF i (by omega)]; rfl
      have hres : Rl wr .u8 (some ⟨w.heap.size, 0, none⟩) (tl F N) (sumL p q) := by rw [eS]; exact hW.rl' (tl_le F N)
      have hle := tl_le F N
      have HT := Lib.hid hT
      have HRES := Lib.hid hres
      have HB2 := Lib.hid hb
      clear hb hW hT hres eF eS
      generalize tl F N = r at HT HRES hle
      go_wp2_with (go_at_call 119; refine HT.out.mono ?_; rintro e w' ⟨rfl, rfl⟩)
      go_ret
      exact ⟨_, _, _, rfl, hle, by omega, HB2.out, HRES.out⟩
end Go.Proofs.Ytilghmfffdmnjaa
namespace Go.Proofs.Ytilghmfffdmnjaa
open Go.RowKit Go.Joins
set_option linter.unusedVariables false

set_option maxHeartbeats 1600000 in
theorem linear_out (c m P n : Nat) (hF : Fld m P n) (b len cap : Nat) (zs : List Int) (w : World) (hM : Mt w b len zs) (hD : w.cell? ⟨c, 0, none⟩ = some (.int .i64 m)) (h : 12 < len ∨ allIn n zs = false) :
    Calls Try.prog 107 #[.pointer (some ⟨c, 0, none⟩), .slice (some ⟨b, 0, none⟩) len cap] w fun e w' => e = .returned (.tuple #[.slice none 0 0, .bool false]) ∧ w = w' := by
  have hs := hM.small
  by_cases h12 : 12 < len
  · go_enter Try.func107, Try.ntmps107
    go_wp2
    go_ret2
    exact ⟨rfl, rfl⟩
  · have hin : allIn n zs = false := by rcases h with h | h; omega; exact h
    have H := Lib.hid (hasAll_any c m P n hF _ len cap zs (by omega) w hM.arg hD)
    have H2 : Hid (Calls Try.prog 66 #[.pointer (some ⟨c, 0, none⟩), .slice (some ⟨b, 0, none⟩) len cap] w fun e w' => e = .returned (.bool false) ∧ w = w') := by
      have := H.out
      rw [hin] at this
      exact this
    clear H h hin
    go_enter Try.func107, Try.ntmps107
    go_wp2_with (go_at_call 66; refine H2.out.mono ?_; rintro e w' ⟨rfl, rfl⟩)
    go_ret2
    exact ⟨rfl, rfl⟩

set_option maxRecDepth 100000 in
set_option maxHeartbeats 3200000 in
theorem linear_in (c m P n : Nat) (hF : Fld m P n) (b len cap : Nat) (zs : List Int) (w : World) (hM : Mt w b len zs) (hD : w.cell? ⟨c, 0, none⟩ = some (.int .i64 m)) (h12 : len ≤ 12) (hin : allIn n zs = true) :
    Calls Try.prog 107 #[.pointer (some ⟨c, 0, none⟩), .slice (some ⟨b, 0, none⟩) len cap] w fun e w' => ∃ g, e = .returned (.tuple #[.slice (some ⟨g, 0, none⟩) len len, .bool (trmB (nats zs))]) ∧ Below w.heap.size w w' ∧ Rl w' .u8 (some ⟨g, 0, none⟩) len (nats zs) := by
  have h32 := hF.n32
  have hn2 := hF.n2
  have H2 : Hid (Calls Try.prog 66 #[.pointer (some ⟨c, 0, none⟩), .slice (some ⟨b, 0, none⟩) len cap] w fun e w' => e = .returned (.bool true) ∧ w = w') := by
    have := hasAll_any c m P n hF _ len cap zs (by omega) w hM.arg hD
    rw [hin] at this
    exact this
  have HE := Lib.hid (elementsOf_any b len cap n zs (by omega) (by omega) w hM hin)
  have hlen : (nats zs).length = len := by rw [nats_length]; exact hM.len
  obtain ⟨p, hp⟩ : ∃ p, nats zs = p := ⟨_, rfl⟩
  rw [hp] at HE hlen ⊢
  have EB := Lib.hid (show trmB p = decide (tl (nth p) len = len) by rw [trmB_tl, hlen])
  clear hM hin hp hlen
  go_enter Try.func107, Try.ntmps107
  go_wp2_with (go_at_call 66; refine H2.out.mono ?_; rintro e w' ⟨rfl, rfl⟩)
  refine HE.out.mono ?_
  rintro e w1 ⟨g, rfl, hb, hR⟩
  have HT := Lib.hid (trimmed_any (some ⟨g, 0, none⟩) len len (nth p) (Nat.le_refl _) (by omega) w1 (fun h0 => by obtain ⟨g', e, _, hc⟩ := hR.row h0; exact ⟨g', e, hc⟩))
  have HB := Lib.hid hb
  have HR := Lib.hid hR
  clear hb hR
  obtain ⟨t, ht⟩ : ∃ t, tl (nth p) len = t := ⟨_, rfl⟩
  rw [ht] at HT EB
  clear ht
  by_cases htk : t = len
  · subst htk
    go_wp2_with (go_at_call 119; refine HT.out.mono ?_; rintro e w' ⟨rfl, rfl⟩)
    go_ret2
    exact ⟨g, by rw [EB.out]; simp, HB.out, HR.out⟩
  · have g1 : ((t : Int) == (len : Int)) = false := by simp; omega
    have HTK := Lib.hid htk
    go_wp2_with (go_at_call 119; refine HT.out.mono ?_; rintro e w' ⟨rfl, rfl⟩)
    go_ret2
    exact ⟨g, by rw [EB.out]; simp [HTK.out], HB.out, HR.out⟩

/-- What linear returns for numbers that are a linear polynomial, and for others. -/
theorem linear_yes (c m P n : Nat) (hF : Fld m P n) (b len cap : Nat) (zs : List Int) (w : World) (hM : Mt w b len zs) (hD : w.cell? ⟨c, 0, none⟩ = some (.int .i64 m)) (hok : okL n zs = true) :
    Calls Try.prog 107 #[.pointer (some ⟨c, 0, none⟩), .slice (some ⟨b, 0, none⟩) len cap] w fun e w' => ∃ g, e = .returned (.tuple #[.slice (some ⟨g, 0, none⟩) len len, .bool true]) ∧ Below w.heap.size w w' ∧ Rl w' .u8 (some ⟨g, 0, none⟩) len (nats zs) := by
  have h := linear_in c m P n hF b len cap zs w hM hD (by have := okL_len hok; have := hM.len; omega) (okL_in hok)
  have e : trmB (nats zs) = true := by simp [okL] at hok; exact hok.2.2
  rw [e] at h
  exact h
theorem linear_no (c m P n : Nat) (hF : Fld m P n) (b len cap : Nat) (zs : List Int) (w : World) (hM : Mt w b len zs) (hD : w.cell? ⟨c, 0, none⟩ = some (.int .i64 m)) (hok : okL n zs = false) :
    Calls Try.prog 107 #[.pointer (some ⟨c, 0, none⟩), .slice (some ⟨b, 0, none⟩) len cap] w fun e w' => ∃ A k, e = .returned (.tuple #[.slice A k k, .bool false]) ∧ Below w.heap.size w w' := by
  by_cases h : 12 < len ∨ allIn n zs = false
  · refine (linear_out c m P n hF b len cap zs w hM hD h).mono ?_
    rintro e w' ⟨rfl, rfl⟩
    exact ⟨none, 0, rfl, Below.refl _ _⟩
  · have h12 : len ≤ 12 := by omega
    have hin : allIn n zs = true := by cases ha : allIn n zs with
      | true => rfl
      | false => exact absurd (.inr ha) h
    have e : trmB (nats zs) = false := by
      cases hb : trmB (nats zs) with
      | false => rfl
      | true =>
        exfalso
        have : okL n zs = true := by simp [okL, hb, hin]; have := hM.len; omega
        rw [this] at hok; cases hok
    have h := linear_in c m P n hF b len cap zs w hM hD h12 hin
    rw [e] at h
    refine h.mono ?_
    rintro e w' ⟨g, rfl, hb, _⟩
    exact ⟨_, _, rfl, hb⟩

set_option maxHeartbeats 800000 in
theorem zeroAt_any (a : Nat) (w : World) :
    Calls Try.prog 104 #[.int .u8 a] w fun e w' => ∃ g, e = .returned (.slice (some ⟨g, 0, none⟩) 2 2) ∧ Below w.heap.size w w' ∧ Rl w' .u8 (some ⟨g, 0, none⟩) 2 [a, 1] := by
  go_enter Try.func104, Try.ntmps104
  go_wp2
  go_ret
  refine ⟨_, rfl, below_alloc1 w _, rfl, fun _ => ⟨_, rfl, by simp, fun j hj => ?_⟩⟩
  have : j = 0 ∨ j = 1 := by omega
  rcases this with rfl | rfl
  · simp [nth]
  · simp [nth]

set_option maxHeartbeats 800000 in
theorem linearFor_A (d p : Int) (hf : fldI d p = false) (hl : -9223372036854775808 ≤ p) (hh : p ≤ 9223372036854775807) (v1 v2 : Value) (w : World) :
    Calls Try.prog 70 #[.agg #[.int .i64 d, .int .i64 p], v1, v2] w fun e w' => e = .returned (.tuple #[.pointer none, .slice none 0 0, .int .i64 1]) ∧ Below w.heap.size w w' := by
  have HF := Lib.hid hf
  clear hf
  go_enter Try.func70, Try.ntmps70
  go_wp2_with (go_at_call 50; refine (calculatorFor_invalid _ _ HF.out hl hh _ _).mono ?_; rintro e w1 ⟨rfl, hb⟩)
  go_ret3
  exact ⟨rfl, ((Below.refl _ w).alloc (Nat.le_refl _) _).trans (hb.mono (by simp))⟩
set_option maxHeartbeats 800000 in
theorem linearFor_B (m P n : Nat) (hF : Fld m P n) (b len cap : Nat) (zs : List Int) (v2 : Value) (w : World) (hM : Mt w b len zs) (hok : okL n zs = false) :
    Calls Try.prog 70 #[.agg #[.int .i64 m, .int .i64 P], .slice (some ⟨b, 0, none⟩) len cap, v2] w fun e w' => e = .returned (.tuple #[.pointer none, .slice none 0 0, .int .i64 1]) ∧ Below w.heap.size w w' := by
  have HM := Lib.hid hM
  clear hM
  go_enter Try.func70, Try.ntmps70
  have hb0 := below_alloc1 w (.cells #[.int .i64 m, .int .i64 P] 23)
  have HB0 := Lib.hid hb0
  clear hb0
  go_wp2_with fail
  refine (calculatorFor_none m P n hF _).mono ?_
  rintro e w1 ⟨c, rfl, hb, hC, hc⟩
  have hD := hC.deg
  have HB1 := Lib.hid (HB0.out.trans (hb.mono (by simp)))
  have HM1 := Lib.hid (HM.out.below HB1.out)
  clear hb hc
  go_wp2_with fail
  refine (linear_no c m P n hF b len cap zs _ HM1.out hD hok).mono ?_
  rintro e w2 ⟨A, k, rfl, hb⟩
  have HB2 := Lib.hid (HB1.out.trans (hb.mono HB1.out.size))
  clear hb
  go_wp2_with fail
  go_ret3
  exact ⟨rfl, HB2.out⟩
set_option maxHeartbeats 800000 in
theorem linearFor_R (m P n : Nat) (hF : Fld m P n) (b len cap : Nat) (zs : List Int) (A2 : Option Addr) (n2 cap2 : Nat) (z2 : List Int) (hn2 : n2 ≤ 140737488351232) (w : World) (hM : Mt w b len zs) (hok : okL n zs = true) (hA : Arg w A2 n2 z2) (hin : allIn n z2 = false) :
    Calls Try.prog 70 #[.agg #[.int .i64 m, .int .i64 P], .slice (some ⟨b, 0, none⟩) len cap, .slice A2 n2 cap2] w fun e w' => e = .returned (.tuple #[.pointer none, .slice none 0 0, .int .i64 2]) ∧ Below w.heap.size w w' := by
  have HM := Lib.hid hM
  have HA := Lib.hid hA
  have HIN := Lib.hid hin
  have HOK := Lib.hid hok
  clear hM hA hin hok
  go_enter Try.func70, Try.ntmps70
  have hb0 := below_alloc1 w (.cells #[.int .i64 m, .int .i64 P] 23)
  have HB0 := Lib.hid hb0
  clear hb0
  go_wp2_with fail
  refine (calculatorFor_none m P n hF _).mono ?_
  rintro e w1 ⟨c, rfl, hb, hC, hc⟩
  have hD := hC.deg
  have hcl := hC.lt
  have HB1 := Lib.hid (HB0.out.trans (hb.mono (by simp)))
  have HM1 := Lib.hid (HM.out.below HB1.out)
  clear hb hc
  go_wp2_with fail
  refine (linear_yes c m P n hF b len cap zs _ HM1.out hD HOK.out).mono ?_
  rintro e w2 ⟨g, rfl, hb, hR⟩
  have hD2 : w2.cell? ⟨c, 0, none⟩ = some (.int .i64 m) := (hb.cell (p := ⟨c, 0, none⟩) hcl).trans hD
  have HB2 := Lib.hid (HB1.out.trans (hb.mono HB1.out.size))
  clear hb
  go_wp2_with fail
  have H := hasAll_any c m P n hF A2 n2 cap2 z2 hn2 w2 (HA.out.from HB2.out) hD2
  rw [HIN.out] at H
  refine H.mono ?_
  rintro e w' ⟨rfl, rfl⟩
  clear H
  go_wp2_with fail
  go_ret3
  exact ⟨rfl, HB2.out⟩
set_option maxHeartbeats 800000 in
theorem linearFor_C (m P n : Nat) (hF : Fld m P n) (b len cap : Nat) (zs : List Int) (A2 : Option Addr) (n2 cap2 : Nat) (z2 : List Int) (hn2 : n2 ≤ 140737488351232) (w : World) (hM : Mt w b len zs) (hok : okL n zs = true) (hA : Arg w A2 n2 z2) (hin : allIn n z2 = true) :
    Calls Try.prog 70 #[.agg #[.int .i64 m, .int .i64 P], .slice (some ⟨b, 0, none⟩) len cap, .slice A2 n2 cap2] w fun e w' => ∃ c g, e = .returned (.tuple #[.pointer (some ⟨c, 0, none⟩), .slice (some ⟨g, 0, none⟩) len len, .int .i64 0]) ∧ Below w.heap.size w w' ∧ Calc c m P n w' ∧ Rl w' .u8 (some ⟨g, 0, none⟩) len (nats zs) := by
  have HM := Lib.hid hM
  have HA := Lib.hid hA
  have HIN := Lib.hid hin
  have HOK := Lib.hid hok
  clear hM hA hin hok
  go_enter Try.func70, Try.ntmps70
  have hb0 := below_alloc1 w (.cells #[.int .i64 m, .int .i64 P] 23)
  have HB0 := Lib.hid hb0
  clear hb0
  go_wp2_with fail
  refine (calculatorFor_none m P n hF _).mono ?_
  rintro e w1 ⟨c, rfl, hb, hC, hc⟩
  have hD := hC.deg
  have hcl := hC.lt
  have HB1 := Lib.hid (HB0.out.trans (hb.mono (by simp)))
  have HM1 := Lib.hid (HM.out.below HB1.out)
  have HC := Lib.hid hC
  clear hb hc hC
  go_wp2_with fail
  refine (linear_yes c m P n hF b len cap zs _ HM1.out hD HOK.out).mono ?_
  rintro e w2 ⟨g, rfl, hb, hR⟩
  have hD2 : w2.cell? ⟨c, 0, none⟩ = some (.int .i64 m) := (hb.cell (p := ⟨c, 0, none⟩) hcl).trans hD
  have HC2 := Lib.hid (HC.out.below hcl hb)
  have HB2 := Lib.hid (HB1.out.trans (hb.mono HB1.out.size))
  have HR := Lib.hid hR
  clear hb hR
  go_wp2_with fail
  have H := hasAll_any c m P n hF A2 n2 cap2 z2 hn2 w2 (HA.out.from HB2.out) hD2
  rw [HIN.out] at H
  refine H.mono ?_
  rintro e w' ⟨rfl, rfl⟩
  clear H
  go_wp2_with fail
  go_ret3
  exact ⟨c, g, rfl, HB2.out, HC2.out, HR.out⟩
end Go.Proofs.Ytilghmfffdmnjaa
