/- The reference model's degree and prest of polynomials: what the two functions return. · The program's degree and prest of polynomials: what the two functions return. · The program's iterator over the polynomials of a degree. · The reference model's irreducible polynomials and fields: what its functions return. · The program's irreducible polynomials: what its function returns. · The reference model's fields: what its functions return. · The program's fields: what its test returns. -/
import Derived.Test.YtlchelaohiojiaaFld
import Derived.Test.YtlchelaohiojiaaIn
import Derived.WalkKit
import Derived.WalkLawsBesides
import Derived.WalkSpells
import Derived.Lib.Hide
import Derived.Laws.BitsAllLaws
import Derived.Test.YtlchelaohiojiaaShelf
import Derived.RangeFuncNested
import Derived.RangeFuncBound
import Derived.RangeFuncCalls
import Derived.RangeFuncLeaves
import Derived.RangeFuncBox
import Derived.Shelf.Abstract
import Derived.Shelf.RegionOpen
import Derived.OwnWalkIn
import Derived.TacticsInMore
import Derived.LoopNIn
import Derived.LoopIn
import Derived.RangeFuncFrom
import Derived.Deep.QuietTactic
import Derived.BigQuiet
import Derived.Deep.RegionHeld3
namespace Go.Proofs.Ytlchelaohiojiaa
open Go.RowKit
set_option linter.unusedVariables false

set_option maxHeartbeats 400000 in
theorem l01Degree_any (p : Nat) (hp : p < 4611686018427387904) (w : World) :
    Calls Try.prog 130 #[.int .i64 p] w fun e w' => e = .returned (.int .i64 ((nb p : Int) - 1)) ∧ w = w' := by
  have hb : nb p ≤ 62 := nb_le_of_lt (by omega)
  go_enter Try.func130, Try.ntmps130
  go_wp2
  go_loop [0, 3] (fun a n => ∃ q : Nat, q ≤ p ∧ nb q ≤ nb p ∧ a = .int .i64 q ∧ n = .int .i64 ((nb p : Int) - (nb q : Int) - 1)) (fun a _ => (intOf a).toNat)
  case atStart => exact ⟨p, Nat.le_refl _, Nat.le_refl _, rfl, by rw [show ((nb p : Int) - nb p - 1) = -1 by omega]⟩
  case round =>
    obtain ⟨q, hq, hn, rfl, rfl⟩ := hrel
    by_cases h0 : 0 < q
    · have H := Lib.hid (nb_half h0)
      go_wp2
      go_round
      case rel => exact ⟨q / 2, by omega, by have := H.out; omega, by go_num, by have := H.out; go_num⟩
      case measure => simp [intOf]; omega
    · go_wp2
      go_ret
      have hq0 : q = 0 := by omega
      subst hq0
      exact ⟨ret_int (by simp [nb]), rfl⟩

theorem step_bits (r q : Nat) (hq0 : 0 < q) (hr : r < 1048576) (h : nb q ≤ nb r) : bits .xor .i64 (r : Int) (wrap64 ((q : Int) * 2 ^ ((nb r : Int) - 1 - ((nb q : Int) - 1)).toNat)) = ((stepp r q : Nat) : Int) := by
  have e : ((nb r : Int) - 1 - ((nb q : Int) - 1)).toNat = nb r - nb q := by omega
  rw [e]
  have h1 := nb_lt (p := q)
  have h2 : q * 2 ^ (nb r - nb q) < 2 ^ 20 := by
    have hb : nb r ≤ 20 := nb_le_of_lt (by omega)
    calc q * 2 ^ (nb r - nb q) < 2 ^ nb q * 2 ^ (nb r - nb q) := Nat.mul_lt_mul_of_pos_right h1 (Nat.two_pow_pos _)
      _ = 2 ^ nb r := by rw [← Nat.pow_add]; congr 1; omega
      _ ≤ 2 ^ 20 := Nat.pow_le_pow_right (by omega) hb
  rw [shl_nat _ _ (by omega), i64_xor_nat _ _ (by omega) (by omega)]
  rfl

set_option maxHeartbeats 400000 in
theorem l01Rest_any (p q : Nat) (hp : p < 1048576) (hq0 : 0 < q) (hq : q < 1048576) (w : World) :
    Calls Try.prog 169 #[.int .i64 p, .int .i64 q] w fun e w' => e = .returned (.int .i64 (prest p q)) ∧ w = w' := by
  have hb : nb p ≤ 20 := nb_le_of_lt (by omega)
  have hbq : nb q ≤ 20 := nb_le_of_lt (by omega)
  go_enter Try.func169, Try.ntmps169
  go_wp2_with (go_at_call 130; refine (l01Degree_any _ (by omega) _).mono ?_; rintro e w' ⟨rfl, rfl⟩)
  go_loop [0] (fun a => ∃ r : Nat, r ≤ p ∧ nb r ≤ nb p ∧ prest r q = prest p q ∧ a = .int .i64 r) (fun a => (intOf a).toNat)
  case atStart => exact ⟨p, Nat.le_refl _, Nat.le_refl _, rfl, rfl⟩
  case round =>
    obtain ⟨r, hr, hn, he, rfl⟩ := hrel
    have HE := Lib.hid he
    clear he
    by_cases h0 : nb q ≤ nb r
    · have H1 := Lib.hid (nb_stepp hq0 h0)
      have H2 := Lib.hid (stepp_lt hq0 h0)
      have H3 := Lib.hid (prest_step hq0 h0)
      go_wp2_with (go_at_call 130; refine (l01Degree_any _ (by omega) _).mono ?_; rintro e w' ⟨rfl, rfl⟩)
      rw [step_bits r q hq0 (by omega) h0]
      refine ⟨⟨stepp r q, ?_, ?_, ?_, rfl⟩, ?_⟩
      · have := H2.out; omega
      · have := H1.out; omega
      · rw [H3.out, HE.out]
      · have := H2.out; simp [intOf]; omega
    · go_wp2_with (go_at_call 130; refine (l01Degree_any _ (by omega) _).mono ?_; rintro e w' ⟨rfl, rfl⟩)
      go_ret
      exact ⟨ret_int (by rw [← HE.out, prest_lt (by omega)]), rfl⟩

end Go.Proofs.Ytlchelaohiojiaa
namespace Go.Proofs.Ytlchelaohiojiaa
open Go.RowKit
set_option linter.unusedVariables false

set_option maxHeartbeats 400000 in
theorem polyDegree_nat (p : Nat) (hp : p < 4611686018427387904) (w : World) :
    Calls Try.prog 67 #[.int .i64 p] w fun e w' => e = .returned (.int .i64 ((nb p : Int) - 1)) ∧ w = w' := by
  have hb : nb p ≤ 62 := nb_le_of_lt (by omega)
  have HB := Lib.hid (bitLen_eq (p := p) (by omega))
  go_enter Try.func67, Try.ntmps67
  go_wp2_with (go_at_call 120; refine (Try.bits_Len64 _ _ (by omega) (by omega)).mono ?_; rintro e w' ⟨rfl, rfl⟩; simp only [Int.toNat_natCast, HB.out])
  go_ret
  exact ⟨rfl, rfl⟩

set_option maxHeartbeats 400000 in
theorem polyDegree_any (p : Int) (hl : -9223372036854775808 ≤ p) (hh : p ≤ 9223372036854775807) (w : World) :
    Calls Try.prog 67 #[.int .i64 p] w fun e w' => e = .returned (.int .i64 ((nb (p % 18446744073709551616).toNat : Int) - 1)) ∧ w = w' := by
  have hr1 : 0 ≤ p % 18446744073709551616 := by omega
  have hr2 : p % 18446744073709551616 ≤ 18446744073709551615 := by omega
  have HB := Lib.hid (bitLen_eq (p := (p % 18446744073709551616).toNat) (by omega))
  have hb : nb (p % 18446744073709551616).toNat ≤ 64 := nb_le_of_lt (by omega)
  go_enter Try.func67, Try.ntmps67
  go_wp2_with (go_at_call 120; rw [IntKind.wrap_u64]; refine (Try.bits_Len64 _ _ (by omega) (by omega)).mono ?_; rintro e w' ⟨rfl, rfl⟩; simp only [HB.out])
  go_ret
  exact ⟨rfl, rfl⟩

set_option maxHeartbeats 400000 in
theorem polyRest_any (p q : Nat) (hp : p < 1048576) (hq0 : 0 < q) (hq : q < 1048576) (w : World) :
    Calls Try.prog 69 #[.int .i64 p, .int .i64 q] w fun e w' => e = .returned (.int .i64 (prest p q)) ∧ w = w' := by
  have hb : nb p ≤ 20 := nb_le_of_lt (by omega)
  have hbq : nb q ≤ 20 := nb_le_of_lt (by omega)
  go_enter Try.func69, Try.ntmps69
  go_wp2
  go_loop [0] (fun a => ∃ r : Nat, r ≤ p ∧ nb r ≤ nb p ∧ prest r q = prest p q ∧ a = .int .i64 r) (fun a => (intOf a).toNat)
  case atStart => exact ⟨p, Nat.le_refl _, Nat.le_refl _, rfl, rfl⟩
  case round =>
    obtain ⟨r, hr, hn, he, rfl⟩ := hrel
    have HE := Lib.hid he
    clear he
    by_cases h0 : nb q ≤ nb r
    · have H1 := Lib.hid (nb_stepp hq0 h0)
      have H2 := Lib.hid (stepp_lt hq0 h0)
      have H3 := Lib.hid (prest_step hq0 h0)
      go_wp2_with (go_at_call 67; refine (polyDegree_nat _ (by omega) _).mono ?_; rintro e w' ⟨rfl, rfl⟩)
      rw [step_bits r q hq0 (by omega) h0]
      refine ⟨⟨stepp r q, ?_, ?_, ?_, rfl⟩, ?_⟩
      · have := H2.out; omega
      · have := H1.out; omega
      · rw [H3.out, HE.out]
      · have := H2.out; simp [intOf]; omega
    · go_wp2_with (go_at_call 67; refine (polyDegree_nat _ (by omega) _).mono ?_; rintro e w' ⟨rfl, rfl⟩)
      go_ret
      exact ⟨ret_int (by rw [← HE.out, prest_lt (by omega)]), rfl⟩
end Go.Proofs.Ytlchelaohiojiaa
namespace Go.Proofs.Ytlchelaohiojiaa
open Go.RowKit Go.Shelf
attribute [local go_sem] Oper.semAt_some
set_option linter.unusedVariables false

/-- The polynomials of the degree h, as many as k of them. -/
abbrev PolyOf (h : Nat) := { x : Nat // 2 ^ h ≤ x ∧ x < 2 * 2 ^ h }
def polyAt (h k : Nat) (hk : k < 2 ^ h) : PolyOf h := ⟨2 ^ h + k, by omega⟩
def polys (h : Nat) : Nat → List (PolyOf h)
  | 0 => []
  | k + 1 => if hk : k < 2 ^ h then polys h k ++ [polyAt h k hk] else polys h k
theorem polys_succ {h k : Nat} (hk : k < 2 ^ h) : polys h (k + 1) = polys h k ++ [polyAt h k hk] := by simp [polys, hk]
theorem polys_length {h : Nat} : ∀ k, k ≤ 2 ^ h → (polys h k).length = k := by
  intro k
  induction k with
  | zero => intro _; rfl
  | succ k ih => intro hk; rw [polys_succ (by omega)]; simp [ih (by omega)]
theorem polys_mem {h : Nat} : ∀ k, k ≤ 2 ^ h → ∀ d : PolyOf h, d.1 < 2 ^ h + k → d ∈ polys h k := by
  intro k
  induction k with
  | zero => intro _ d hd; have := d.2; omega
  | succ k ih =>
    intro hk d hd
    rw [polys_succ (by omega)]
    by_cases e : d.1 = 2 ^ h + k
    · exact List.mem_append.2 (.inr (by have : d = polyAt h k (by omega) := Subtype.ext e; simp [this]))
    · exact List.mem_append.2 (.inl (ih (by omega) d (by omega)))

set_option maxRecDepth 100000 in
set_option maxHeartbeats 2000000 in
theorem polysOf_yields (F : Fence) (n : Nat) (hF : F.fn 121) (hro : F.round = none) (hn : 1 ≤ n) (l B h m : Nat) (hh : h ≤ 5) (hm : 2 ^ h = m) (J Jx : List (PolyOf h) → World → Prop)
    (hY : ∀ pre x W, J pre W → pre.length < m → YieldAt F (n - 1) Try.prog l #[.int .i64 (x.1 : Int)] W fun e W' =>
      (e = .returned (.bool true) ∧ J (pre ++ [x]) W' ∧ True) ∨ (e = .returned (.bool false) ∧ Jx (pre ++ [x]) W'))
    (W : World) (hB : W.cell? ⟨B, 0, none⟩ = some (.int .i64 h)) (h0 : J [] W) :
    CallsIn F n Try.prog 121 #[.func (.yield l) #[] #[], .pointer (some ⟨B, 0, none⟩)] W fun e W' => (∃ v, e = .returned v) ∧
      ((∃ ys, ys = polys h m ∧ J ys W') ∨ (∃ pre, (∃ k, k ≤ m ∧ pre = polys h k) ∧ Jx pre W')) := by
  have hp : m ≤ 32 := by
    calc m = 2 ^ h := hm.symm
      _ ≤ 2 ^ 5 := Nat.pow_le_pow_right (by omega) hh
      _ = 32 := rfl
  have e0 : wrap64 ((2 : Int) ^ h) = (m : Int) := by
    have := shl_nat 1 h (by omega)
    rw [← hm]
    simpa using this
  have HM := Lib.hid hm
  have E0 := Lib.hid e0
  clear e0 hm
  refine callsIn_of_wp Try.func121 rfl hF ?_ hro
  simp only [Try.ntmps121, List.size_toArray, List.length_cons, List.length_nil, Nat.reduceAdd, Nat.reduceSub, Array.replicate_succ, Array.replicate_zero, List.push_toArray, List.append_toArray, List.nil_append, List.cons_append]
  gi_wp2
  rw [E0.out]
  gi_loopw [4] (fun i wr => ∃ k : Nat, k ≤ m ∧ i = .int .i64 ((m + k : Nat) : Int) ∧ J (polys h k) wr)
    (fun i _ => 2 * m - (intOf i).toNat)
  case atStart => exact ⟨0, Nat.zero_le _, rfl, h0⟩
  case round =>
    obtain ⟨k, hk, rfl, hJs⟩ := hrel
    by_cases hlt : k < m
    · obtain ⟨fn, tmps, assign, body, hy, hR⟩ := hY _ (polyAt h k (by rw [HM.out]; exact hlt)) wr hJs (by rw [polys_length k (by rw [HM.out]; exact hk)]; exact hlt)
      have ex : (((polyAt h k (by rw [HM.out]; exact hlt)).1 : Nat) : Int) = (m : Int) + (k : Int) := by simp [polyAt, HM.out]
      rw [ex] at hy
      have HJ := Lib.hid (polys_succ (h := h) (k := k) (by rw [HM.out]; exact hlt))
      clear ex
      gi_wp2
      refine hR.mono ?_
      rintro e W3 (⟨rfl, hJ3, hk3⟩ | ⟨rfl, hJx3⟩)
      · gi_wp2
        go_roundw
        case rel => exact ⟨k + 1, by omega, by go_num, by rw [HJ.out]; exact hJ3⟩
        case measure => simp [intOf]; omega
      · gi_wp2
        refine bodyPost_ret (results_none rfl _ _ _) rfl ?_
        exact ⟨⟨_, rfl⟩, .inr ⟨_, ⟨k + 1, by omega, HJ.out.symm⟩, hJx3⟩⟩
    · obtain rfl : k = m := by omega
      gi_wp2
      go_end0
      exact ⟨⟨_, rfl⟩, .inl ⟨_, rfl, hJs⟩⟩

/-- THE ITERATOR's CONTRACT. -/
theorem polysOf_stops (F : Fence) (n : Nat) (hF : F.fn 121) (hro : F.round = none) (hn : 1 ≤ n) (B h m : Nat) (hh : h ≤ 5) (hm : 2 ^ h = m) (w : World) (hB : w.cell? ⟨B, 0, none⟩ = some (.int .i64 h)) (hlt : B < w.heap.size) :
    SeqStopsK F n Try.prog 121 #[.pointer (some ⟨B, 0, none⟩)] (fun x : PolyOf h => #[.int .i64 (x.1 : Int)]) (fun _ _ => True) (fun ys => ys = polys h m) (fun pre => ∃ k, k ≤ m ∧ pre = polys h k) m w :=
  fun l J Jx W hW _ _ hY h0 => polysOf_yields F n hF hro hn l B h m hh hm J Jx hY W ((hW.cell (p := ⟨B, 0, none⟩) hlt).trans hB) h0

set_option maxHeartbeats 400000 in
theorem polysOf_any (h : Int) (w : World) :
    Calls Try.prog 68 #[.int .i64 h] w fun e w' => e = .returned (.func (.func 121) #[] #[.pointer (some ⟨w.heap.size, 0, none⟩)]) ∧ w.alloc (.cells #[.int .i64 h] 2) = w' := by
  have hmf : ∀ (fn : Fn) (first cap : Array Value) (w : World), (Instr.makeFunc fn first cap).run Try.prog w = .ok (.func fn first cap) w := fun _ _ _ _ => rfl
  go_enter Try.func68, Try.ntmps68
  go_wp2
  go_ret
  exact ⟨rfl, rfl⟩

end Go.Proofs.Ytlchelaohiojiaa
namespace Go.Proofs.Ytlchelaohiojiaa
open Go.RowKit
set_option linter.unusedVariables false

theorem noDiv_succ (p q : Nat) (h : noDiv p q = true) (hr : prest p q ≠ 0) : noDiv p (q + 1) = true := by
  simp [noDiv, h, hr]
theorem irr_false_of_nb {p : Nat} (h : nb p < 2 ∨ 6 < nb p) : irr p = false := by
  cases hc : irr p with
  | false => rfl
  | true => have := irr_nb hc; omega

theorem nb_two {p : Nat} (h : 2 ≤ nb p) : 2 ≤ p := by
  rcases Nat.lt_or_ge p 2 with h' | h'
  · have : nb p ≤ 1 := nb_le_of_lt h'
    omega
  · exact h'

set_option maxHeartbeats 800000 in
theorem l01Irreducible_any (p : Nat) (hp : p < 64) (w : World) :
    Calls Try.prog 148 #[.int .i64 p] w fun e w' => e = .returned (.bool (irr p)) ∧ w = w' := by
  have hb : nb p ≤ 6 := nb_le_of_lt (by omega)
  by_cases h2 : 2 ≤ nb p
  · have g1 : ¬ ((nb p : Int) - 1 < 1) := by omega
    have g2 : ¬ (5 < (nb p : Int) - 1) := by omega
    go_enter Try.func148, Try.ntmps148
    go_wp2_with (go_at_call 130; refine (l01Degree_any _ (by omega) _).mono ?_; rintro e w' ⟨rfl, rfl⟩)
    go_loop [4] (fun a => ∃ q : Nat, 2 ≤ q ∧ q ≤ 64 ∧ noDiv p q = true ∧ a = .int .i64 q) (fun a => 64 - (intOf a).toNat)
    case atStart => exact ⟨2, by omega, by omega, by simp [noDiv], rfl⟩
    case round =>
      obtain ⟨q, hq2, hq64, hno, rfl⟩ := hrel
      have HN := Lib.hid hno
      clear hno
      by_cases hlt : nb q < nb p
      · have hq : q < 64 := by
          by_cases e : q = 64
          · subst e
            have : nb 64 = 7 := by decide
            omega
          · omega
        by_cases hr : prest p q = 0
        · have hr' : ((prest p q : Int) == 0) = true := by simp [hr]
          go_wp2_with (first | (go_at_call 130; refine (l01Degree_any _ (by omega) _).mono ?_; rintro e w' ⟨rfl, rfl⟩) | (go_at_call 169; refine (l01Rest_any _ _ (by omega) (by omega) (by omega) _).mono ?_; rintro e w' ⟨rfl, rfl⟩))
          go_ret
          exact ⟨ret_bool (irr_no ⟨p, hp⟩ ⟨q, hq⟩ hq2 hlt hr).symm, rfl⟩
        · have hr' : ((prest p q : Int) == 0) = false := by simp [hr]
          go_wp2_with (first | (go_at_call 130; refine (l01Degree_any _ (by omega) _).mono ?_; rintro e w' ⟨rfl, rfl⟩) | (go_at_call 169; refine (l01Rest_any _ _ (by omega) (by omega) (by omega) _).mono ?_; rintro e w' ⟨rfl, rfl⟩))
          go_round
          case rel => exact ⟨q + 1, by omega, by omega, noDiv_succ p q HN.out hr, by go_num⟩
          case measure => simp [intOf]; omega
      · go_wp2_with (go_at_call 130; refine (l01Degree_any _ (by omega) _).mono ?_; rintro e w' ⟨rfl, rfl⟩)
        go_ret
        exact ⟨ret_bool (irr_yes ⟨p, by omega⟩ ⟨q, by omega⟩ (nb_two h2) hp (by show nb p ≤ nb q; omega) HN.out).symm, rfl⟩
  · have g1 : ((nb p : Int) - 1 < 1) := by omega
    go_enter Try.func148, Try.ntmps148
    go_wp2_with (go_at_call 130; refine (l01Degree_any _ (by omega) _).mono ?_; rintro e w' ⟨rfl, rfl⟩)
    go_ret
    exact ⟨ret_bool (irr_false_of_nb (.inl (by omega))).symm, rfl⟩

/-- Whether a number is an irreducible polynomial. -/
def irrI (p : Int) : Bool := decide (0 < p) && decide (p < 64) && irr p.toNat

set_option maxHeartbeats 400000 in
theorem specIsIrreducible_any (p : Int) (w : World) :
    Calls Try.prog 129 #[.int .i64 p] w fun e w' => e = .returned (.bool (irrI p)) ∧ w = w' := by
  by_cases h1 : 0 < p
  · by_cases h2 : p < 64
    · obtain ⟨n, rfl⟩ := Int.eq_ofNat_of_zero_le (by omega : 0 ≤ p)
      go_enter Try.func129, Try.ntmps129
      go_wp2_with (go_at_call 148; refine (l01Irreducible_any _ (by omega) _).mono ?_; rintro e w' ⟨rfl, rfl⟩)
      go_ret
      exact ⟨ret_bool (by unfold irrI; rw [decide_eq_true h1, decide_eq_true h2]; simp), rfl⟩
    · go_enter Try.func129, Try.ntmps129
      go_wp2
      go_ret
      exact ⟨ret_bool (by unfold irrI; rw [decide_eq_false (p := p < 64) (by omega)]; simp), rfl⟩
  · go_enter Try.func129, Try.ntmps129
    go_wp2
    go_ret
    exact ⟨ret_bool (by unfold irrI; rw [decide_eq_false (p := 0 < p) (by omega)]; simp), rfl⟩
end Go.Proofs.Ytlchelaohiojiaa
namespace Go.Proofs.Ytlchelaohiojiaa
open Go.RowKit Go.Shelf
attribute [local go_sem] Oper.semAt_some
set_option linter.unusedVariables false

theorem noDiv_iff (p : Nat) : ∀ q, noDiv p q = true ↔ ∀ d, 2 ≤ d → d < q → prest p d ≠ 0 := by
  intro q
  induction q with
  | zero => simp [noDiv]
  | succ q ih =>
    simp only [noDiv, Bool.and_eq_true, ih, Bool.or_eq_true, decide_eq_true_eq, bne_iff_ne]
    constructor
    · rintro ⟨h1, h2⟩ d hd hq
      by_cases e : d = q
      · subst e; exact h2.resolve_left (by omega)
      · exact h1 d hd (by omega)
    · intro h
      refine ⟨fun d hd hq => h d hd (by omega), ?_⟩
      by_cases h2 : q < 2
      · exact .inl h2
      · exact .inr (h q (by omega) (by omega))
theorem noDiv_yes {p q : Nat} (h : ∀ d, 2 ≤ d → d < q → prest p d ≠ 0) : noDiv p q = true := (noDiv_iff p q).2 h
theorem noDiv_no {p q d : Nat} (hd : 2 ≤ d) (hq : d < q) (h : prest p d = 0) : noDiv p q = false := by
  cases e : noDiv p q with
  | false => rfl
  | true => exact absurd h ((noDiv_iff p q).1 e d hd hq)
theorem irr_d1 : ∀ p : Fin 64, nb p.val = 2 → irr p.val = true := by decide +kernel
theorem irr_d2 : ∀ p : Fin 64, nb p.val = 3 → irr p.val = noDiv p.val 4 := by decide +kernel
theorem irr_d3 : ∀ p : Fin 64, nb p.val = 4 → irr p.val = noDiv p.val 4 := by decide +kernel
theorem irr_d4 : ∀ p : Fin 64, nb p.val = 5 → irr p.val = noDiv p.val 8 := by decide +kernel
theorem irr_d5 : ∀ p : Fin 64, nb p.val = 6 → irr p.val = noDiv p.val 8 := by decide +kernel
theorem cell_of_box {W : World} {B : Nat} {v : Value} {t : TypeId} (h : W.heap[B]? = some (.cells #[v] t (0, 0))) : W.cell? ⟨B, 0, none⟩ = some v ∧ W.frozen? ⟨B, 0, none⟩ = false := by
  constructor <;> simp [World.cell?, World.frozen?, h]
theorem cell_new_l (W : World) (v : Value) (t : TypeId) : (W.alloc (.cells #[v] t)).cell? ⟨W.heap.size, 0, none⟩ = some v ∧ (W.alloc (.cells #[v] t)).frozen? ⟨W.heap.size, 0, none⟩ = false :=
  cell_of_box (World.alloc_heap_new W _)
theorem cell_alloc_l {W : World} {a : Addr} {v : Value} (o : Obj) (h : W.cell? a = some v) : (W.alloc o).cell? a = some v := cell_kept h (World.grownBy_alloc W o none) (fun r e => by cases e)
theorem frozen_alloc_l {W : World} {a : Addr} {v : Value} (o : Obj) (h : W.cell? a = some v) (hf : W.frozen? a = false) : (W.alloc o).frozen? a = false := (frozen_kept h (World.grownBy_alloc W o none) (fun r e => by cases e)).trans hf
theorem ownFrom_heap {β : Type} {B D : Nat} {o : Obj} (h : D < B) : OwnFrom B (fun (_ : β) (W : World) => W.heap[D]? = some o) := by
  intro s W W' row hs hg hr
  refine (hg.block D (Array.getElem?_eq_some_iff.1 hs).1 ?_).trans hs
  intro e
  have := (hr D e.symm).1
  omega

set_option maxRecDepth 100000 in
set_option maxHeartbeats 2000000 in
theorem isIrreducible_1 (p : Nat) (hp : p < 64) (hd : nb p = 2) (w : World) :
    CallsIn Fence.wide 9 Try.prog 18 #[.int .i64 p] w fun e W' => e = .returned (.bool true) ∧ Below w.heap.size w W' := by
  refine callsIn_of_wp_marks Try.func18 rfl trivial ?_ rfl
  simp only [Try.ntmps18, List.size_toArray, List.length_cons, List.length_nil, Nat.reduceAdd, Nat.reduceSub, Array.replicate_succ, Array.replicate_zero, List.push_toArray, List.append_toArray, List.nil_append, List.cons_append]
  gi_wp2_with (refine ⟨trivial, ?_⟩; gi_at_call 67; refine (callsIn_wide.2 (polyDegree_nat _ (by omega) _)).mono ?_; rintro e w' ⟨rfl, rfl⟩)
  refine wpIn_loop_rounds 1 ?_
  rw [roundsIn_succ]
  gi_wp2
  refine ⟨.bool true, ?_, rfl, ((Below.refl _ w).alloc (Nat.le_refl _) _).alloc (by simp) _⟩
  simp [results, Try.f18, go_sem]

set_option maxRecDepth 100000 in
set_option maxHeartbeats 4000000 in
theorem isIrreducible_2 (p : Nat) (hp : p < 64) (hd : nb p = 3) (w : World) :
    CallsIn Fence.wide 9 Try.prog 18 #[.int .i64 p] w fun e W' => e = .returned (.bool (noDiv p 4)) ∧ Below w.heap.size w W' := by
  refine callsIn_of_wp_marks Try.func18 rfl trivial ?_ rfl
  simp only [Try.ntmps18, List.size_toArray, List.length_cons, List.length_nil, Nat.reduceAdd, Nat.reduceSub, Array.replicate_succ, Array.replicate_zero, List.push_toArray, List.append_toArray, List.nil_append, List.cons_append]
  gi_wp2_with (refine ⟨trivial, ?_⟩; gi_at_call 67; refine (callsIn_wide.2 (polyDegree_nat _ (by omega) _)).mono ?_; rintro e w' ⟨rfl, rfl⟩)
  refine wpIn_loop_rounds 2 ?_
  rw [roundsIn_succ]
  gi_wp2_with (refine ⟨trivial, ?_⟩; gi_at_call 68; refine (callsIn_wide.2 (polysOf_any _ _)).mono ?_; rintro e w' ⟨rfl, rfl⟩)
  have c0 := cell_new_l w (.int .i64 p) 2
  have c1 := cell_new_l (w.alloc (.cells #[.int .i64 p] 2)) (.bool false) 4
  have c2 := cell_new_l ((w.alloc (.cells #[.int .i64 p] 2)).alloc (.cells #[.bool false] 4)) (.int .i64 1) 2
  simp only [World.size_alloc] at c1 c2
  have hB0 : Below w.heap.size w (((w.alloc (.cells #[.int .i64 p] 2)).alloc (.cells #[.bool false] 4)).alloc (.cells #[.int .i64 1] 2)) := (((Below.refl _ w).alloc (Nat.le_refl _) _).alloc (by simp) _).alloc (by simp; omega) _
  refine wpIn_rangeFunc_ownF (α := PolyOf 1) rfl (by omega) (gf := 121) (lb := #[.pointer (some ⟨w.heap.size + 1 + 1, 0, none⟩)]) rfl trivial (enters_of Try.func121 (by kernel_rfl) rfl)
    (polysOf_stops Fence.wide 8 trivial rfl (by omega) (w.heap.size + 1 + 1) 1 2 (by omega) rfl _ c2.1 (by simp)) (fun _ _ => trivial) (fun _ _ _ _ _ _ _ _ => trivial) (Below.refl _ _) (fun _ => rfl)
    (fun pre W => ((∀ d ∈ pre, prest p d.1 ≠ 0) ∧ W.cell? ⟨w.heap.size, 0, none⟩ = some (.int .i64 p) ∧ W.cell? ⟨w.heap.size + 1, 0, none⟩ = some (.bool false) ∧ W.frozen? ⟨w.heap.size + 1, 0, none⟩ = false) ∧ Below w.heap.size w W)
    (fun c pre W => (c = .ret ∧ (∃ d ∈ pre, prest p d.1 = 0) ∧ W.cell? ⟨w.heap.size + 1, 0, none⟩ = some (.bool false)) ∧ Below w.heap.size w W)
    (OwnFrom.and (Own.from (fun s A B row hs hg hr => ⟨hs.1, cell_kept hs.2.1 hg hr, cell_kept hs.2.2.1 hg hr, (frozen_kept hs.2.2.1 hg hr).trans hs.2.2.2⟩) _) (ownFrom_below (Nat.le_refl _) (by simp; omega)))
    (fun c => OwnFrom.and (Own.from (fun s A B row hs hg hr => ⟨hs.1, hs.2.1, cell_kept hs.2.2 hg hr⟩) _) (ownFrom_below (Nat.le_refl _) (by simp; omega)))
    ⟨⟨by simp, cell_alloc_l _ (cell_alloc_l _ c0.1), cell_alloc_l _ c1.1, frozen_alloc_l _ c1.1 c1.2⟩, hB0⟩
    (fun x => { tmps := #[.int .i64 p, .pointer (some ⟨w.heap.size, 0, none⟩), .pointer (some ⟨w.heap.size + 1, 0, none⟩), .int .i64 2, .int .i64 1, .int .i64 x.1, .int .i64 p, .int .i64 2, .int .i64 2, .bool false, .bool false, .int .i64 2, .bool false, .bool false, .int .i64 1, .int .i64 2, .int .i64 2, .bool true, undef, undef, .int .i64 1, .func (.func 121) #[] #[.pointer (some ⟨w.heap.size + 1 + 1, 0, none⟩)], .int .i64 x.1, undef, undef, undef, undef], defers := [] }) ?assign ?body ?done ?stop
  case assign =>
    intro l x W K hK
    gi_wp2
    exact hK
  case body =>
    rintro l pre x W ⟨⟨hpre, hcw, hcr, hfr⟩, hB⟩ _
    have hx1 := x.2.1
    have hx2 := x.2.2
    gi_wp2_with (refine ⟨trivial, ?_⟩; gi_at_call 69; refine (CallsIn.inRound l (callsIn_wide.2 (polyRest_any _ _ (by omega) (by omega) (by omega) _))).mono ?_; rintro e w' ⟨rfl, rfl⟩)
    · rename_i hx
      exact ⟨KeepsOthers.setCell _ _ _, ⟨rfl, ⟨x, List.mem_append.2 (.inr (by simp)), by simpa using hx⟩, World.cell?_setCell_same' _ _ _ (by rw [hcr]; rfl)⟩, hB.setCell (p := ⟨w.heap.size + 1, 0, none⟩) (by simp) _⟩
    · rename_i hx
      exact ⟨KeepsOthers.refl _, trivial, ⟨fun y hy => (List.mem_append.1 hy).elim (hpre y) (fun e => by simp at e; subst e; simpa using hx), hcw, hcr, hfr⟩, hB⟩
  case done =>
    rintro D ys W hD rfl ⟨⟨hne, hcw, hcr, hfr⟩, hB⟩ hK
    gi_wp2
    rw [roundsIn_succ]
    gi_wp2
    have hK' := (KeepsOthers.setCell W ⟨w.heap.size + 1, 0, none⟩ (.bool true)).same D _ hK rfl
    refine ⟨by simp, .inl ⟨_, _, rfl, run_takeDeferred hK', ?_⟩⟩
    have hc5 := cell_kept (World.cell?_setCell_same' W ⟨w.heap.size + 1, 0, none⟩ (.bool true) (by rw [hcr]; rfl)) (grownBy_putObj' _ D (.deferred none)) (fun r e => by cases e; exact ⟨_, hK', rfl⟩)
    refine ⟨.bool true, ?_, ret_bool (noDiv_yes (fun d h1 h2 => hne ⟨d, by omega⟩ (polys_mem 2 (by omega) _ (by simp; omega)))).symm, (hB.setCell (p := ⟨w.heap.size + 1, 0, none⟩) (by simp) _).trans (belowK_b (w := w) (Nat.le_refl _) _ D _ _ (by simp at hD; omega) hK' rfl rfl)⟩
    simp [results, Try.f18, go_sem, hc5]
  case stop =>
    rintro D c pre W hD hpre ⟨⟨rfl, hin, hcr⟩, hB⟩ hK
    gi_wp2
    refine ⟨by simp, .inl ⟨_, _, rfl, run_takeDeferred hK, ?_⟩⟩
    have hc5 := cell_kept hcr (grownBy_putObj' _ D (.deferred none)) (fun r e => by cases e; exact ⟨_, hK, rfl⟩)
    obtain ⟨d, _, hd0⟩ := hin
    refine ⟨.bool false, ?_, ret_bool (noDiv_no (d := d.1) (by have := d.2.1; omega) (by have := d.2.2; omega) hd0).symm, hB.trans (belowK_b (w := w) (Nat.le_refl _) W D _ _ (by simp at hD; omega) hK rfl rfl)⟩
    simp [results, Try.f18, go_sem, hc5]
set_option maxRecDepth 100000 in
set_option maxHeartbeats 4000000 in
theorem isIrreducible_3 (p : Nat) (hp : p < 64) (hd : nb p = 4) (w : World) :
    CallsIn Fence.wide 9 Try.prog 18 #[.int .i64 p] w fun e W' => e = .returned (.bool (noDiv p 4)) ∧ Below w.heap.size w W' := by
  refine callsIn_of_wp_marks Try.func18 rfl trivial ?_ rfl
  simp only [Try.ntmps18, List.size_toArray, List.length_cons, List.length_nil, Nat.reduceAdd, Nat.reduceSub, Array.replicate_succ, Array.replicate_zero, List.push_toArray, List.append_toArray, List.nil_append, List.cons_append]
  gi_wp2_with (refine ⟨trivial, ?_⟩; gi_at_call 67; refine (callsIn_wide.2 (polyDegree_nat _ (by omega) _)).mono ?_; rintro e w' ⟨rfl, rfl⟩)
  refine wpIn_loop_rounds 2 ?_
  rw [roundsIn_succ]
  gi_wp2_with (refine ⟨trivial, ?_⟩; gi_at_call 68; refine (callsIn_wide.2 (polysOf_any _ _)).mono ?_; rintro e w' ⟨rfl, rfl⟩)
  have c0 := cell_new_l w (.int .i64 p) 2
  have c1 := cell_new_l (w.alloc (.cells #[.int .i64 p] 2)) (.bool false) 4
  have c2 := cell_new_l ((w.alloc (.cells #[.int .i64 p] 2)).alloc (.cells #[.bool false] 4)) (.int .i64 1) 2
  simp only [World.size_alloc] at c1 c2
  have hB0 : Below w.heap.size w (((w.alloc (.cells #[.int .i64 p] 2)).alloc (.cells #[.bool false] 4)).alloc (.cells #[.int .i64 1] 2)) := (((Below.refl _ w).alloc (Nat.le_refl _) _).alloc (by simp) _).alloc (by simp; omega) _
  refine wpIn_rangeFunc_ownF (α := PolyOf 1) rfl (by omega) (gf := 121) (lb := #[.pointer (some ⟨w.heap.size + 1 + 1, 0, none⟩)]) rfl trivial (enters_of Try.func121 (by kernel_rfl) rfl)
    (polysOf_stops Fence.wide 8 trivial rfl (by omega) (w.heap.size + 1 + 1) 1 2 (by omega) rfl _ c2.1 (by simp)) (fun _ _ => trivial) (fun _ _ _ _ _ _ _ _ => trivial) (Below.refl _ _) (fun _ => rfl)
    (fun pre W => ((∀ d ∈ pre, prest p d.1 ≠ 0) ∧ W.cell? ⟨w.heap.size, 0, none⟩ = some (.int .i64 p) ∧ W.cell? ⟨w.heap.size + 1, 0, none⟩ = some (.bool false) ∧ W.frozen? ⟨w.heap.size + 1, 0, none⟩ = false) ∧ Below w.heap.size w W)
    (fun c pre W => (c = .ret ∧ (∃ d ∈ pre, prest p d.1 = 0) ∧ W.cell? ⟨w.heap.size + 1, 0, none⟩ = some (.bool false)) ∧ Below w.heap.size w W)
    (OwnFrom.and (Own.from (fun s A B row hs hg hr => ⟨hs.1, cell_kept hs.2.1 hg hr, cell_kept hs.2.2.1 hg hr, (frozen_kept hs.2.2.1 hg hr).trans hs.2.2.2⟩) _) (ownFrom_below (Nat.le_refl _) (by simp; omega)))
    (fun c => OwnFrom.and (Own.from (fun s A B row hs hg hr => ⟨hs.1, hs.2.1, cell_kept hs.2.2 hg hr⟩) _) (ownFrom_below (Nat.le_refl _) (by simp; omega)))
    ⟨⟨by simp, cell_alloc_l _ (cell_alloc_l _ c0.1), cell_alloc_l _ c1.1, frozen_alloc_l _ c1.1 c1.2⟩, hB0⟩
    (fun x => { tmps := #[.int .i64 p, .pointer (some ⟨w.heap.size, 0, none⟩), .pointer (some ⟨w.heap.size + 1, 0, none⟩), .int .i64 3, .int .i64 1, .int .i64 x.1, .int .i64 p, .int .i64 3, .int .i64 3, .bool false, .bool false, .int .i64 3, .bool false, .bool false, .int .i64 1, .int .i64 2, .int .i64 3, .bool true, undef, undef, .int .i64 1, .func (.func 121) #[] #[.pointer (some ⟨w.heap.size + 1 + 1, 0, none⟩)], .int .i64 x.1, undef, undef, undef, undef], defers := [] }) ?assign ?body ?done ?stop
  case assign =>
    intro l x W K hK
    gi_wp2
    exact hK
  case body =>
    rintro l pre x W ⟨⟨hpre, hcw, hcr, hfr⟩, hB⟩ _
    have hx1 := x.2.1
    have hx2 := x.2.2
    gi_wp2_with (refine ⟨trivial, ?_⟩; gi_at_call 69; refine (CallsIn.inRound l (callsIn_wide.2 (polyRest_any _ _ (by omega) (by omega) (by omega) _))).mono ?_; rintro e w' ⟨rfl, rfl⟩)
    · rename_i hx
      exact ⟨KeepsOthers.setCell _ _ _, ⟨rfl, ⟨x, List.mem_append.2 (.inr (by simp)), by simpa using hx⟩, World.cell?_setCell_same' _ _ _ (by rw [hcr]; rfl)⟩, hB.setCell (p := ⟨w.heap.size + 1, 0, none⟩) (by simp) _⟩
    · rename_i hx
      exact ⟨KeepsOthers.refl _, trivial, ⟨fun y hy => (List.mem_append.1 hy).elim (hpre y) (fun e => by simp at e; subst e; simpa using hx), hcw, hcr, hfr⟩, hB⟩
  case done =>
    rintro D ys W hD rfl ⟨⟨hne, hcw, hcr, hfr⟩, hB⟩ hK
    gi_wp2
    rw [roundsIn_succ]
    gi_wp2
    have hK' := (KeepsOthers.setCell W ⟨w.heap.size + 1, 0, none⟩ (.bool true)).same D _ hK rfl
    refine ⟨by simp, .inl ⟨_, _, rfl, run_takeDeferred hK', ?_⟩⟩
    have hc5 := cell_kept (World.cell?_setCell_same' W ⟨w.heap.size + 1, 0, none⟩ (.bool true) (by rw [hcr]; rfl)) (grownBy_putObj' _ D (.deferred none)) (fun r e => by cases e; exact ⟨_, hK', rfl⟩)
    refine ⟨.bool true, ?_, ret_bool (noDiv_yes (fun d h1 h2 => hne ⟨d, by omega⟩ (polys_mem 2 (by omega) _ (by simp; omega)))).symm, (hB.setCell (p := ⟨w.heap.size + 1, 0, none⟩) (by simp) _).trans (belowK_b (w := w) (Nat.le_refl _) _ D _ _ (by simp at hD; omega) hK' rfl rfl)⟩
    simp [results, Try.f18, go_sem, hc5]
  case stop =>
    rintro D c pre W hD hpre ⟨⟨rfl, hin, hcr⟩, hB⟩ hK
    gi_wp2
    refine ⟨by simp, .inl ⟨_, _, rfl, run_takeDeferred hK, ?_⟩⟩
    have hc5 := cell_kept hcr (grownBy_putObj' _ D (.deferred none)) (fun r e => by cases e; exact ⟨_, hK, rfl⟩)
    obtain ⟨d, _, hd0⟩ := hin
    refine ⟨.bool false, ?_, ret_bool (noDiv_no (d := d.1) (by have := d.2.1; omega) (by have := d.2.2; omega) hd0).symm, hB.trans (belowK_b (w := w) (Nat.le_refl _) W D _ _ (by simp at hD; omega) hK rfl rfl)⟩
    simp [results, Try.f18, go_sem, hc5]
set_option maxRecDepth 100000 in
set_option maxHeartbeats 4000000 in
theorem isIrreducible_4 (p : Nat) (hp : p < 64) (hd : nb p = 5) (w : World) :
    CallsIn Fence.wide 9 Try.prog 18 #[.int .i64 p] w fun e W' => e = .returned (.bool (noDiv p 8)) ∧ Below w.heap.size w W' := by
  refine callsIn_of_wp_marks Try.func18 rfl trivial ?_ rfl
  simp only [Try.ntmps18, List.size_toArray, List.length_cons, List.length_nil, Nat.reduceAdd, Nat.reduceSub, Array.replicate_succ, Array.replicate_zero, List.push_toArray, List.append_toArray, List.nil_append, List.cons_append]
  gi_wp2_with (refine ⟨trivial, ?_⟩; gi_at_call 67; refine (callsIn_wide.2 (polyDegree_nat _ (by omega) _)).mono ?_; rintro e w' ⟨rfl, rfl⟩)
  refine wpIn_loop_rounds 3 ?_
  rw [roundsIn_succ]
  gi_wp2_with (refine ⟨trivial, ?_⟩; gi_at_call 68; refine (callsIn_wide.2 (polysOf_any _ _)).mono ?_; rintro e w' ⟨rfl, rfl⟩)
  have c0 := cell_new_l w (.int .i64 p) 2
  have c1 := cell_new_l (w.alloc (.cells #[.int .i64 p] 2)) (.bool false) 4
  have c2 := cell_new_l ((w.alloc (.cells #[.int .i64 p] 2)).alloc (.cells #[.bool false] 4)) (.int .i64 1) 2
  simp only [World.size_alloc] at c1 c2
  have hB0 : Below w.heap.size w (((w.alloc (.cells #[.int .i64 p] 2)).alloc (.cells #[.bool false] 4)).alloc (.cells #[.int .i64 1] 2)) := (((Below.refl _ w).alloc (Nat.le_refl _) _).alloc (by simp) _).alloc (by simp; omega) _
  refine wpIn_rangeFunc_ownF (α := PolyOf 1) rfl (by omega) (gf := 121) (lb := #[.pointer (some ⟨w.heap.size + 1 + 1, 0, none⟩)]) rfl trivial (enters_of Try.func121 (by kernel_rfl) rfl)
    (polysOf_stops Fence.wide 8 trivial rfl (by omega) (w.heap.size + 1 + 1) 1 2 (by omega) rfl _ c2.1 (by simp)) (fun _ _ => trivial) (fun _ _ _ _ _ _ _ _ => trivial) (Below.refl _ _) (fun _ => rfl)
    (fun pre W => ((∀ d ∈ pre, prest p d.1 ≠ 0) ∧ W.cell? ⟨w.heap.size, 0, none⟩ = some (.int .i64 p) ∧ W.cell? ⟨w.heap.size + 1, 0, none⟩ = some (.bool false) ∧ W.frozen? ⟨w.heap.size + 1, 0, none⟩ = false) ∧ Below w.heap.size w W)
    (fun c pre W => (c = .ret ∧ (∃ d ∈ pre, prest p d.1 = 0) ∧ W.cell? ⟨w.heap.size + 1, 0, none⟩ = some (.bool false)) ∧ Below w.heap.size w W)
    (OwnFrom.and (Own.from (fun s A B row hs hg hr => ⟨hs.1, cell_kept hs.2.1 hg hr, cell_kept hs.2.2.1 hg hr, (frozen_kept hs.2.2.1 hg hr).trans hs.2.2.2⟩) _) (ownFrom_below (Nat.le_refl _) (by simp; omega)))
    (fun c => OwnFrom.and (Own.from (fun s A B row hs hg hr => ⟨hs.1, hs.2.1, cell_kept hs.2.2 hg hr⟩) _) (ownFrom_below (Nat.le_refl _) (by simp; omega)))
    ⟨⟨by simp, cell_alloc_l _ (cell_alloc_l _ c0.1), cell_alloc_l _ c1.1, frozen_alloc_l _ c1.1 c1.2⟩, hB0⟩
    (fun x => { tmps := #[.int .i64 p, .pointer (some ⟨w.heap.size, 0, none⟩), .pointer (some ⟨w.heap.size + 1, 0, none⟩), .int .i64 4, .int .i64 1, .int .i64 x.1, .int .i64 p, .int .i64 4, .int .i64 4, .bool false, .bool false, .int .i64 4, .bool false, .bool false, .int .i64 1, .int .i64 2, .int .i64 4, .bool true, undef, undef, .int .i64 1, .func (.func 121) #[] #[.pointer (some ⟨w.heap.size + 1 + 1, 0, none⟩)], .int .i64 x.1, undef, undef, undef, undef], defers := [] }) ?assign ?body ?done ?stop
  case assign =>
    intro l x W K hK
    gi_wp2
    exact hK
  case body =>
    rintro l pre x W ⟨⟨hpre, hcw, hcr, hfr⟩, hB⟩ _
    have hx1 := x.2.1
    have hx2 := x.2.2
    gi_wp2_with (refine ⟨trivial, ?_⟩; gi_at_call 69; refine (CallsIn.inRound l (callsIn_wide.2 (polyRest_any _ _ (by omega) (by omega) (by omega) _))).mono ?_; rintro e w' ⟨rfl, rfl⟩)
    · rename_i hx
      exact ⟨KeepsOthers.setCell _ _ _, ⟨rfl, ⟨x, List.mem_append.2 (.inr (by simp)), by simpa using hx⟩, World.cell?_setCell_same' _ _ _ (by rw [hcr]; rfl)⟩, hB.setCell (p := ⟨w.heap.size + 1, 0, none⟩) (by simp) _⟩
    · rename_i hx
      exact ⟨KeepsOthers.refl _, trivial, ⟨fun y hy => (List.mem_append.1 hy).elim (hpre y) (fun e => by simp at e; subst e; simpa using hx), hcw, hcr, hfr⟩, hB⟩
  case done =>
    rintro D ys W hD rfl ⟨⟨hne, hcw, hcr, hfr⟩, hB⟩ hK
    have hDW : D < W.heap.size := (Array.getElem?_eq_some_iff.1 hK).1
    have hwD : w.heap.size + 1 + 1 + 1 ≤ D := by simpa using hD
    clear hD c0 c1 c2 hB0
    gi_wp2
    rw [roundsIn_succ]
    gi_wp2_with (refine ⟨trivial, ?_⟩; gi_at_call 68; refine (callsIn_wide.2 (polysOf_any _ _)).mono ?_; rintro e w' ⟨rfl, rfl⟩)
    have c2 := cell_new_l W (.int .i64 2) 2
    have hB1 : Below w.heap.size w (W.alloc (.cells #[.int .i64 2] 2)) := hB.trans ((Below.refl _ W).alloc (by omega) _)
    refine wpIn_rangeFunc_ownF (α := PolyOf 2) rfl (by omega) (gf := 121) (lb := #[.pointer (some ⟨W.heap.size, 0, none⟩)]) rfl trivial (enters_of Try.func121 (by kernel_rfl) rfl)
      (polysOf_stops Fence.wide 8 trivial rfl (by omega) W.heap.size 2 4 (by omega) rfl _ c2.1 (by simp)) (fun _ _ => trivial) (fun _ _ _ _ _ _ _ _ => trivial) (Below.refl _ _) (fun _ => rfl)
      (fun pre W => ((∀ d ∈ pre, prest p d.1 ≠ 0) ∧ W.cell? ⟨w.heap.size, 0, none⟩ = some (.int .i64 p) ∧ W.cell? ⟨w.heap.size + 1, 0, none⟩ = some (.bool false) ∧ W.frozen? ⟨w.heap.size + 1, 0, none⟩ = false) ∧ (W.heap[D]? = some (.deferred (some [])) ∧ Below w.heap.size w W))
      (fun c pre W => (c = .ret ∧ (∃ d ∈ pre, prest p d.1 = 0) ∧ W.cell? ⟨w.heap.size + 1, 0, none⟩ = some (.bool false)) ∧ (W.heap[D]? = some (.deferred (some [])) ∧ Below w.heap.size w W))
      (OwnFrom.and (Own.from (fun s A B row hs hg hr => ⟨hs.1, cell_kept hs.2.1 hg hr, cell_kept hs.2.2.1 hg hr, (frozen_kept hs.2.2.1 hg hr).trans hs.2.2.2⟩) _) (OwnFrom.and (ownFrom_heap (by simp; omega)) (ownFrom_below (Nat.le_refl _) (by simp; omega))))
      (fun c => OwnFrom.and (Own.from (fun s A B row hs hg hr => ⟨hs.1, hs.2.1, cell_kept hs.2.2 hg hr⟩) _) (OwnFrom.and (ownFrom_heap (by simp; omega)) (ownFrom_below (Nat.le_refl _) (by simp; omega))))
      ⟨⟨by simp, cell_alloc_l _ hcw, cell_alloc_l _ hcr, frozen_alloc_l _ hcr hfr⟩, (KeepsOthers.alloc W _).same D _ hK rfl, hB1⟩
      (fun x => { tmps := #[.int .i64 p, .pointer (some ⟨w.heap.size, 0, none⟩), .pointer (some ⟨w.heap.size + 1, 0, none⟩), .int .i64 4, .int .i64 2, .int .i64 x.1, .int .i64 p, .int .i64 4, .int .i64 4, .bool false, .bool false, .int .i64 4, .bool false, .bool false, .int .i64 2, .int .i64 4, .int .i64 4, .bool true, .int .i64 1, .int .i64 2, .int .i64 2, .func (.func 121) #[] #[.pointer (some ⟨W.heap.size, 0, none⟩)], .int .i64 x.1, undef, undef, undef, undef], defers := [] }) ?assign2 ?body2 ?done2 ?stop2
    case assign2 =>
      intro l x W K hK
      gi_wp2
      exact hK
    case body2 =>
      rintro l pre x W ⟨⟨hpre, hcw, hcr, hfr⟩, hK, hB⟩ _
      have hx1 := x.2.1
      have hx2 := x.2.2
      gi_wp2_with (refine ⟨trivial, ?_⟩; gi_at_call 69; refine (CallsIn.inRound l (callsIn_wide.2 (polyRest_any _ _ (by omega) (by omega) (by omega) _))).mono ?_; rintro e w' ⟨rfl, rfl⟩)
      · rename_i hx
        exact ⟨KeepsOthers.setCell _ _ _, ⟨rfl, ⟨x, List.mem_append.2 (.inr (by simp)), by simpa using hx⟩, World.cell?_setCell_same' _ _ _ (by rw [hcr]; rfl)⟩, (KeepsOthers.setCell _ _ _).same D _ hK rfl, hB.setCell (p := ⟨w.heap.size + 1, 0, none⟩) (by simp) _⟩
      · rename_i hx
        exact ⟨KeepsOthers.refl _, trivial, ⟨fun y hy => (List.mem_append.1 hy).elim (hpre y) (fun e => by simp at e; subst e; simpa using hx), hcw, hcr, hfr⟩, hK, hB⟩
    case done2 =>
      rintro D2 ys W2 hD2 rfl ⟨⟨hne2, hcw, hcr, hfr⟩, hK, hB⟩ hK2
      have hDD : D ≠ D2 := by simp at hD2; omega
      gi_wp2
      rw [roundsIn_succ]
      gi_wp2
      have hK' := (KeepsOthers.setCell W2 ⟨w.heap.size + 1, 0, none⟩ (.bool true)).same D _ hK rfl
      have hK2' := (KeepsOthers.setCell W2 ⟨w.heap.size + 1, 0, none⟩ (.bool true)).same D2 _ hK2 rfl
      refine ⟨by simp, .inl ⟨_, _, rfl, run_takeDeferred hK2', ?_⟩⟩
      have hK'' := (World.putObj_heap_other (o := .deferred none) hDD).trans hK'
      refine ⟨by simp, .inl ⟨_, _, rfl, run_takeDeferred hK'', ?_⟩⟩
      have hc5 := cell_kept (World.cell?_setCell_same' W2 ⟨w.heap.size + 1, 0, none⟩ (.bool true) (by rw [hcr]; rfl)) (grownBy_putObj' _ D2 (.deferred none)) (fun r e => by cases e; exact ⟨_, hK2', rfl⟩)
      have hc6 := cell_kept hc5 (grownBy_putObj' _ D (.deferred none)) (fun r e => by cases e; exact ⟨_, hK'', rfl⟩)
      have hB2 := (hB.setCell (p := ⟨w.heap.size + 1, 0, none⟩) (by simp) (.bool true)).trans (belowK_b (w := w) (Nat.le_refl _) _ D2 _ (.deferred none) (by simp at hD2; omega) hK2' rfl rfl)
      refine ⟨.bool true, ?_, ret_bool (noDiv_yes (fun d h1 h2 => ?_)).symm, hB2.trans (belowK_b (w := w) (Nat.le_refl _) _ D _ _ (by omega) hK'' rfl rfl)⟩
      · simp [results, Try.f18, go_sem, hc6]
      · by_cases h4 : d < 4
        · exact hne ⟨d, by omega⟩ (polys_mem 2 (by omega) _ (by simp; omega))
        · exact hne2 ⟨d, by omega⟩ (polys_mem 4 (by omega) _ (by simp; omega))
    case stop2 =>
      rintro D2 c pre W2 hD2 hpre ⟨⟨rfl, hin, hcr⟩, hK, hB⟩ hK2
      have hDD : D ≠ D2 := by simp at hD2; omega
      gi_wp2
      refine ⟨by simp, .inl ⟨_, _, rfl, run_takeDeferred hK2, ?_⟩⟩
      have hK'' := (World.putObj_heap_other (o := .deferred none) hDD).trans hK
      refine ⟨by simp, .inl ⟨_, _, rfl, run_takeDeferred hK'', ?_⟩⟩
      have hc5 := cell_kept hcr (grownBy_putObj' _ D2 (.deferred none)) (fun r e => by cases e; exact ⟨_, hK2, rfl⟩)
      have hc6 := cell_kept hc5 (grownBy_putObj' _ D (.deferred none)) (fun r e => by cases e; exact ⟨_, hK'', rfl⟩)
      obtain ⟨d, _, hd0⟩ := hin
      have hB2 := hB.trans (belowK_b (w := w) (Nat.le_refl _) W2 D2 _ (.deferred none) (by simp at hD2; omega) hK2 rfl rfl)
      refine ⟨.bool false, ?_, ret_bool (noDiv_no (d := d.1) (by have := d.2.1; omega) (by have := d.2.2; omega) hd0).symm, hB2.trans (belowK_b (w := w) (Nat.le_refl _) _ D _ _ (by omega) hK'' rfl rfl)⟩
      simp [results, Try.f18, go_sem, hc6]
  case stop =>
    rintro D c pre W hD hpre ⟨⟨rfl, hin, hcr⟩, hB⟩ hK
    gi_wp2
    refine ⟨by simp, .inl ⟨_, _, rfl, run_takeDeferred hK, ?_⟩⟩
    have hc5 := cell_kept hcr (grownBy_putObj' _ D (.deferred none)) (fun r e => by cases e; exact ⟨_, hK, rfl⟩)
    obtain ⟨d, _, hd0⟩ := hin
    refine ⟨.bool false, ?_, ret_bool (noDiv_no (d := d.1) (by have := d.2.1; omega) (by have := d.2.2; omega) hd0).symm, hB.trans (belowK_b (w := w) (Nat.le_refl _) W D _ _ (by simp at hD; omega) hK rfl rfl)⟩
    simp [results, Try.f18, go_sem, hc5]
set_option maxRecDepth 100000 in
set_option maxHeartbeats 4000000 in
theorem isIrreducible_5 (p : Nat) (hp : p < 64) (hd : nb p = 6) (w : World) :
    CallsIn Fence.wide 9 Try.prog 18 #[.int .i64 p] w fun e W' => e = .returned (.bool (noDiv p 8)) ∧ Below w.heap.size w W' := by
  refine callsIn_of_wp_marks Try.func18 rfl trivial ?_ rfl
  simp only [Try.ntmps18, List.size_toArray, List.length_cons, List.length_nil, Nat.reduceAdd, Nat.reduceSub, Array.replicate_succ, Array.replicate_zero, List.push_toArray, List.append_toArray, List.nil_append, List.cons_append]
  gi_wp2_with (refine ⟨trivial, ?_⟩; gi_at_call 67; refine (callsIn_wide.2 (polyDegree_nat _ (by omega) _)).mono ?_; rintro e w' ⟨rfl, rfl⟩)
  refine wpIn_loop_rounds 3 ?_
  rw [roundsIn_succ]
  gi_wp2_with (refine ⟨trivial, ?_⟩; gi_at_call 68; refine (callsIn_wide.2 (polysOf_any _ _)).mono ?_; rintro e w' ⟨rfl, rfl⟩)
  have c0 := cell_new_l w (.int .i64 p) 2
  have c1 := cell_new_l (w.alloc (.cells #[.int .i64 p] 2)) (.bool false) 4
  have c2 := cell_new_l ((w.alloc (.cells #[.int .i64 p] 2)).alloc (.cells #[.bool false] 4)) (.int .i64 1) 2
  simp only [World.size_alloc] at c1 c2
  have hB0 : Below w.heap.size w (((w.alloc (.cells #[.int .i64 p] 2)).alloc (.cells #[.bool false] 4)).alloc (.cells #[.int .i64 1] 2)) := (((Below.refl _ w).alloc (Nat.le_refl _) _).alloc (by simp) _).alloc (by simp; omega) _
  refine wpIn_rangeFunc_ownF (α := PolyOf 1) rfl (by omega) (gf := 121) (lb := #[.pointer (some ⟨w.heap.size + 1 + 1, 0, none⟩)]) rfl trivial (enters_of Try.func121 (by kernel_rfl) rfl)
    (polysOf_stops Fence.wide 8 trivial rfl (by omega) (w.heap.size + 1 + 1) 1 2 (by omega) rfl _ c2.1 (by simp)) (fun _ _ => trivial) (fun _ _ _ _ _ _ _ _ => trivial) (Below.refl _ _) (fun _ => rfl)
    (fun pre W => ((∀ d ∈ pre, prest p d.1 ≠ 0) ∧ W.cell? ⟨w.heap.size, 0, none⟩ = some (.int .i64 p) ∧ W.cell? ⟨w.heap.size + 1, 0, none⟩ = some (.bool false) ∧ W.frozen? ⟨w.heap.size + 1, 0, none⟩ = false) ∧ Below w.heap.size w W)
    (fun c pre W => (c = .ret ∧ (∃ d ∈ pre, prest p d.1 = 0) ∧ W.cell? ⟨w.heap.size + 1, 0, none⟩ = some (.bool false)) ∧ Below w.heap.size w W)
    (OwnFrom.and (Own.from (fun s A B row hs hg hr => ⟨hs.1, cell_kept hs.2.1 hg hr, cell_kept hs.2.2.1 hg hr, (frozen_kept hs.2.2.1 hg hr).trans hs.2.2.2⟩) _) (ownFrom_below (Nat.le_refl _) (by simp; omega)))
    (fun c => OwnFrom.and (Own.from (fun s A B row hs hg hr => ⟨hs.1, hs.2.1, cell_kept hs.2.2 hg hr⟩) _) (ownFrom_below (Nat.le_refl _) (by simp; omega)))
    ⟨⟨by simp, cell_alloc_l _ (cell_alloc_l _ c0.1), cell_alloc_l _ c1.1, frozen_alloc_l _ c1.1 c1.2⟩, hB0⟩
    (fun x => { tmps := #[.int .i64 p, .pointer (some ⟨w.heap.size, 0, none⟩), .pointer (some ⟨w.heap.size + 1, 0, none⟩), .int .i64 5, .int .i64 1, .int .i64 x.1, .int .i64 p, .int .i64 5, .int .i64 5, .bool false, .bool false, .int .i64 5, .bool false, .bool false, .int .i64 1, .int .i64 2, .int .i64 5, .bool true, undef, undef, .int .i64 1, .func (.func 121) #[] #[.pointer (some ⟨w.heap.size + 1 + 1, 0, none⟩)], .int .i64 x.1, undef, undef, undef, undef], defers := [] }) ?assign ?body ?done ?stop
  case assign =>
    intro l x W K hK
    gi_wp2
    exact hK
  case body =>
    rintro l pre x W ⟨⟨hpre, hcw, hcr, hfr⟩, hB⟩ _
    have hx1 := x.2.1
    have hx2 := x.2.2
    gi_wp2_with (refine ⟨trivial, ?_⟩; gi_at_call 69; refine (CallsIn.inRound l (callsIn_wide.2 (polyRest_any _ _ (by omega) (by omega) (by omega) _))).mono ?_; rintro e w' ⟨rfl, rfl⟩)
    · rename_i hx
      exact ⟨KeepsOthers.setCell _ _ _, ⟨rfl, ⟨x, List.mem_append.2 (.inr (by simp)), by simpa using hx⟩, World.cell?_setCell_same' _ _ _ (by rw [hcr]; rfl)⟩, hB.setCell (p := ⟨w.heap.size + 1, 0, none⟩) (by simp) _⟩
    · rename_i hx
      exact ⟨KeepsOthers.refl _, trivial, ⟨fun y hy => (List.mem_append.1 hy).elim (hpre y) (fun e => by simp at e; subst e; simpa using hx), hcw, hcr, hfr⟩, hB⟩
  case done =>
    rintro D ys W hD rfl ⟨⟨hne, hcw, hcr, hfr⟩, hB⟩ hK
    have hDW : D < W.heap.size := (Array.getElem?_eq_some_iff.1 hK).1
    have hwD : w.heap.size + 1 + 1 + 1 ≤ D := by simpa using hD
    clear hD c0 c1 c2 hB0
    gi_wp2
    rw [roundsIn_succ]
    gi_wp2_with (refine ⟨trivial, ?_⟩; gi_at_call 68; refine (callsIn_wide.2 (polysOf_any _ _)).mono ?_; rintro e w' ⟨rfl, rfl⟩)
    have c2 := cell_new_l W (.int .i64 2) 2
    have hB1 : Below w.heap.size w (W.alloc (.cells #[.int .i64 2] 2)) := hB.trans ((Below.refl _ W).alloc (by omega) _)
    refine wpIn_rangeFunc_ownF (α := PolyOf 2) rfl (by omega) (gf := 121) (lb := #[.pointer (some ⟨W.heap.size, 0, none⟩)]) rfl trivial (enters_of Try.func121 (by kernel_rfl) rfl)
      (polysOf_stops Fence.wide 8 trivial rfl (by omega) W.heap.size 2 4 (by omega) rfl _ c2.1 (by simp)) (fun _ _ => trivial) (fun _ _ _ _ _ _ _ _ => trivial) (Below.refl _ _) (fun _ => rfl)
      (fun pre W => ((∀ d ∈ pre, prest p d.1 ≠ 0) ∧ W.cell? ⟨w.heap.size, 0, none⟩ = some (.int .i64 p) ∧ W.cell? ⟨w.heap.size + 1, 0, none⟩ = some (.bool false) ∧ W.frozen? ⟨w.heap.size + 1, 0, none⟩ = false) ∧ (W.heap[D]? = some (.deferred (some [])) ∧ Below w.heap.size w W))
      (fun c pre W => (c = .ret ∧ (∃ d ∈ pre, prest p d.1 = 0) ∧ W.cell? ⟨w.heap.size + 1, 0, none⟩ = some (.bool false)) ∧ (W.heap[D]? = some (.deferred (some [])) ∧ Below w.heap.size w W))
      (OwnFrom.and (Own.from (fun s A B row hs hg hr => ⟨hs.1, cell_kept hs.2.1 hg hr, cell_kept hs.2.2.1 hg hr, (frozen_kept hs.2.2.1 hg hr).trans hs.2.2.2⟩) _) (OwnFrom.and (ownFrom_heap (by simp; omega)) (ownFrom_below (Nat.le_refl _) (by simp; omega))))
      (fun c => OwnFrom.and (Own.from (fun s A B row hs hg hr => ⟨hs.1, hs.2.1, cell_kept hs.2.2 hg hr⟩) _) (OwnFrom.and (ownFrom_heap (by simp; omega)) (ownFrom_below (Nat.le_refl _) (by simp; omega))))
      ⟨⟨by simp, cell_alloc_l _ hcw, cell_alloc_l _ hcr, frozen_alloc_l _ hcr hfr⟩, (KeepsOthers.alloc W _).same D _ hK rfl, hB1⟩
      (fun x => { tmps := #[.int .i64 p, .pointer (some ⟨w.heap.size, 0, none⟩), .pointer (some ⟨w.heap.size + 1, 0, none⟩), .int .i64 5, .int .i64 2, .int .i64 x.1, .int .i64 p, .int .i64 5, .int .i64 5, .bool false, .bool false, .int .i64 5, .bool false, .bool false, .int .i64 2, .int .i64 4, .int .i64 5, .bool true, .int .i64 1, .int .i64 2, .int .i64 2, .func (.func 121) #[] #[.pointer (some ⟨W.heap.size, 0, none⟩)], .int .i64 x.1, undef, undef, undef, undef], defers := [] }) ?assign2 ?body2 ?done2 ?stop2
    case assign2 =>
      intro l x W K hK
      gi_wp2
      exact hK
    case body2 =>
      rintro l pre x W ⟨⟨hpre, hcw, hcr, hfr⟩, hK, hB⟩ _
      have hx1 := x.2.1
      have hx2 := x.2.2
      gi_wp2_with (refine ⟨trivial, ?_⟩; gi_at_call 69; refine (CallsIn.inRound l (callsIn_wide.2 (polyRest_any _ _ (by omega) (by omega) (by omega) _))).mono ?_; rintro e w' ⟨rfl, rfl⟩)
      · rename_i hx
        exact ⟨KeepsOthers.setCell _ _ _, ⟨rfl, ⟨x, List.mem_append.2 (.inr (by simp)), by simpa using hx⟩, World.cell?_setCell_same' _ _ _ (by rw [hcr]; rfl)⟩, (KeepsOthers.setCell _ _ _).same D _ hK rfl, hB.setCell (p := ⟨w.heap.size + 1, 0, none⟩) (by simp) _⟩
      · rename_i hx
        exact ⟨KeepsOthers.refl _, trivial, ⟨fun y hy => (List.mem_append.1 hy).elim (hpre y) (fun e => by simp at e; subst e; simpa using hx), hcw, hcr, hfr⟩, hK, hB⟩
    case done2 =>
      rintro D2 ys W2 hD2 rfl ⟨⟨hne2, hcw, hcr, hfr⟩, hK, hB⟩ hK2
      have hDD : D ≠ D2 := by simp at hD2; omega
      gi_wp2
      rw [roundsIn_succ]
      gi_wp2
      have hK' := (KeepsOthers.setCell W2 ⟨w.heap.size + 1, 0, none⟩ (.bool true)).same D _ hK rfl
      have hK2' := (KeepsOthers.setCell W2 ⟨w.heap.size + 1, 0, none⟩ (.bool true)).same D2 _ hK2 rfl
      refine ⟨by simp, .inl ⟨_, _, rfl, run_takeDeferred hK2', ?_⟩⟩
      have hK'' := (World.putObj_heap_other (o := .deferred none) hDD).trans hK'
      refine ⟨by simp, .inl ⟨_, _, rfl, run_takeDeferred hK'', ?_⟩⟩
      have hc5 := cell_kept (World.cell?_setCell_same' W2 ⟨w.heap.size + 1, 0, none⟩ (.bool true) (by rw [hcr]; rfl)) (grownBy_putObj' _ D2 (.deferred none)) (fun r e => by cases e; exact ⟨_, hK2', rfl⟩)
      have hc6 := cell_kept hc5 (grownBy_putObj' _ D (.deferred none)) (fun r e => by cases e; exact ⟨_, hK'', rfl⟩)
      have hB2 := (hB.setCell (p := ⟨w.heap.size + 1, 0, none⟩) (by simp) (.bool true)).trans (belowK_b (w := w) (Nat.le_refl _) _ D2 _ (.deferred none) (by simp at hD2; omega) hK2' rfl rfl)
      refine ⟨.bool true, ?_, ret_bool (noDiv_yes (fun d h1 h2 => ?_)).symm, hB2.trans (belowK_b (w := w) (Nat.le_refl _) _ D _ _ (by omega) hK'' rfl rfl)⟩
      · simp [results, Try.f18, go_sem, hc6]
      · by_cases h4 : d < 4
        · exact hne ⟨d, by omega⟩ (polys_mem 2 (by omega) _ (by simp; omega))
        · exact hne2 ⟨d, by omega⟩ (polys_mem 4 (by omega) _ (by simp; omega))
    case stop2 =>
      rintro D2 c pre W2 hD2 hpre ⟨⟨rfl, hin, hcr⟩, hK, hB⟩ hK2
      have hDD : D ≠ D2 := by simp at hD2; omega
      gi_wp2
      refine ⟨by simp, .inl ⟨_, _, rfl, run_takeDeferred hK2, ?_⟩⟩
      have hK'' := (World.putObj_heap_other (o := .deferred none) hDD).trans hK
      refine ⟨by simp, .inl ⟨_, _, rfl, run_takeDeferred hK'', ?_⟩⟩
      have hc5 := cell_kept hcr (grownBy_putObj' _ D2 (.deferred none)) (fun r e => by cases e; exact ⟨_, hK2, rfl⟩)
      have hc6 := cell_kept hc5 (grownBy_putObj' _ D (.deferred none)) (fun r e => by cases e; exact ⟨_, hK'', rfl⟩)
      obtain ⟨d, _, hd0⟩ := hin
      have hB2 := hB.trans (belowK_b (w := w) (Nat.le_refl _) W2 D2 _ (.deferred none) (by simp at hD2; omega) hK2 rfl rfl)
      refine ⟨.bool false, ?_, ret_bool (noDiv_no (d := d.1) (by have := d.2.1; omega) (by have := d.2.2; omega) hd0).symm, hB2.trans (belowK_b (w := w) (Nat.le_refl _) _ D _ _ (by omega) hK'' rfl rfl)⟩
      simp [results, Try.f18, go_sem, hc6]
  case stop =>
    rintro D c pre W hD hpre ⟨⟨rfl, hin, hcr⟩, hB⟩ hK
    gi_wp2
    refine ⟨by simp, .inl ⟨_, _, rfl, run_takeDeferred hK, ?_⟩⟩
    have hc5 := cell_kept hcr (grownBy_putObj' _ D (.deferred none)) (fun r e => by cases e; exact ⟨_, hK, rfl⟩)
    obtain ⟨d, _, hd0⟩ := hin
    refine ⟨.bool false, ?_, ret_bool (noDiv_no (d := d.1) (by have := d.2.1; omega) (by have := d.2.2; omega) hd0).symm, hB.trans (belowK_b (w := w) (Nat.le_refl _) W D _ _ (by simp at hD; omega) hK rfl rfl)⟩
    simp [results, Try.f18, go_sem, hc5]

/-- How a number that may be negative counts: its bits as an unsigned number. -/
theorem nb_neg {p : Int} (h : p < 0) (hl : -9223372036854775808 ≤ p) : 63 < nb (p % 18446744073709551616).toNat := by
  have h1 : 2 ^ 63 ≤ (p % 18446744073709551616).toNat := by omega
  rcases Nat.lt_or_ge 63 (nb (p % 18446744073709551616).toNat) with h2 | h2
  · exact h2
  · have := nb_lt (p := (p % 18446744073709551616).toNat)
    have : 2 ^ nb (p % 18446744073709551616).toNat ≤ 2 ^ 63 := Nat.pow_le_pow_right (by omega) h2
    omega
theorem nb_big {p : Nat} (h : 64 ≤ p) : 6 < nb p := by
  rcases Nat.lt_or_ge 6 (nb p) with h2 | h2
  · exact h2
  · have := nb_lt (p := p)
    have : 2 ^ nb p ≤ 2 ^ 6 := Nat.pow_le_pow_right (by omega) h2
    omega

set_option maxRecDepth 100000 in
set_option maxHeartbeats 2000000 in
theorem isIrreducible_no (p : Int) (hl : -9223372036854775808 ≤ p) (hh : p ≤ 9223372036854775807) (hd : nb (p % 18446744073709551616).toNat < 2 ∨ 6 < nb (p % 18446744073709551616).toNat) (w : World) :
    CallsIn Fence.wide 9 Try.prog 18 #[.int .i64 p] w fun e W' => e = .returned (.bool false) ∧ Below w.heap.size w W' := by
  have hn := polyDegree_any p hl hh
  have hb : nb (p % 18446744073709551616).toNat ≤ 64 := nb_le_of_lt (by omega)
  generalize nb (p % 18446744073709551616).toNat = k at hd hb hn
  have HN := Lib.hid hn
  clear hn
  rcases hd with hd | hd
  · have g1 : decide ((k : Int) - 1 < 1) = true := by simp; omega
    refine callsIn_of_wp_marks Try.func18 rfl trivial ?_ rfl
    simp only [Try.ntmps18, List.size_toArray, List.length_cons, List.length_nil, Nat.reduceAdd, Nat.reduceSub, Array.replicate_succ, Array.replicate_zero, List.push_toArray, List.append_toArray, List.nil_append, List.cons_append]
    gi_wp2_with (refine ⟨trivial, ?_⟩; gi_at_call 67; refine (callsIn_wide.2 (HN.out _)).mono ?_; rintro e w' ⟨rfl, rfl⟩)
    refine ⟨.bool false, ?_, rfl, ((Below.refl _ w).alloc (Nat.le_refl _) _).alloc (by simp) _⟩
    simp [results, Try.f18, go_sem]
  · have g1 : decide ((k : Int) - 1 < 1) = false := by simp; omega
    have g2 : decide (5 < (k : Int) - 1) = true := by simp; omega
    refine callsIn_of_wp_marks Try.func18 rfl trivial ?_ rfl
    simp only [Try.ntmps18, List.size_toArray, List.length_cons, List.length_nil, Nat.reduceAdd, Nat.reduceSub, Array.replicate_succ, Array.replicate_zero, List.push_toArray, List.append_toArray, List.nil_append, List.cons_append]
    gi_wp2_with (refine ⟨trivial, ?_⟩; gi_at_call 67; refine (callsIn_wide.2 (HN.out _)).mono ?_; rintro e w' ⟨rfl, rfl⟩)
    refine ⟨.bool false, ?_, rfl, ((Below.refl _ w).alloc (Nat.le_refl _) _).alloc (by simp) _⟩
    simp [results, Try.f18, go_sem]

/-- IsIrreducible, at every number. -/
theorem isIrreducible_any (p : Int) (hl : -9223372036854775808 ≤ p) (hh : p ≤ 9223372036854775807) (w : World) :
    Calls Try.prog 18 #[.int .i64 p] w fun e W' => e = .returned (.bool (irrI p)) ∧ Below w.heap.size w W' := by
  by_cases h0 : 0 ≤ p
  · obtain ⟨n, rfl⟩ := Int.eq_ofNat_of_zero_le h0
    have e0 : ((n : Int) % 18446744073709551616).toNat = n := by omega
    by_cases h64 : n < 64
    · have hb : nb n ≤ 6 := nb_le_of_lt (by omega)
      have hi : irrI (n : Int) = irr n := by
        unfold irrI
        rw [decide_eq_true (p := ((n : Int) < 64)) (by omega)]
        by_cases hn : n = 0
        · subst hn; rfl
        · rw [decide_eq_true (p := (0 < (n : Int))) (by omega)]; simp
      rw [hi]
      rcases Nat.lt_or_ge (nb n) 2 with h2 | h2
      · rw [irr_false_of_nb (.inl h2)]
        exact callsIn_wide.1 (isIrreducible_no n hl hh (.inl (by rw [e0]; exact h2)) w)
      · have : nb n = 2 ∨ nb n = 3 ∨ nb n = 4 ∨ nb n = 5 ∨ nb n = 6 := by omega
        rcases this with h | h | h | h | h
        · rw [irr_d1 ⟨n, h64⟩ h]; exact callsIn_wide.1 (isIrreducible_1 n h64 h w)
        · rw [irr_d2 ⟨n, h64⟩ h]; exact callsIn_wide.1 (isIrreducible_2 n h64 h w)
        · rw [irr_d3 ⟨n, h64⟩ h]; exact callsIn_wide.1 (isIrreducible_3 n h64 h w)
        · rw [irr_d4 ⟨n, h64⟩ h]; exact callsIn_wide.1 (isIrreducible_4 n h64 h w)
        · rw [irr_d5 ⟨n, h64⟩ h]; exact callsIn_wide.1 (isIrreducible_5 n h64 h w)
    · have hi : irrI (n : Int) = false := by
        unfold irrI
        rw [decide_eq_false (p := ((n : Int) < 64)) (by omega)]; simp
      rw [hi]
      exact callsIn_wide.1 (isIrreducible_no n hl hh (.inr (by rw [e0]; exact nb_big (by omega))) w)
  · have hi : irrI p = false := by
      unfold irrI
      rw [decide_eq_false (p := (0 < p)) (by omega)]; simp
    rw [hi]
    exact callsIn_wide.1 (isIrreducible_no p hl hh (.inr (by have := nb_neg (p := p) (by omega) hl; omega)) w)

end Go.Proofs.Ytlchelaohiojiaa
namespace Go.Proofs.Ytlchelaohiojiaa
open Go.RowKit
set_option linter.unusedVariables false

theorem bcell {W w1 : World} (hb : Below W.heap.size W w1) : (∀ b o, b < W.heap.size → w1.cell? ⟨b, o, none⟩ = W.cell? ⟨b, o, none⟩) ∧ (∀ b o, b < W.heap.size → w1.frozen? ⟨b, o, none⟩ = W.frozen? ⟨b, o, none⟩) :=
  ⟨fun b o h => hb.cell (p := ⟨b, o, none⟩) h, fun b o h => hb.frozen (p := ⟨b, o, none⟩) h⟩

/-- Whether a degree and a polynomial are a field. -/
def fldI (d p : Int) : Bool := irrI p && decide ((nb p.toNat : Int) - 1 = d)
theorem irrI_nat {p : Int} (h : irrI p = true) : ∃ n : Nat, p = n ∧ irr n = true ∧ n < 64 := by
  unfold irrI at h
  simp at h
  exact ⟨p.toNat, by omega, h.2, by omega⟩
theorem fldI_nat {d p : Int} (h : fldI d p = true) : ∃ m P : Nat, d = m ∧ p = P ∧ fld m P = true := by
  unfold fldI at h
  simp only [Bool.and_eq_true, decide_eq_true_eq] at h
  obtain ⟨n, rfl, hi, hn⟩ := irrI_nat h.1
  have hb := irr_nb hi
  refine ⟨nb n - 1, n, ?_, rfl, ?_⟩
  · have := h.2; simp at this; omega
  · unfold fld; rw [hi]; simp; omega
theorem fldI_of {m P : Nat} (h : fld m P = true) : fldI m P = true := by
  have h1 := fld_irr h
  have h2 := fld_nb h
  have h3 := irr_lt h1
  unfold fldI irrI
  simp [h1]; omega

theorem specIsIrreducible_eq (p : Int) (b : Bool) (h : irrI p = b) (w : World) :
    Calls Try.prog 129 #[.int .i64 p] w fun e w' => e = .returned (.bool b) ∧ w = w' := by
  rw [← h]; exact specIsIrreducible_any p w

set_option maxHeartbeats 400000 in
theorem l01Ok_in (d p : Int) (w : World) :
    Calls Try.prog 75 #[.agg #[.int .i64 d, .int .i64 p]] w fun e w' => e = .returned (.bool (fldI d p)) ∧ Below w.heap.size w w' := by
  by_cases h1 : 1 ≤ d ∧ d ≤ 5
  · obtain ⟨h1, h2⟩ := h1
    cases hi : irrI p with
    | false =>
      have HF := Lib.hid (show fldI d p = false by unfold fldI; rw [hi]; rfl)
      have HI := Lib.hid hi
      clear hi
      go_enter Try.func75, Try.ntmps75
      go_wp2
      go_quiet ((first | (go_at_call 96; exact quiet_of_eq (l00In_yes _ _ _ h1 h2 _)) | (go_at_call 129; exact quiet_of_eq (specIsIrreducible_eq _ _ HI.out _)) | (go_at_call 130; exact quiet_of_eq (l01Degree_any _ (by omega) _))))
      go_wp2
      go_ret
      exact ⟨ret_bool HF.out.symm, below_drewN ((Below.refl _ w).alloc (Nat.le_refl _) _) _⟩
    | true =>
      obtain ⟨n, rfl, hn, hlt⟩ := irrI_nat hi
      have hb := irr_nb hn
      have HF := Lib.hid (show fldI d n = decide ((nb n : Int) - 1 = d) by unfold fldI; rw [hi]; simp)
      have HI := Lib.hid hi
      clear hi hn
      go_enter Try.func75, Try.ntmps75
      go_wp2
      go_quiet ((first | (go_at_call 96; exact quiet_of_eq (l00In_yes _ _ _ h1 h2 _)) | (go_at_call 129; exact quiet_of_eq (specIsIrreducible_eq _ _ HI.out _)) | (go_at_call 130; exact quiet_of_eq (l01Degree_any _ (by omega) _))))
      go_wp2
      go_ret
      exact ⟨ret_bool (by rw [HF.out]; exact Bool.eq_iff_iff.2 (by simp)), below_drewN ((Below.refl _ w).alloc (Nat.le_refl _) _) _⟩
  · have HF := Lib.hid (show fldI d p = false by
      cases hf : fldI d p with
      | false => rfl
      | true => obtain ⟨m, P, hm, _, hq⟩ := fldI_nat hf
                have := fld_deg hq
                omega)
    have HI := Lib.hid (show irrI p = irrI p from rfl)
    go_enter Try.func75, Try.ntmps75
    go_wp2
    go_quiet ((first | (go_at_call 96; exact quiet_of_eq (l00In_no _ _ _ (by omega) _)) | (go_at_call 129; exact quiet_of_eq (specIsIrreducible_eq _ _ HI.out _)) | (go_at_call 130; exact quiet_of_eq (l01Degree_any _ (by omega) _))))
    go_wp2
    go_ret
    exact ⟨ret_bool HF.out.symm, below_drewN ((Below.refl _ w).alloc (Nat.le_refl _) _) _⟩

end Go.Proofs.Ytlchelaohiojiaa
namespace Go.Proofs.Ytlchelaohiojiaa
open Go.RowKit
set_option linter.unusedVariables false

theorem isIrreducible_eq (p : Int) (b : Bool) (h : irrI p = b) (hl : -9223372036854775808 ≤ p) (hh : p ≤ 9223372036854775807) (w : World) :
    Calls Try.prog 18 #[.int .i64 p] w fun e W' => e = .returned (.bool b) ∧ Below w.heap.size w W' := by
  rw [← h]; exact isIrreducible_any p hl hh w

set_option maxHeartbeats 1000000 in
theorem validField_any (d p : Int) (hl : -9223372036854775808 ≤ p) (hh : p ≤ 9223372036854775807) (w : World) :
    Calls Try.prog 17 #[.agg #[.int .i64 d, .int .i64 p]] w fun e w' => e = .returned (.bool (fldI d p)) ∧ Below w.heap.size w w' := by
  cases hi : irrI p with
  | false =>
    have HF := Lib.hid (show fldI d p = false by unfold fldI; rw [hi]; rfl)
    have HI := Lib.hid hi
    clear hi
    go_enter Try.func17, Try.ntmps17
    go_wp2
    refine wp_region_any (by kernel_rfl) ?_
    change wpAny _ _ _ _ _ _ _ (World.drew _)
    refine wpAny_take (i := 0) (v := .pointer (some ⟨w.heap.size, 1, none⟩)) rfl (by kernel_rfl) (by kernel_rfl) (by kernel_rfl) (fun _ _ _ h => h) (Or.inl ⟨rfl, fun w => by go_simp⟩) ?_
    refine wpAny_ready (rs := [1]) (by kernel_rfl) (by simp) ?_
    refine AllReady.cons rfl (fun K hK => ?_) AllReady.nil
    go_simp
    refine hK _ _ ?_
    clear hK K
    refine wpAny_ready (rs := [2]) (by kernel_rfl) (by simp) ?_
    refine AllReady.cons rfl (fun K hK => ?_) AllReady.nil
    go_simp
    refine (isIrreducible_eq _ _ HI.out hl hh _).mono ?_
    rintro e w1 ⟨rfl, hb1⟩
    refine hK _ _ ?_
    clear hK K
    refine wpAny_take (i := 3) (v := .bool false) rfl (by kernel_rfl) (by kernel_rfl) (by kernel_rfl) (fun _ _ _ h => h) (Or.inl ⟨rfl, fun w => by go_simp⟩) ?_
    try simp only [Act.put, List.setIfInBounds_toArray]
    refine wpAny_take (i := 4) (v := undef) rfl (by kernel_rfl) (by kernel_rfl) (by kernel_rfl) (fun _ _ _ h => h) (Or.inr ⟨rfl, rfl⟩) ?_
    try simp only [Act.put]
    refine wpAny_take (i := 5) (v := undef) rfl (by kernel_rfl) (by kernel_rfl) (by kernel_rfl) (fun _ _ _ h => h) (Or.inr ⟨rfl, rfl⟩) ?_
    try simp only [Act.put]
    refine wpAny_take (i := 6) (v := undef) rfl (by kernel_rfl) (by kernel_rfl) (by kernel_rfl) (fun _ _ _ h => h) (Or.inr ⟨rfl, rfl⟩) ?_
    try simp only [Act.put]
    refine wpAny_take (i := 7) (v := undef) rfl (by kernel_rfl) (by kernel_rfl) (by kernel_rfl) (fun _ _ _ h => h) (Or.inr ⟨rfl, rfl⟩) ?_
    try simp only [Act.put]
    refine wpAny_take (i := 8) (v := undef) rfl (by kernel_rfl) (by kernel_rfl) (by kernel_rfl) (fun _ _ _ h => h) (Or.inr ⟨rfl, rfl⟩) ?_
    try simp only [Act.put]
    refine wpAny_take (i := 9) (v := undef) rfl (by kernel_rfl) (by kernel_rfl) (by kernel_rfl) (fun _ _ _ h => h) (Or.inr ⟨rfl, rfl⟩) ?_
    try simp only [Act.put]
    refine wpAny_ready (rs := [10]) (by kernel_rfl) (by simp) ?_
    refine AllReady.cons rfl (fun K hK => ?_) AllReady.nil
    go_simp
    refine hK _ _ ?_
    clear hK K
    refine wpAny_ready (rs := [11]) (by kernel_rfl) (by simp) ?_
    refine AllReady.cons rfl (fun K hK => ?_) AllReady.nil
    go_simp
    refine hK _ _ ?_
    clear hK K
    refine wpAny_done (by kernel_rfl) ?_ _
    go_wp2
    go_ret
    exact ⟨ret_bool HF.out.symm, (((Below.refl _ w).alloc (Nat.le_refl _) _).drew).trans (hb1.mono (by simp))⟩
  | true =>
    obtain ⟨n, rfl, hn, hlt⟩ := irrI_nat hi
    have hb := irr_nb hn
    have HF := Lib.hid (show fldI d n = decide ((nb n : Int) - 1 = d) by unfold fldI; rw [hi]; simp)
    have HI := Lib.hid hi
    clear hi hn
    go_enter Try.func17, Try.ntmps17
    go_wp2
    go_region_held3 (fun w' => w'.cell? ⟨w.heap.size, 0, none⟩ = some (.int .i64 d) ∧ w'.cell? ⟨w.heap.size, 1, none⟩ = some (.int .i64 n) ∧ Below w.heap.size w w') (first | exact ⟨by simp, by simp, ((Below.refl _ w).alloc (Nat.le_refl _) _).drew⟩ | exact ⟨by assumption, by assumption, by assumption⟩) (first | (go_at_call 18; refine (isIrreducible_eq _ _ HI.out hl hh _).mono ?_; rintro e w1 ⟨rfl, hb1⟩; have g1 : w1.cell? ⟨w.heap.size, 0, none⟩ = some (.int .i64 d) := (hb1.cell (p := ⟨w.heap.size, 0, none⟩) (by simp)).trans (by simp); have g2 : w1.cell? ⟨w.heap.size, 1, none⟩ = some (.int .i64 n) := (hb1.cell (p := ⟨w.heap.size, 1, none⟩) (by simp)).trans (by simp); have g3 : Below w.heap.size w w1 := (((Below.refl _ w).alloc (Nat.le_refl _) _).drew).trans (hb1.mono (by simp)); clear hb1) | (go_at_call 67; refine (polyDegree_nat _ (by omega) _).mono ?_; rintro e w1 ⟨rfl, rfl⟩))
    all_goals go_wp2
    all_goals go_ret
    all_goals exact ⟨ret_bool (by rw [HF.out]; exact Bool.eq_iff_iff.2 (by simp; omega)), by assumption⟩
end Go.Proofs.Ytlchelaohiojiaa
