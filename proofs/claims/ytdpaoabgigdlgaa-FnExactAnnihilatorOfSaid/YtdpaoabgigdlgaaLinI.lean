/- The program's lists of coefficients: without zeros at the end, as numbers, values. -/
import Derived.Test.YtdpaoabgigdlgaaWr
import Derived.Test.YtdpaoabgigdlgaaPolyPure
import Derived.Test.YtdpaoabgigdlgaaSqr
namespace Go.Proofs.Ytdpaoabgigdlgaa
open Go.RowKit Go.Joins
set_option linter.unusedVariables false

set_option maxHeartbeats 1600000 in
theorem trimmed_any (A : Option Addr) (n cap : Nat) (f : Nat → Nat) (hn : n ≤ cap) (hcap : cap ≤ 2097152) (w : World) (h : 0 < n → ∃ g, A = some ⟨g, 0, none⟩ ∧ ∀ j, j < n → w.cell? ⟨g, j, none⟩ = some (.int .u8 (f j : Nat))) :
    Calls Try.prog 78 #[.slice A n cap] w fun e w' => e = .returned (.slice A (tl f n) cap) ∧ w = w' := by
  have HH := Lib.hid h
  clear h
  go_enter Try.func78, Try.ntmps78
  go_wp2
  go_loop [0] (fun s => ∃ k : Nat, k ≤ n ∧ s = .slice A k cap ∧ Hid (tl f k = tl f n)) (fun s => match s with | .slice _ k _ => k | _ => 0)
  case atStart => exact ⟨n, Nat.le_refl _, rfl, Lib.hid rfl⟩
  case round =>
    obtain ⟨k, hk, rfl, HT⟩ := hrel
    cases k with
    | zero =>
      go_wp2
      go_ret
      exact ⟨by rw [← HT.out]; rfl, rfl⟩
    | succ k =>
      obtain ⟨g, rfl, hc⟩ := HH.out (by omega)
      have hck := hc k (by omega)
      clear hc
      obtain ⟨x, hx⟩ : ∃ x, f k = x := ⟨_, rfl⟩
      rw [hx] at hck
      have HX := Lib.hid hx
      clear hx
      by_cases h0 : x = 0
      · subst h0
        go_wp2
        go_round
        case rel => exact ⟨k, by omega, by first | rfl | simp, Lib.hid (by rw [← HT.out]; simp only [tl]; rw [if_pos HX.out])⟩
        case measure => simp
      · go_wp2
        go_ret
        exact ⟨by rw [← HT.out]; simp only [tl]; rw [if_neg (by rw [HX.out]; exact h0)]; rfl, rfl⟩

set_option maxHeartbeats 1600000 in
theorem numbers_any (A : Option Addr) (n cap : Nat) (p : List Nat) (hn : n ≤ 1048576) (hp : ∀ j, nth p j < 256) (w : World) (hR : Rl w .u8 A n p) :
    Calls Try.prog 55 #[.slice A n cap] w fun e w' => ∃ b, e = .returned (.slice (some ⟨b, 0, none⟩) n n) ∧ w.heap.size ≤ b ∧ Below w.heap.size w w' ∧ Mt w' b n (ints p) := by
  obtain ⟨i0, hi, hz0, hz1, hz2⟩ := info_parts Try.infoI
  have HP := Lib.hid hp
  have HR := Lib.hid hR
  clear hp hR
  go_enter Try.func55, Try.ntmps55
  go_wp2_with (at_make; refine wpList_make_full _ rfl _ _ 24 rfl w.heap.size 2 i0 (.int .i64 0) 1 Try.underlying24 hi hz0 hz1 .i64 .i64 _ _ n rfl rfl rfl rfl (by rw [hz2]; omega) (by unfold maxLen; omega) (Nat.le_refl _) ?_; intro w1 hown hgrow)
  have hb1 : Below w.heap.size w w1 := (Below.refl _ w).grown hgrow (Nat.le_refl _) (fun k h => by cases h)
  have HW := Lib.hid (Wr.made (K := .i64) hown)
  have HB := Lib.hid hb1
  clear hown hgrow hz0 hz1 hz2 hi hb1
  go_loopw [11] (fun i wr => ∃ (k : Nat) (F : Nat → Nat), k ≤ n ∧ i = .int .i64 k ∧ Below w.heap.size w wr ∧ Wr wr .i64 w.heap.size n F ∧ Hid (∀ j, j < k → F j = nth p j)) (fun i _ => n - (intOf i).toNat)
  case atStart => exact ⟨0, _, Nat.zero_le _, rfl, HB.out, HW.out, Lib.hid (fun j hj => by omega)⟩
  case round =>
    obtain ⟨k, F, hk, rfl, hb, hW, HI⟩ := hrel
    clear HW HB
    by_cases hlt : k < n
    · obtain ⟨g, rfl, hg, hc⟩ := (HR.out.below hb).row (by omega)
      have hck := hc k hlt
      clear hc
      have hx := HP.out k
      obtain ⟨x, hxe⟩ : ∃ x, nth p k = x := ⟨_, rfl⟩
      rw [hxe] at hck hx
      have HX := Lib.hid hxe
      clear hxe
      have hcw := hW.cell k hlt
      have hfw := hW.free k
      have e1 : IntKind.i64.wrap (x : Int) = x := wrapNat x (by omega)
      have HB2 := Lib.hid hb
      have HW2 := Lib.hid hW
      clear hb hW
      go_wp2
      go_roundw
      case rel => exact ⟨k + 1, _, by omega, by go_num, below_set HB2.out _ _ (Nat.le_refl _) _, HW2.out.set k hlt x, Lib.hid (fun j hj => by
        simp only [put]
        by_cases e : j = k
        · subst e; rw [if_pos rfl, HX.out]
        · rw [if_neg e]; exact HI.out j (by omega))⟩
      case measure => simp [intOf]; omega
    · obtain rfl : k = n := by omega
      have HB2 := Lib.hid hb
      have HW2 := Lib.hid hW
      clear hb hW
      go_wp2
      go_ret
      refine ⟨_, rfl, Nat.le_refl _, HB2.out, ?_⟩
      have h1 := HW2.out.mt hn
      rwa [show lst F k = p from nth_ext (by rw [lst_length]; exact HR.out.len.symm) fun j hj => by rw [lst_length] at hj; rw [lst_nth _ hj]; exact HI.out j hj] at h1

set_option maxHeartbeats 1600000 in
theorem value_any (c m P n : Nat) (hF : Fld m P n) (A : Option Addr) (k cap : Nat) (p : List Nat) (hp : ∀ j, nth p j < n) (x : Nat) (hx : x < n) (hk : k ≤ 1048577) (w : World) (hC : Calc c m P n w) (hR : Rl w .u8 A k p) :
    Calls Try.prog 52 #[.pointer (some ⟨c, 0, none⟩), .slice A k cap, .int .u8 x] w fun e w' => e = .returned (.int .u8 (vl P p x)) ∧ w = w' := by
  have h32 := hF.n32
  have HP := Lib.hid hp
  have HR := Lib.hid hR
  clear hp hR
  obtain ⟨r, hr⟩ : ∃ r, vl P p x = r := ⟨_, rfl⟩
  rw [hr]
  have HV := Lib.hid hr
  clear hr
  go_enter Try.func52, Try.ntmps52
  go_wp2
  go_loop [2, 7, 12] (fun y s i => ∃ j a b : Nat, j ≤ k ∧ i = .int .i64 j ∧ y = .int .u8 a ∧ s = .int .u8 b ∧ a < n ∧ b < n ∧ Hid (a = sq P x j) ∧ Hid (b = vlk P p x j)) (fun _ _ i => k - (intOf i).toNat)
  case atStart => exact ⟨0, x, 0, Nat.zero_le _, rfl, rfl, rfl, hx, by omega, Lib.hid rfl, Lib.hid rfl⟩
  case round =>
    obtain ⟨j, a, b, hj, rfl, rfl, rfl, ha, hb, HA, HS⟩ := hrel
    by_cases hlt : j < k
    · obtain ⟨g, rfl, hg, hc⟩ := HR.out.row (by omega)
      have hck := hc j hlt
      clear hc
      have hq := HP.out j
      obtain ⟨q, hqe⟩ : ∃ q, nth p j = q := ⟨_, rfl⟩
      rw [hqe] at hck hq
      have HQ := Lib.hid hqe
      clear hqe
      have hm := hF.mul_lt q a
      have hsq := hF.mul_lt a a
      go_wp2_with (first | (go_at_call 100; refine (product_any c m P n hF _ _ hq ha _ hC).mono ?_; rintro e w' ⟨rfl, rfl⟩) | (go_at_call 99; refine (plus_any _ _ (by omega) (by omega) _).mono ?_; rintro e w' ⟨rfl, rfl⟩) | (go_at_call 77; refine (squared_any c m P n hF _ ha 1 (by omega) _ hC).mono ?_; rintro e w' ⟨rfl, rfl⟩))
      go_round
      case rel => exact ⟨j + 1, _, _, by omega, by go_num, rfl, rfl, sq_lt hF ha 1, hF.xor_lt hb hm, Lib.hid (by rw [HA.out]; rfl), Lib.hid (by rw [HS.out, ← HQ.out, HA.out]; rfl)⟩
      case measure => simp [intOf]; omega
    · obtain rfl : j = k := by omega
      go_wp2
      go_ret
      exact ⟨ret_int (by rw [← HV.out, HS.out, vl, HR.out.len]), rfl⟩

set_option maxHeartbeats 800000 in
theorem timesInside_any (c m P n : Nat) (hF : Fld m P n) (a b i j : Nat) (ha : a < n) (hb : b < n) (hi : i ≤ 1000000) (w : World) (hC : Calc c m P n w) :
    Calls Try.prog 101 #[.pointer (some ⟨c, 0, none⟩), .int .u8 a, .int .u8 b, .int .i64 i, .int .i64 j] w fun e w' => e = .returned (.int .u8 (mul P a (sq P b i))) ∧ w = w' := by
  have hs := sq_lt hF hb i
  go_enter Try.func101, Try.ntmps101
  go_wp2_with (first | (go_at_call 77; refine (squared_any c m P n hF _ hb _ hi _ hC).mono ?_; rintro e w' ⟨rfl, rfl⟩) | (go_at_call 100; refine (product_any c m P n hF _ _ ha hs _ hC).mono ?_; rintro e w' ⟨rfl, rfl⟩))
  go_ret
  exact ⟨rfl, rfl⟩
end Go.Proofs.Ytdpaoabgigdlgaa
