/- The program's calculator: its small methods. · The program's calculator: its table of products. · The program's calculator: its table is filled. -/
import Derived.Test.YtlchelaohiojiaaImplField
import Derived.Test.YtlchelaohiojiaaFld
namespace Go.Proofs.Ytlchelaohiojiaa
open Go.RowKit
set_option linter.unusedVariables false

set_option maxHeartbeats 400000 in
theorem size_any (c m P n : Nat) (hF : Fld m P n) (w : World) (hc : w.cell? ⟨c, 0, none⟩ = some (.int .i64 m)) :
    Calls Try.prog 114 #[.pointer (some ⟨c, 0, none⟩)] w fun e w' => e = .returned (.int .i64 n) ∧ w = w' := by
  have HP := Lib.hid hF.pow
  have h5 := hF.m5
  go_enter Try.func114, Try.ntmps114
  go_wp2
  go_ret
  exact ⟨ret_int HP.out, rfl⟩

set_option maxHeartbeats 400000 in
theorem has_yes (c m P n : Nat) (hF : Fld m P n) (a : Int) (h0 : 0 ≤ a) (h1 : a < n) (w : World) (hc : w.cell? ⟨c, 0, none⟩ = some (.int .i64 m)) :
    Calls Try.prog 123 #[.pointer (some ⟨c, 0, none⟩), .int .i64 a] w fun e w' => e = .returned (.bool true) ∧ w = w' := by
  go_enter Try.func123, Try.ntmps123
  go_wp2_with (go_at_call 114; refine (size_any _ _ _ _ hF _ hc).mono ?_; rintro e w' ⟨rfl, rfl⟩)
  go_ret
  exact ⟨ret_bool (by first | rfl | (simp; done) | (simp; omega)), rfl⟩

set_option maxHeartbeats 400000 in
theorem has_no (c m P n : Nat) (hF : Fld m P n) (a : Int) (h : a < 0 ∨ (n : Int) ≤ a) (w : World) (hc : w.cell? ⟨c, 0, none⟩ = some (.int .i64 m)) :
    Calls Try.prog 123 #[.pointer (some ⟨c, 0, none⟩), .int .i64 a] w fun e w' => e = .returned (.bool false) ∧ w = w' := by
  by_cases h0 : 0 ≤ a
  · have h1 : (n : Int) ≤ a := by omega
    go_enter Try.func123, Try.ntmps123
    go_wp2_with (go_at_call 114; refine (size_any _ _ _ _ hF _ hc).mono ?_; rintro e w' ⟨rfl, rfl⟩)
    go_ret
    exact ⟨ret_bool (by first | rfl | (simp; done) | (simp; omega)), rfl⟩
  · have h1 : a < 0 := by omega
    have g : decide (0 ≤ a) = false := by simp; omega
    go_enter Try.func123, Try.ntmps123
    go_wp2
    go_ret
    exact ⟨ret_bool (by first | rfl | (simp; done) | (simp; omega)), rfl⟩

theorem mul_bits (p q k : Nat) (hp : p < 1024) (hk : k ≤ 5) : bits .xor .i64 ((cl k p q : Nat) : Int) (wrap64 ((p : Int) * 2 ^ k)) = ((cl k p q ^^^ (p * 2 ^ k) : Nat) : Int) := by
  have h1 : cl k p q < 2 ^ (10 + k) := cl_lt (by omega) k
  have h2 : 2 ^ (10 + k) ≤ 2 ^ 15 := Nat.pow_le_pow_right (by omega) (by omega)
  have h3 : p * 2 ^ k < 2 ^ 10 * 2 ^ k := Nat.mul_lt_mul_of_pos_right (by omega) (Nat.two_pow_pos _)
  rw [← Nat.pow_add] at h3
  rw [shl_nat _ _ (by omega), i64_xor_nat _ _ (by omega) (by omega)]

set_option maxHeartbeats 400000 in
theorem polyProduct_any (p q : Nat) (hp : p < 1024) (hq : q < 1024) (w : World) :
    Calls Try.prog 116 #[.int .i64 p, .int .i64 q] w fun e w' => e = .returned (.int .i64 (cl 5 p q)) ∧ w = w' := by
  go_enter Try.func116, Try.ntmps116
  go_wp2
  go_loop [5, 7] (fun s i => ∃ k : Nat, k ≤ 5 ∧ i = .int .i64 k ∧ s = .int .i64 (cl k p q)) (fun _ i => 5 - (intOf i).toNat)
  case atStart => exact ⟨0, Nat.zero_le _, rfl, rfl⟩
  case round =>
    obtain ⟨k, hk, rfl, rfl⟩ := hrel
    by_cases hlt : k < 5
    · by_cases hb : q / 2 ^ k % 2 = 1
      · have hb' := bit_yes (q := q) (k := k) (by omega) hb
        have HB := Lib.hid hb
        clear hb
        go_wp2
        rw [mul_bits _ _ _ hp hk]
        go_round
        case rel => exact ⟨k + 1, by omega, by go_num, by simp only [cl]; rw [if_pos HB.out]⟩
        case measure => simp [intOf]; omega
      · have hb' := bit_no (q := q) (k := k) (by omega) hb
        have HB := Lib.hid hb
        clear hb
        go_wp2
        go_round
        case rel => exact ⟨k + 1, by omega, by go_num, by simp only [cl]; rw [if_neg HB.out]⟩
        case measure => simp [intOf]; omega
    · go_wp2
      go_ret
      exact ⟨ret_int (by rw [show k = 5 by omega]), rfl⟩
end Go.Proofs.Ytlchelaohiojiaa
namespace Go.Proofs.Ytlchelaohiojiaa
open Go.RowKit
set_option linter.unusedVariables false

/-- In the world W a calculator of the field lies at the block c. -/
structure Calc (c m P n : Nat) (W : World) : Prop where
  deg : W.cell? ⟨c, 0, none⟩ = some (.int .i64 m)
  tab : ∀ a b : Nat, a < n → b < n → W.cell? ⟨c, 1 + a * 32 + b, none⟩ = some (.int .u8 (mul P a b))

set_option maxHeartbeats 400000 in
theorem product_any (c m P n : Nat) (hF : Fld m P n) (a b : Nat) (ha : a < n) (hb : b < n) (w : World) (hC : Calc c m P n w) :
    Calls Try.prog 64 #[.pointer (some ⟨c, 0, none⟩), .int .u8 a, .int .u8 b] w fun e w' => e = .returned (.int .u8 (mul P a b)) ∧ w = w' := by
  have h5 := hF.n32
  have hc := hC.tab a b ha hb
  go_enter Try.func64, Try.ntmps64
  go_wp2
  go_ret
  exact ⟨rfl, rfl⟩

set_option maxHeartbeats 1000000 in
theorem multiply_any (B m P n : Nat) (hF : Fld m P n) (a b : Nat) (ha : a < n) (hb : b < n) (w : World) (hc : w.cell? ⟨B, 1, none⟩ = some (.int .i64 P)) :
    Calls Try.prog 115 #[.int .u8 a, .int .u8 b, .pointer (some ⟨B, 0, none⟩)] w fun e w' => e = .returned (.int .u8 (mul P a b)) ∧ ∃ k, w' = w.drewN k := by
  have h5 := hF.n32
  have hP := hF.P64
  have hP2 := hF.P2
  have hcl : cl 5 a b < 1048576 := by
    have := cl_lt (a := a) (b := b) (k := 5) (by omega) 5
    omega
  have hm := hF.mul_lt a b
  go_enter Try.func115, Try.ntmps115
  go_wp2
  go_quiet ((first | (go_at_call 116; exact quiet_of_eq (polyProduct_any _ _ (by omega) (by omega) _)) | (go_at_call 69; exact quiet_of_eq (polyRest_any _ _ (by omega) (by omega) (by omega) _))))
  go_wp2
  go_ret
  exact ⟨ret_int (by show ((mul P a b : Nat) : Int) % 256 = _; omega), _, rfl⟩

/-- The calculator's block when it is made. -/
def calcObj (d : Int) : Obj := .cells (#[.int .i64 d] ++ Array.replicate 1024 (.int .u8 0)) 148
end Go.Proofs.Ytlchelaohiojiaa
namespace Go.Proofs.Ytlchelaohiojiaa
open Go.RowKit
set_option linter.unusedVariables false

/-- The table at the block c is filled up to the place (i, j); nothing below c has changed since w. -/
structure Filled (c m P n : Nat) (w wr : World) (i j : Nat) : Prop where
  b : Below c w wr
  deg : wr.cell? ⟨c, 0, none⟩ = some (.int .i64 m)
  frz : ∀ x, x < 1025 → wr.frozen? ⟨c, x, none⟩ = false
  old : ∀ x, x < 1025 → ∃ v, wr.cell? ⟨c, x, none⟩ = some v
  tab : ∀ a b : Nat, a < n → b < n → a < i ∨ (a = i ∧ b < j) → wr.cell? ⟨c, 1 + a * 32 + b, none⟩ = some (.int .u8 (mul P a b))
  sz : wr.heap.size = w.heap.size

set_option maxHeartbeats 1000000 in
theorem Filled.step {c m P n : Nat} {w wr : World} {i j : Nat} (hF : Fld m P n) (h : Filled c m P n w wr i j) (hi : i < n) (hj : j < n) (q : Nat) :
    Filled c m P n w ((wr.drewN q).setCell ⟨c, 1 + i * 32 + j, none⟩ (.int .u8 (mul P i j))) i (j + 1) := by
  have h5 := hF.n32
  have other : ∀ x, x ≠ 1 + i * 32 + j → ((wr.drewN q).setCell ⟨c, 1 + i * 32 + j, none⟩ (.int .u8 (mul P i j))).cell? ⟨c, x, none⟩ = wr.cell? ⟨c, x, none⟩ := fun x hx =>
    World.cell?_setCell_other (wr.drewN q) ⟨c, 1 + i * 32 + j, none⟩ ⟨c, x, none⟩ _ (fun e => hx (by injection e with _ e _; exact e.symm))
  have here : ((wr.drewN q).setCell ⟨c, 1 + i * 32 + j, none⟩ (.int .u8 (mul P i j))).cell? ⟨c, 1 + i * 32 + j, none⟩ = some (.int .u8 (mul P i j)) := by
    obtain ⟨v, hv⟩ := h.old (1 + i * 32 + j) (by omega)
    exact World.cell?_setCell_same' _ _ _ (by show (wr.cell? _).isSome = true; rw [hv]; rfl)
  refine ⟨(below_drewN h.b q).setCell (p := ⟨c, 1 + i * 32 + j, none⟩) (Nat.le_refl _) _, ?_, ?_, ?_, ?_, ?_⟩
  · rw [other 0 (by omega)]; exact h.deg
  · intro x hx
    rw [World.frozen?_setCell]
    exact h.frz x hx
  · intro x hx
    by_cases e : x = 1 + i * 32 + j
    · subst e; exact ⟨_, here⟩
    · rw [other x e]; exact h.old x hx
  · intro a b ha hb hab
    by_cases e : 1 + a * 32 + b = 1 + i * 32 + j
    · have ea : a = i := by omega
      have eb : b = j := by omega
      subst ea eb
      exact here
    · rw [other _ e]
      exact h.tab a b ha hb (by
        rcases hab with hab | ⟨hab, hb'⟩
        · exact .inl hab
        · exact .inr ⟨hab, by omega⟩)
  · rw [← h.sz]
    show (Array.modify _ _ _).size = _
    rw [Array.size_modify]; rfl
theorem Filled.row {c m P n : Nat} {w wr : World} {i : Nat} (h : Filled c m P n w wr i n) : Filled c m P n w wr (i + 1) 0 :=
  ⟨h.b, h.deg, h.frz, h.old, fun a b ha hb hab => h.tab a b ha hb (by omega), h.sz⟩

set_option maxHeartbeats 1000000 in
set_option maxRecDepth 100000 in
theorem fill_any (c B m P n : Nat) (hBc : B < c) (hF : Fld m P n) (w : World) (hc : w.cell? ⟨B, 1, none⟩ = some (.int .i64 P)) (h0 : Filled c m P n w w 0 0) :
    Calls Try.prog 113 #[.pointer (some ⟨c, 1, none⟩), .int .i64 n, .func (.func 115) #[] #[.pointer (some ⟨B, 0, none⟩)]] w fun e w' => e = .returned (.tuple #[]) ∧ Filled c m P n w w' n 0 := by
  have h5 := hF.n32
  go_enter Try.func113, Try.ntmps113
  go_wp2
  go_loopw [9] (fun i wr => ∃ k : Nat, k ≤ n ∧ i = .int .i64 k ∧ Filled c m P n w wr k 0) (fun i _ => n - (intOf i).toNat)
  case atStart => exact ⟨0, Nat.zero_le _, rfl, h0⟩
  case round =>
    obtain ⟨k, hk, rfl, hf⟩ := hrel
    by_cases hlt : k < n
    · go_wp2
      obtain ⟨wo, rfl⟩ : ∃ wo : World, wo = wr := ⟨_, rfl⟩
      go_loopw [7, 13] (fun _ i wr => ∃ j : Nat, j ≤ n ∧ i = .int .i64 j ∧ Filled c m P n w wr k j) (fun _ i _ => n - (intOf i).toNat)
      case atStart => exact ⟨0, Nat.zero_le _, rfl, hf⟩
      case round =>
        obtain ⟨j, hj, rfl, hf⟩ := hrel
        by_cases hlj : j < n
        · have hcr := (hf.b.cell (p := ⟨B, 1, none⟩) hBc).trans hc
          have hfr := hf.frz (1 + k * 32 + j) (by omega)
          obtain ⟨v, hv⟩ := hf.old (1 + k * 32 + j) (by omega)
          go_wp2
          have e1 : IntKind.u8.wrap (k : Int) = k := by rw [IntKind.wrap_u8']; omega
          have e2 : IntKind.u8.wrap (j : Int) = j := by rw [IntKind.wrap_u8']; omega
          go_region_with (go_at_call 115; refine (multiply_any B m P n hF k j hlt hlj _ (by exact hcr)).mono ?_; rintro e w1 ⟨rfl, nq, rfl⟩)
          all_goals
            clear e1 e2 hcr hfr hv
            go_wp2
            go_roundw
            case rel => exact ⟨j + 1, by omega, by go_num, hf.step hF hlt hlj _⟩
            case measure => simp [intOf]; omega
        · obtain rfl : j = n := by omega
          go_wp2
          go_roundw
          case rel => exact ⟨k + 1, by omega, by go_num, hf.row⟩
          case measure => simp [intOf]; omega
    · obtain rfl : k = n := by omega
      go_wp2
      go_end0
      exact ⟨rfl, hf⟩
end Go.Proofs.Ytlchelaohiojiaa
