/- Inverses: what the model's helper and the program's test return. -/
import Derived.Test.YtbnjmafkcfjmeaaFirst
import Derived.Test.YtbnjmafkcfjmeaaPw
namespace Go.Proofs.Ytbnjmafkcfjmeaa
open Go.RowKit
set_option linter.unusedVariables false

theorem ret_int2 {a b : Int} {v : Value} (h : a = b) : Ending.returned (.tuple #[.int .i64 a, v]) = .returned (.tuple #[.int .i64 b, v]) := by rw [h]
theorem inv_all : ∀ P : Fin 64, irr P.val = true → ∀ a : Fin 32, 0 < a.val → a.val < 2 ^ (nb P.val - 1) → mul P.val a.val (pw P.val a.val (2 ^ (nb P.val - 1) - 2)) = 1 := by decide +kernel
theorem inv_one_all : ∀ P : Fin 64, irr P.val = true → ∀ a : Fin 32, a.val < 2 ^ (nb P.val - 1) → ∀ k : Fin 32, k.val < 2 ^ (nb P.val - 1) → mul P.val a.val k.val = 1 → k.val = pw P.val a.val (2 ^ (nb P.val - 1) - 2) := by decide +kernel
theorem inv_is {m P n a : Nat} (hF : Fld m P n) (h0 : 0 < a) (ha : a < n) : mul P a (pw P a (n - 2)) = 1 := by
  have h1 := fld_nb hF.f
  have h2 := hF.n32
  have := inv_all ⟨P, hF.P64⟩ (fld_irr hF.f) ⟨a, by omega⟩ h0 (by show a < 2 ^ (nb P - 1); rw [h1]; simp; rw [hF.n]; exact ha)
  simp only [h1, Nat.add_sub_cancel, hF.n] at this
  exact this
theorem inv_one {m P n a k : Nat} (hF : Fld m P n) (ha : a < n) (hk : k < n) (h : mul P a k = 1) : k = pw P a (n - 2) := by
  have h1 := fld_nb hF.f
  have h2 := hF.n32
  have := inv_one_all ⟨P, hF.P64⟩ (fld_irr hF.f) ⟨a, by omega⟩ (by show a < 2 ^ (nb P - 1); rw [h1]; simp; rw [hF.n]; exact ha) ⟨k, by omega⟩ (by show k < 2 ^ (nb P - 1); rw [h1]; simp; rw [hF.n]; exact hk) h
  simp only [h1, Nat.add_sub_cancel, hF.n] at this
  exact this

set_option maxHeartbeats 2000000 in
theorem l01Inverse_any (m P n : Nat) (hF : Fld m P n) (a : Nat) (ha : a < n) (w : World) :
    Calls Try.prog 79 #[.agg #[.int .i64 m, .int .i64 P], .int .i64 a] w fun e w' => e = .returned (.int .i64 (pw P a (n - 2))) ∧ Below w.heap.size w w' := by
  have hn := hF.n2
  have h32 := hF.n32
  have e0 : (n : Int) - 2 = ((n - 2 : Nat) : Int) := by omega
  have E0 := Lib.hid e0
  clear e0
  go_enter Try.func79, Try.ntmps79
  have hA := (FAt.start w m P 25).drew
  have ew : IntKind.i64.wrap ((n : Int) - 2) = (n : Int) - 2 := by rw [IntKind.wrap_i64]; omega
  go_wp2
  go_region_held3 (fun w' => w'.cell? ⟨w.heap.size, 0, none⟩ = some (.int .i64 m) ∧ w'.cell? ⟨w.heap.size, 1, none⟩ = some (.int .i64 P) ∧ FAt w m P w') (first | exact ⟨hA.c0, hA.c1, hA⟩ | exact ⟨by assumption, by assumption, by assumption⟩) (first | (go_at_call 52; refine (l01Size_any _ _ _ hF _).mono ?_; rintro e w1 ⟨rfl, hb1⟩; have k1 : FAt w m P w1 := FAt.next (by assumption) hb1; have q0 := k1.c0; have q1 := k1.c1; clear hb1) | (go_at_call 78; rw [E0.out]; refine (l01Power_any _ _ _ hF _ ha _ (by omega) _).mono ?_; rintro e w2 ⟨rfl, hb2⟩; have k2 : FAt w m P w2 := FAt.next (by assumption) hb2; have q2 := k2.c0; have q3 := k2.c1; clear hb2))
  all_goals go_wp2
  all_goals go_ret
  all_goals exact ⟨rfl, FAt.b (by assumption)⟩

set_option maxHeartbeats 400000 in
theorem inverse1_any (c m P n bc ba : Nat) (hF : Fld m P n) (a x : Nat) (ha : a < n) (hx : x < n) (w : World) (hC : Calc c m P n w) (h1 : w.cell? ⟨bc, 0, none⟩ = some (.pointer (some ⟨c, 0, none⟩))) (h2 : w.cell? ⟨ba, 0, none⟩ = some (.int .i64 a)) :
    Calls Try.prog 56 #[.int .u8 x, .pointer (some ⟨bc, 0, none⟩), .pointer (some ⟨ba, 0, none⟩)] w fun e w' => e = .returned (.bool (mul P a x == 1)) ∧ ∃ q, w' = w.drewN q := by
  have h32 := hF.n32
  have e1 : IntKind.u8.wrap (a : Int) = a := by rw [IntKind.wrap_u8']; omega
  go_enter Try.func56, Try.ntmps56
  go_wp2_with (go_at_call 54; refine (product_any c m P n hF a x ha hx _ hC).mono ?_; rintro e w' ⟨rfl, rfl⟩)
  go_ret
  exact ⟨ret_bool (by rw [Bool.eq_iff_iff]; simp; omega), 0, rfl⟩
end Go.Proofs.Ytbnjmafkcfjmeaa
