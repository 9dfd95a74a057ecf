/- Quotients and roots by the program's methods. -/
import Derived.Test.YtfppacahjdpamaaFirst
import Derived.Test.YtfppacahjdpamaaSqr
import Derived.Test.YtfppacahjdpamaaDivPure
namespace Go.Proofs.Ytfppacahjdpamaa
open Go.RowKit Go.Shelf
set_option linter.unusedVariables false

set_option maxHeartbeats 800000 in
theorem quotient1_any (c m P n bc bb ba : Nat) (hF : Fld m P n) (a b x : Nat) (ha : a < n) (hb : b < n) (hx : x < n) (w : World) (hC : Calc c m P n w) (h1 : w.cell? ⟨bc, 0, none⟩ = some (.pointer (some ⟨c, 0, none⟩))) (h2 : w.cell? ⟨bb, 0, none⟩ = some (.int .u8 b)) (h3 : w.cell? ⟨ba, 0, none⟩ = some (.int .u8 a)) :
    Calls Try.prog 125 #[.int .u8 x, .pointer (some ⟨bc, 0, none⟩), .pointer (some ⟨bb, 0, none⟩), .pointer (some ⟨ba, 0, none⟩)] w fun e w' => e = .returned (.bool (mul P x b == a)) ∧ ∃ q, w' = w.drewN q := by
  have h32 := hF.n32
  have hm := hF.mul_lt x b
  go_enter Try.func125, Try.ntmps125
  go_wp2
  go_quiet ((go_at_call 95; exact (quiet_of_eq (product_any c m P n hF x b hx hb _ ⟨hC.deg, hC.tab⟩))))
  go_wp2
  go_ret
  exact ⟨ret_bool (by rw [Bool.eq_iff_iff]; simp; omega), _, rfl⟩

set_option maxHeartbeats 1600000 in
theorem quotient_any (c m P n : Nat) (hF : Fld m P n) (a b : Nat) (ha : a < n) (h0 : b ≠ 0) (hb : b < n) (w : World) (hC : Calc c m P n w) :
    Calls Try.prog 110 #[.pointer (some ⟨c, 0, none⟩), .int .u8 a, .int .u8 b] w fun e w' => e = .returned (.int .u8 (quo P n a b)) ∧ Below w.heap.size w w' := by
  have h32 := hF.n32
  have hcl := hC.lt
  obtain ⟨W, hW⟩ : ∃ W, ((w.alloc (.cells #[.pointer (some ⟨c, 0, none⟩)] 68)).alloc (.cells #[.int .u8 a] 71)).alloc (.cells #[.int .u8 b] 71) = W := ⟨_, rfl⟩
  have hB : Below w.heap.size w W := by rw [← hW]; exact (((Below.refl _ w).alloc (Nat.le_refl _) _).alloc (by simp) _).alloc (by simp; omega) _
  have hz : w.heap.size + 3 = W.heap.size := by rw [← hW]; simp
  have c0 := cell_new_l w (.pointer (some ⟨c, 0, none⟩)) 68
  have c1 := cell_new_l (w.alloc (.cells #[.pointer (some ⟨c, 0, none⟩)] 68)) (.int .u8 a) 71
  have c2 := cell_new_l ((w.alloc (.cells #[.pointer (some ⟨c, 0, none⟩)] 68)).alloc (.cells #[.int .u8 a] 71)) (.int .u8 b) 71
  simp only [World.size_alloc] at c1 c2
  have k1 : W.cell? ⟨w.heap.size, 0, none⟩ = some (.pointer (some ⟨c, 0, none⟩)) := by rw [← hW]; exact cell_alloc_l _ (cell_alloc_l _ c0.1)
  have k2 : W.cell? ⟨w.heap.size + 1, 0, none⟩ = some (.int .u8 a) := by rw [← hW]; exact cell_alloc_l _ c1.1
  have k3 : W.cell? ⟨w.heap.size + 1 + 1, 0, none⟩ = some (.int .u8 b) := by rw [← hW]; exact c2.1
  clear c0 c1 c2
  have hCW := hC.below hcl hB
  have hmf : ∀ (fn : Fn) (first cap : Array Value) (w : World), (Instr.makeFunc fn first cap).run Try.prog w = .ok (.func fn first cap) w := fun _ _ _ _ => rfl
  go_enter Try.func110, Try.ntmps110
  go_wp2_with fail
  have HWh := Lib.hid hW
  clear hW hmf
  refine (callsIn_wide.1 (first_in c m P n hF W hCW 125 #[.pointer (some ⟨w.heap.size, 0, none⟩), .pointer (some ⟨w.heap.size + 1 + 1, 0, none⟩), .pointer (some ⟨w.heap.size + 1, 0, none⟩)] (enters_of Try.func125 (by kernel_rfl) rfl) (fun x => mul P x b == a) (fun W' hW' x hx => quotient1_any c m P n w.heap.size (w.heap.size + 1 + 1) (w.heap.size + 1) hF a b x ha hb hx W' (hCW.below hCW.lt hW') ((hW'.cell (p := ⟨w.heap.size, 0, none⟩) (by show w.heap.size < _; omega)).trans k1) ((hW'.cell (p := ⟨w.heap.size + 1 + 1, 0, none⟩) (by show w.heap.size + 1 + 1 < _; omega)).trans k3) ((hW'.cell (p := ⟨w.heap.size + 1, 0, none⟩) (by show w.heap.size + 1 < _; omega)).trans k2)))).mono ?_
  rintro e w2 ⟨hp, hb2⟩
  have hB3 := hB.trans (hb2.mono (by omega))
  clear hb2
  rcases hp with ⟨k, hk, ht, hmin, rfl⟩ | ⟨hno, rfl⟩
  · have HK := Lib.hid (quo_one hF hk h0 hb (by simpa using ht))
    have e1 : IntKind.u8.wrap (k : Int) = k := by rw [IntKind.wrap_u8']; omega
    clear ht hmin k1 k2 k3
    go_wp2
    go_ret
    exact ⟨ret_int (by have := HK.out; omega), hB3⟩
  · exfalso
    have h3 : (mul P (quo P n a b) b == a) = false := hno _ (quo_lt hF a b)
    rw [quo_mul hF ha h0 hb] at h3
    simp at h3

end Go.Proofs.Ytfppacahjdpamaa
