/- Choices that are drawn from bytes: what is read is some byte, what is picked is some number below the one asked for. -/
import Derived.Test.YtilghmfffdmnjaaDoorGrid
import Derived.Test.YtilghmfffdmnjaaDoorArg
import Derived.Test.YtilghmfffdmnjaaDoorFld
import Derived.Laws.Bits64
namespace Go.Proofs.YtilghmfffdmnjaaDoor
open Go.RowKit Go.Joins Go.ChangeShapes
set_option linter.unusedVariables false

theorem u64_and255 (X : Int) : ∃ b : Nat, b < 256 ∧ wrap64 (bits .and .u64 X 255) = (b : Int) := by
  have e : (BitVec.ofInt 64 255).toNat = 255 := by decide
  have h : (BitVec.ofInt 64 X &&& BitVec.ofInt 64 255).toNat ≤ 255 := by rw [BitVec.toNat_and, e]; exact Nat.and_le_right
  refine ⟨(BitVec.ofInt 64 X &&& BitVec.ofInt 64 255).toNat, by omega, ?_⟩
  show wrap64 (IntKind.u64.wrap ((BitVec.ofInt 64 X &&& BitVec.ofInt 64 255).toNat : Int)) = _
  rw [IntKind.wrap_u64]
  unfold wrap64
  omega

theorem Only.drewM {b : Nat} {w w' : World} (h : Only b w w') (k : Nat) : Only b w (w'.drewN k) := ⟨h.os, h.tape, h.output, h.size, h.block⟩

/-- Some bytes, in a block below B. -/
structure Bys (W : World) (B : Nat) (A : Option Addr) (n : Nat) : Prop where
  big : n ≤ 9223372036854775807
  cell : 0 < n → ∃ a : Addr, A = some a ∧ a.block < B ∧ ∀ j : Nat, j < n → ∃ b : Nat, b < 256 ∧ W.cell? (a.add j) = some (.int .u8 b)
theorem Bys.below {W W' : World} {B : Nat} {A : Option Addr} {n : Nat} (h : Bys W B A n) (hb : Below B W W') : Bys W' B A n :=
  ⟨h.big, fun hn => by
    obtain ⟨a, hA, hlt, hc⟩ := h.cell hn
    refine ⟨a, hA, hlt, fun j hj => ?_⟩
    obtain ⟨b, h1, h2⟩ := hc j hj
    exact ⟨b, h1, (hb.cell (p := a.add j) (by rw [addr_add_block]; exact hlt)).trans h2⟩⟩

theorem bytes_open {H : Type} {enc : TypeId × Value → H} {W : World} {base : Nat} {spare : Nat → Bool} {held : Bool} {fuel : Nat} {v : Value} {y : DataW H × List MemPlace}
    (h : DataW.trod enc Tryd.prog W base spare held fuel 33 [v] = some y) : ∃ A n cap, v = .slice A n cap ∧ Bys W W.heap.size A n := by
  rcases open_ints Tryd.underlying33 Tryd.underlying5 (by kernel_rfl) h with ⟨hcs, _⟩ | ⟨a, len, cap, zs, hcs, _, hl, hm, hz, _, hcell, hwz⟩
  · obtain rfl : v = .slice none 0 0 := by simpa using hcs
    exact ⟨none, 0, 0, rfl, by omega, fun h => by omega⟩
  · obtain rfl : v = .slice (some a) len cap := by simpa using hcs
    have hlz : len ≤ zs.length := by split at hz <;> omega
    have hm' : cap ≤ 9223372036854775807 := by unfold maxLen at hm; omega
    refine ⟨some a, len, cap, rfl, by omega, fun hn => ?_⟩
    have h0 := hcell 0 (by omega)
    have hb := block_of_cell h0
    rw [addr_add_block] at hb
    refine ⟨a, rfl, hb, fun j hj => ?_⟩
    have hj' : j < zs.length := by omega
    have hw := hwz (zs.getD j 0) (by rw [List.getD_eq_getElem?_getD, List.getElem?_eq_getElem hj']; exact List.getElem_mem hj')
    have hr : 0 ≤ zs.getD j 0 ∧ zs.getD j 0 < 256 := by
      have e1 : IntKind.u8.min = 0 := rfl
      have e2 : IntKind.u8.max = 255 := rfl
      simp only [Lit.wf, Bool.and_eq_true, decide_eq_true_eq, e1, e2] at hw
      omega
    obtain ⟨b, hb'⟩ := Int.eq_ofNat_of_zero_le hr.1
    exact ⟨b, by omega, by rw [hcell j hj', hb']⟩

/-- A source of choices. -/
structure Src (W : World) (B q : Nat) (A : Option Addr) (n cap k : Nat) : Prop where
  c0 : W.cell? ⟨q, 0, none⟩ = some (.slice A n cap)
  c1 : W.cell? ⟨q, 1, none⟩ = some (.int .i64 (k : Nat))
  c2 : ∃ s : Int, W.cell? ⟨q, 2, none⟩ = some (.int .u64 s)
  f1 : W.frozen? ⟨q, 1, none⟩ = false
  f2 : W.frozen? ⟨q, 2, none⟩ = false
  lt : q < W.heap.size
  Bq : B ≤ q
  bys : Bys W B A n
theorem Src.next {W W' : World} {B q n cap k : Nat} {A : Option Addr} (h : Src W B q A n cap k) (hb : Below W.heap.size W W') (hB : B ≤ W.heap.size) : Src W' B q A n cap k :=
  ⟨(hb.cell (p := ⟨q, 0, none⟩) h.lt).trans h.c0, (hb.cell (p := ⟨q, 1, none⟩) h.lt).trans h.c1, by obtain ⟨s, hs⟩ := h.c2; exact ⟨s, (hb.cell (p := ⟨q, 2, none⟩) h.lt).trans hs⟩,
   (hb.frozen (p := ⟨q, 1, none⟩) h.lt).trans h.f1, (hb.frozen (p := ⟨q, 2, none⟩) h.lt).trans h.f2, Nat.lt_of_lt_of_le h.lt hb.size, h.Bq, h.bys.below (hb.mono hB)⟩
theorem Src.drewN {W : World} {B q n cap k : Nat} {A : Option Addr} (h : Src W B q A n cap k) (j : Nat) : Src (W.drewN j) B q A n cap k := ⟨h.c0, h.c1, h.c2, h.f1, h.f2, h.lt, h.Bq, ⟨h.bys.big, h.bys.cell⟩⟩
theorem Src.step {W : World} {B q n cap k : Nat} {A : Option Addr} (h : Src W B q A n cap k) (s : Int) :
    Src ((W.setCell ⟨q, 1, none⟩ (.int .i64 ((k : Int) + 1))).setCell ⟨q, 2, none⟩ (.int .u64 s)) B q A n cap (k + 1) := by
  obtain ⟨s0, hs0⟩ := h.c2
  have other : ∀ (w : World) (i j : Nat) (v : Value), j ≠ i → (w.setCell ⟨q, i, none⟩ v).cell? ⟨q, j, none⟩ = w.cell? ⟨q, j, none⟩ := fun w i j v hne => World.cell?_setCell_other w ⟨q, i, none⟩ ⟨q, j, none⟩ _ (fun e => hne (by injection e with _ e _; exact e.symm))
  refine ⟨?_, ?_, ⟨s, ?_⟩, ?_, ?_, ?_, h.Bq, h.bys.below (((Only.refl q W).setCell 1 _ |>.setCell 2 _).below (Below.refl _ _) h.Bq)⟩
  · rw [other _ _ _ _ (by omega), other _ _ _ _ (by omega)]; exact h.c0
  · rw [other _ _ _ _ (by omega)]; exact World.cell?_setCell_same' _ _ _ (by rw [h.c1]; rfl)
  · exact World.cell?_setCell_same' _ _ _ (by rw [other _ _ _ _ (by omega), hs0]; rfl)
  · rw [World.frozen?_setCell, World.frozen?_setCell]; exact h.f1
  · rw [World.frozen?_setCell, World.frozen?_setCell]; exact h.f2
  · rw [size_setCell_, size_setCell_]; exact h.lt

set_option maxHeartbeats 800000 in
theorem next_any (B q n cap k : Nat) (A : Option Addr) (hk : k ≤ 1000000) (w : World) (h : Src w B q A n cap k) :
    Calls Tryd.prog 112 #[.pointer (some ⟨q, 0, none⟩)] w fun e w' => ∃ b : Nat, b < 256 ∧ e = .returned (.int .i64 b) ∧ Src w' B q A n cap (k + 1) ∧ Only q w w' := by
  have c0 := h.c0
  have c1 := h.c1
  obtain ⟨s, c2⟩ := h.c2
  have f1 := h.f1
  have f2 := h.f2
  have HS := Lib.hid h
  have hbig := h.bys.big
  by_cases hkn : k < n
  · obtain ⟨a, rfl, hlt, hc⟩ := h.bys.cell (by omega)
    obtain ⟨b, hb, hcell⟩ := hc k hkn
    clear h hc
    go_enter Tryd.func112, Tryd.ntmps112
    go_wp2
    go_quiet (fail)
    go_wp2
    go_quiet (fail)
    go_wp2
    go_quiet (fail)
    go_wp2
    go_ret
    exact ⟨b, hb, rfl, ((HS.out.drewN _).step _).drewN _, ((((Only.refl q w).drewM _).setCell 1 _).setCell 2 _).drewM _⟩
  · clear h
    go_enter Tryd.func112, Tryd.ntmps112
    go_wp2
    go_quiet (fail)
    go_wp2
    go_quiet (fail)
    go_wp2
    generalize IntKind.u64.wrap (IntKind.u64.wrap (IntKind.u64.wrap (s * 6364136223846793005)) + 1442695040888963407) / 1099511627776 = X
    obtain ⟨b, hb, e⟩ := u64_and255 X
    rw [e]
    go_ret
    exact ⟨b, hb, rfl, ((HS.out.drewN _).step _).drewN _, ((((Only.refl q w).drewM _).setCell 1 _).setCell 2 _).drewM _⟩

set_option maxHeartbeats 800000 in
theorem pick_any (B q n cap k : Nat) (A : Option Addr) (hk : k ≤ 100000) (m : Nat) (hm1 : 1 ≤ m) (hm : m ≤ 200) (w : World) (h : Src w B q A n cap k) :
    Calls Tryd.prog 64 #[.pointer (some ⟨q, 0, none⟩), .int .i64 m] w fun e w' => ∃ x k', x < m ∧ k' ≤ k + 1 ∧ e = .returned (.int .i64 (x : Nat)) ∧ Src w' B q A n cap k' ∧ Only q w w' := by
  have S := next_any B q n cap k A (by omega) w h
  have HS := Lib.hid S
  have HH := Lib.hid h
  clear S h
  by_cases h1 : m = 1
  · subst h1
    go_enter Tryd.func64, Tryd.ntmps64
    go_wp2_with fail
    go_ret
    exact ⟨0, k, by omega, by omega, rfl, HH.out, Only.refl _ _⟩
  · go_enter Tryd.func64, Tryd.ntmps64
    go_wp2_with fail
    refine HS.out.mono ?_
    rintro e w1 ⟨b, hb, rfl, hS, hO⟩
    have HS1 := Lib.hid hS
    have HO1 := Lib.hid hO
    clear hS hO
    go_wp2_with fail
    go_ret
    exact ⟨b % m, k + 1, Nat.mod_lt _ (by omega), by omega, ret_int (by omega), HS1.out, HO1.out⟩
end Go.Proofs.YtilghmfffdmnjaaDoor
