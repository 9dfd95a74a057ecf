/- Fields, elements and numbers that are drawn from bytes. -/
import Derived.Test.YtpjnpkgndghlhaaSrc
import Derived.Test.YtpjnpkgndghlhaaLB
import Derived.Test.YtpjnpkgndghlhaaInv
namespace Go.Proofs.Ytpjnpkgndghlhaa
open Go.RowKit Go.Joins Go.ChangeShapes
set_option linter.unusedVariables false

theorem Bys.wide {W : World} {B B' n : Nat} {A : Option Addr} (h : Bys W B A n) (hB : B ≤ B') : Bys W B' A n :=
  ⟨h.big, fun hn => by obtain ⟨a, hA, hlt, hc⟩ := h.cell hn; exact ⟨a, hA, Nat.lt_of_lt_of_le hlt hB, hc⟩⟩
theorem FAt.low {w W W' : World} {d p : Int} {D : Nat} (h : FAt w d p W) (hb : Below D W W') (hD : w.heap.size < D) : FAt w d p W' :=
  ⟨h.b.trans (hb.mono (by omega)), Nat.le_trans h.z hb.size, (hb.cell (p := ⟨w.heap.size, 0, none⟩) hD).trans h.c0, (hb.cell (p := ⟨w.heap.size, 1, none⟩) hD).trans h.c1⟩

theorem from_any (A : Option Addr) (n cap : Nat) (w : World) (h : Bys w w.heap.size A n) :
    Calls Try.prog 49 #[.slice A n cap] w fun e w' => e = .returned (.pointer (some ⟨w.heap.size, 0, none⟩)) ∧ Src w' w.heap.size w.heap.size A n cap 0 ∧ Below w.heap.size w w' := by
  have hL := LF.start w [.slice A n cap, .int .i64 0, .int .u64 0] 101
  have hb := below_alloc1 w (.cells #[.slice A n cap, .int .i64 0, .int .u64 0] 101)
  go_enter Try.func49, Try.ntmps49
  go_wp2_with fail
  go_ret
  exact ⟨rfl, ⟨hL.b.cell 0 _ rfl, hL.b.cell 1 _ rfl, ⟨0, hL.b.cell 2 _ rfl⟩, hL.free 1 (by simp), hL.free 2 (by simp), hL.b.lt, Nat.le_refl _, h.below hb⟩, hb⟩

set_option maxHeartbeats 800000 in
theorem among_any (p : Nat → Prop) (B q n cap k : Nat) (A : Option Addr) (hk : k ≤ 100000) (N c g : Nat) (hN1 : 1 ≤ N) (hN : N ≤ 200) (hg : g ≠ q) (w : World) (h : Src w B q A n cap k)
    (hc : ∀ j, j < N → ∃ x : Nat, p x ∧ w.cell? ⟨g, j, none⟩ = some (.int .i64 (x : Nat))) :
    Calls Try.prog 75 #[.pointer (some ⟨q, 0, none⟩), .slice (some ⟨g, 0, none⟩) N c] w fun e w' => ∃ x k', p x ∧ k' ≤ k + 1 ∧ e = .returned (.int .i64 (x : Nat)) ∧ Src w' B q A n cap k' ∧ Only q w w' := by
  have S := pick_any B q n cap k A hk N hN1 hN w h
  have HS := Lib.hid S
  have HC := Lib.hid hc
  clear S h hc
  go_enter Try.func75, Try.ntmps75
  go_wp2_with fail
  refine HS.out.mono ?_
  rintro e w1 ⟨j, k', hj, hk', rfl, hS, hO⟩
  obtain ⟨x, hx, hcx⟩ := HC.out j hj
  have hcell : w1.cell? ⟨g, j, none⟩ = some (.int .i64 (x : Nat)) := (hO.cell (p := ⟨g, j, none⟩) hg).trans hcx
  have HS1 := Lib.hid hS
  have HO1 := Lib.hid hO
  clear hS hO hcx
  go_wp2_with fail
  go_ret
  exact ⟨x, k', hx, hk', rfl, HS1.out, HO1.out⟩

/-- The right polynomials of the degree d below p. -/
def fOf (d : Nat) : Nat → List Nat
  | 0 => []
  | p + 1 => if 2 ^ d ≤ p ∧ irr p = true then fOf d p ++ [p] else fOf d p
def fCs (d : Nat) (L : List Nat) : List Value := L.flatMap fun P => [.int .i64 (d : Nat), .int .i64 (P : Nat)]
theorem fOf_nil (d : Nat) : ∀ p, p ≤ 2 ^ d → fOf d p = []
  | 0, _ => rfl
  | p + 1, h => by rw [fOf, if_neg (by omega)]; exact fOf_nil d p (by omega)
theorem fOf_ne : ∀ d : Fin 6, 0 < d.val → (fOf d.val (2 * 2 ^ d.val)).length ≠ 0 := by decide +kernel
theorem fOf_len (d : Nat) : ∀ p, (fOf d p).length ≤ p
  | 0 => Nat.le_refl _
  | p + 1 => by
    have := fOf_len d p
    rw [fOf]
    split
    · simp; omega
    · omega
theorem fOf_mem (d : Nat) : ∀ p, ∀ P ∈ fOf d p, 2 ^ d ≤ P ∧ P < p ∧ irr P = true
  | 0, P, h => by simp [fOf] at h
  | p + 1, P, h => by
    rw [fOf] at h
    split at h
    · rename_i e
      rcases List.mem_append.1 h with h | h
      · obtain ⟨h1, h2, h3⟩ := fOf_mem d p P h; exact ⟨h1, by omega, h3⟩
      · simp at h; subst h; exact ⟨e.1, by omega, e.2⟩
    · obtain ⟨h1, h2, h3⟩ := fOf_mem d p P h; exact ⟨h1, by omega, h3⟩
theorem fOf_fld {d P : Nat} (h : P ∈ fOf d (2 * 2 ^ d)) : fld d P = true := by
  obtain ⟨h1, h2, h3⟩ := fOf_mem d _ P h
  have h4 : nb P ≤ d + 1 := nb_le_of_lt (by rw [Nat.pow_succ]; omega)
  have h5 : d < nb P := (Nat.pow_lt_pow_iff_right (by omega : 1 < 2)).1 (Nat.lt_of_le_of_lt h1 nb_lt)
  simp [fld, h3]; omega
theorem fCs_get (d : Nat) : ∀ (L : List Nat) (j : Nat), j < L.length → (fCs d L)[2 * j]? = some (.int .i64 (d : Nat)) ∧ (fCs d L)[2 * j + 1]? = some (.int .i64 (nth L j : Nat))
  | [], j, h => by simp at h
  | P :: L, 0, _ => by simp [fCs, nth]
  | P :: L, j + 1, h => by
    have := fCs_get d L j (by simpa using h)
    rw [show 2 * (j + 1) = 2 * j + 2 by omega]
    simpa [fCs, nth] using this
theorem two_new (W : World) (x y : Value) (T : TypeId) : ∀ (j : Nat) (u : Value), [x, y][j]? = some u → (W.alloc (.cells #[x, y] T)).cell? ((⟨W.heap.size, 0, none⟩ : Addr).add j) = some u := by
  intro j u hj
  match j, hj with
  | 0, hj => simp at hj; subst hj; simp [Addr.add]
  | 1, hj => simp at hj; subst hj; simp [Addr.add]
theorem two_one (k : IntKind) (x y : Int) : ∀ u ∈ [Value.int k x, Value.int k y], u.oneCell' = true := by
  intro u hu; simp at hu; rcases hu with rfl | rfl <;> rfl
theorem Try.infoFd : (Try.prog.info? 23).map (fun i => (i.zero, i.size, i.bytes)) = some (some (.agg #[.int .i64 0, .int .i64 0]), 2, 16) := by kernel_rfl
end Go.Proofs.Ytpjnpkgndghlhaa
