/- Choices that are drawn from bytes: what is read is some byte, what is picked is some number below the one asked for. · Fields, elements and numbers that are drawn from bytes. · Fields, elements and numbers that are drawn: what the drawing functions return. · A field, an element and a number that are drawn from bytes: what the law's own functions return. -/
import Derived.Test.YtlchelaohiojiaaGrid
import Derived.Test.YtlchelaohiojiaaArg
import Derived.Test.YtlchelaohiojiaaFld
import Derived.Laws.Bits64
import Derived.Test.YtlchelaohiojiaaLB
import Derived.Test.YtlchelaohiojiaaInv
namespace Go.Proofs.Ytlchelaohiojiaa
open Go.RowKit Go.Joins Go.ChangeShapes
set_option linter.unusedVariables false

theorem u64_and255 (X : Int) : ∃ b : Nat, b < 256 ∧ wrap64 (bits .and .u64 X 255) = (b : Int) := by
  have e : (BitVec.ofInt 64 255).toNat = 255 := by decide
  have h : (BitVec.ofInt 64 X &&& BitVec.ofInt 64 255).toNat ≤ 255 := by rw [BitVec.toNat_and, e]; exact Nat.and_le_right
  refine ⟨(BitVec.ofInt 64 X &&& BitVec.ofInt 64 255).toNat, by omega, ?_⟩
  show wrap64 (IntKind.u64.wrap ((BitVec.ofInt 64 X &&& BitVec.ofInt 64 255).toNat : Int)) = _
  rw [IntKind.wrap_u64]
  unfold wrap64
  omega

theorem Only.drewM {b : Nat} {w w' : World} (h : Only b w w') (k : Nat) : Only b w (w'.drewN k) := ⟨h.os, h.tape, h.output, h.size, h.block⟩

/-- Some bytes, in a block below B. -/
structure Bys (W : World) (B : Nat) (A : Option Addr) (n : Nat) : Prop where
  big : n ≤ 9223372036854775807
  cell : 0 < n → ∃ a : Addr, A = some a ∧ a.block < B ∧ ∀ j : Nat, j < n → ∃ b : Nat, b < 256 ∧ W.cell? (a.add j) = some (.int .u8 b)
theorem Bys.below {W W' : World} {B : Nat} {A : Option Addr} {n : Nat} (h : Bys W B A n) (hb : Below B W W') : Bys W' B A n :=
  ⟨h.big, fun hn => by
    obtain ⟨a, hA, hlt, hc⟩ := h.cell hn
    refine ⟨a, hA, hlt, fun j hj => ?_⟩
    obtain ⟨b, h1, h2⟩ := hc j hj
    exact ⟨b, h1, (hb.cell (p := a.add j) (by rw [addr_add_block]; exact hlt)).trans h2⟩⟩

theorem bytes_open {H : Type} {enc : TypeId × Value → H} {W : World} {base : Nat} {spare : Nat → Bool} {held : Bool} {fuel : Nat} {v : Value} {y : DataW H × List MemPlace}
    (h : DataW.trod enc Try.prog W base spare held fuel 22 [v] = some y) : ∃ A n cap, v = .slice A n cap ∧ Bys W W.heap.size A n := by
  rcases open_ints Try.underlying22 Try.underlying5 (by kernel_rfl) h with ⟨hcs, _⟩ | ⟨a, len, cap, zs, hcs, _, hl, hm, hz, _, hcell, hwz⟩
  · obtain rfl : v = .slice none 0 0 := by simpa using hcs
    exact ⟨none, 0, 0, rfl, by omega, fun h => by omega⟩
  · obtain rfl : v = .slice (some a) len cap := by simpa using hcs
    have hlz : len ≤ zs.length := by split at hz <;> omega
    have hm' : cap ≤ 9223372036854775807 := by unfold maxLen at hm; omega
    refine ⟨some a, len, cap, rfl, by omega, fun hn => ?_⟩
    have h0 := hcell 0 (by omega)
    have hb := block_of_cell h0
    rw [addr_add_block] at hb
    refine ⟨a, rfl, hb, fun j hj => ?_⟩
    have hj' : j < zs.length := by omega
    have hw := hwz (zs.getD j 0) (by rw [List.getD_eq_getElem?_getD, List.getElem?_eq_getElem hj']; exact List.getElem_mem hj')
    have hr : 0 ≤ zs.getD j 0 ∧ zs.getD j 0 < 256 := by
      have e1 : IntKind.u8.min = 0 := rfl
      have e2 : IntKind.u8.max = 255 := rfl
      simp only [Lit.wf, Bool.and_eq_true, decide_eq_true_eq, e1, e2] at hw
      omega
    obtain ⟨b, hb'⟩ := Int.eq_ofNat_of_zero_le hr.1
    exact ⟨b, by omega, by rw [hcell j hj', hb']⟩

/-- A source of choices. -/
structure Src (W : World) (B q : Nat) (A : Option Addr) (n cap k : Nat) : Prop where
  c0 : W.cell? ⟨q, 0, none⟩ = some (.slice A n cap)
  c1 : W.cell? ⟨q, 1, none⟩ = some (.int .i64 (k : Nat))
  c2 : ∃ s : Int, W.cell? ⟨q, 2, none⟩ = some (.int .u64 s)
  f1 : W.frozen? ⟨q, 1, none⟩ = false
  f2 : W.frozen? ⟨q, 2, none⟩ = false
  lt : q < W.heap.size
  Bq : B ≤ q
  bys : Bys W B A n
theorem Src.next {W W' : World} {B q n cap k : Nat} {A : Option Addr} (h : Src W B q A n cap k) (hb : Below W.heap.size W W') (hB : B ≤ W.heap.size) : Src W' B q A n cap k :=
  ⟨(hb.cell (p := ⟨q, 0, none⟩) h.lt).trans h.c0, (hb.cell (p := ⟨q, 1, none⟩) h.lt).trans h.c1, by obtain ⟨s, hs⟩ := h.c2; exact ⟨s, (hb.cell (p := ⟨q, 2, none⟩) h.lt).trans hs⟩,
   (hb.frozen (p := ⟨q, 1, none⟩) h.lt).trans h.f1, (hb.frozen (p := ⟨q, 2, none⟩) h.lt).trans h.f2, Nat.lt_of_lt_of_le h.lt hb.size, h.Bq, h.bys.below (hb.mono hB)⟩
theorem Src.drewN {W : World} {B q n cap k : Nat} {A : Option Addr} (h : Src W B q A n cap k) (j : Nat) : Src (W.drewN j) B q A n cap k := ⟨h.c0, h.c1, h.c2, h.f1, h.f2, h.lt, h.Bq, ⟨h.bys.big, h.bys.cell⟩⟩
theorem Src.step {W : World} {B q n cap k : Nat} {A : Option Addr} (h : Src W B q A n cap k) (s : Int) :
    Src ((W.setCell ⟨q, 1, none⟩ (.int .i64 ((k : Int) + 1))).setCell ⟨q, 2, none⟩ (.int .u64 s)) B q A n cap (k + 1) := by
  obtain ⟨s0, hs0⟩ := h.c2
  have other : ∀ (w : World) (i j : Nat) (v : Value), j ≠ i → (w.setCell ⟨q, i, none⟩ v).cell? ⟨q, j, none⟩ = w.cell? ⟨q, j, none⟩ := fun w i j v hne => World.cell?_setCell_other w ⟨q, i, none⟩ ⟨q, j, none⟩ _ (fun e => hne (by injection e with _ e _; exact e.symm))
  refine ⟨?_, ?_, ⟨s, ?_⟩, ?_, ?_, ?_, h.Bq, h.bys.below (((Only.refl q W).setCell 1 _ |>.setCell 2 _).below (Below.refl _ _) h.Bq)⟩
  · rw [other _ _ _ _ (by omega), other _ _ _ _ (by omega)]; exact h.c0
  · rw [other _ _ _ _ (by omega)]; exact World.cell?_setCell_same' _ _ _ (by rw [h.c1]; rfl)
  · exact World.cell?_setCell_same' _ _ _ (by rw [other _ _ _ _ (by omega), hs0]; rfl)
  · rw [World.frozen?_setCell, World.frozen?_setCell]; exact h.f1
  · rw [World.frozen?_setCell, World.frozen?_setCell]; exact h.f2
  · rw [size_setCell_, size_setCell_]; exact h.lt

set_option maxHeartbeats 800000 in
theorem next_any (B q n cap k : Nat) (A : Option Addr) (hk : k ≤ 1000000) (w : World) (h : Src w B q A n cap k) :
    Calls Try.prog 112 #[.pointer (some ⟨q, 0, none⟩)] w fun e w' => ∃ b : Nat, b < 256 ∧ e = .returned (.int .i64 b) ∧ Src w' B q A n cap (k + 1) ∧ Only q w w' := by
  have c0 := h.c0
  have c1 := h.c1
  obtain ⟨s, c2⟩ := h.c2
  have f1 := h.f1
  have f2 := h.f2
  have HS := Lib.hid h
  have hbig := h.bys.big
  by_cases hkn : k < n
  · obtain ⟨a, rfl, hlt, hc⟩ := h.bys.cell (by omega)
    obtain ⟨b, hb, hcell⟩ := hc k hkn
    clear h hc
    go_enter Try.func112, Try.ntmps112
    go_wp2
    go_quiet (fail)
    go_wp2
    go_quiet (fail)
    go_wp2
    go_quiet (fail)
    go_wp2
    go_ret
    exact ⟨b, hb, rfl, ((HS.out.drewN _).step _).drewN _, ((((Only.refl q w).drewM _).setCell 1 _).setCell 2 _).drewM _⟩
  · clear h
    go_enter Try.func112, Try.ntmps112
    go_wp2
    go_quiet (fail)
    go_wp2
    go_quiet (fail)
    go_wp2
    generalize IntKind.u64.wrap (IntKind.u64.wrap (IntKind.u64.wrap (s * 6364136223846793005)) + 1442695040888963407) / 1099511627776 = X
    obtain ⟨b, hb, e⟩ := u64_and255 X
    rw [e]
    go_ret
    exact ⟨b, hb, rfl, ((HS.out.drewN _).step _).drewN _, ((((Only.refl q w).drewM _).setCell 1 _).setCell 2 _).drewM _⟩

set_option maxHeartbeats 800000 in
theorem pick_any (B q n cap k : Nat) (A : Option Addr) (hk : k ≤ 100000) (m : Nat) (hm1 : 1 ≤ m) (hm : m ≤ 200) (w : World) (h : Src w B q A n cap k) :
    Calls Try.prog 61 #[.pointer (some ⟨q, 0, none⟩), .int .i64 m] w fun e w' => ∃ x k', x < m ∧ k' ≤ k + 1 ∧ e = .returned (.int .i64 (x : Nat)) ∧ Src w' B q A n cap k' ∧ Only q w w' := by
  have S := next_any B q n cap k A (by omega) w h
  have HS := Lib.hid S
  have HH := Lib.hid h
  clear S h
  by_cases h1 : m = 1
  · subst h1
    go_enter Try.func61, Try.ntmps61
    go_wp2_with fail
    go_ret
    exact ⟨0, k, by omega, by omega, rfl, HH.out, Only.refl _ _⟩
  · go_enter Try.func61, Try.ntmps61
    go_wp2_with fail
    refine HS.out.mono ?_
    rintro e w1 ⟨b, hb, rfl, hS, hO⟩
    have HS1 := Lib.hid hS
    have HO1 := Lib.hid hO
    clear hS hO
    go_wp2_with fail
    go_ret
    exact ⟨b % m, k + 1, Nat.mod_lt _ (by omega), by omega, ret_int (by omega), HS1.out, HO1.out⟩
end Go.Proofs.Ytlchelaohiojiaa
namespace Go.Proofs.Ytlchelaohiojiaa
open Go.RowKit Go.Joins Go.ChangeShapes
set_option linter.unusedVariables false

theorem Bys.wide {W : World} {B B' n : Nat} {A : Option Addr} (h : Bys W B A n) (hB : B ≤ B') : Bys W B' A n :=
  ⟨h.big, fun hn => by obtain ⟨a, hA, hlt, hc⟩ := h.cell hn; exact ⟨a, hA, Nat.lt_of_lt_of_le hlt hB, hc⟩⟩
theorem FAt.low {w W W' : World} {d p : Int} {D : Nat} (h : FAt w d p W) (hb : Below D W W') (hD : w.heap.size < D) : FAt w d p W' :=
  ⟨h.b.trans (hb.mono (by omega)), Nat.le_trans h.z hb.size, (hb.cell (p := ⟨w.heap.size, 0, none⟩) hD).trans h.c0, (hb.cell (p := ⟨w.heap.size, 1, none⟩) hD).trans h.c1⟩

theorem from_any (A : Option Addr) (n cap : Nat) (w : World) (h : Bys w w.heap.size A n) :
    Calls Try.prog 60 #[.slice A n cap] w fun e w' => e = .returned (.pointer (some ⟨w.heap.size, 0, none⟩)) ∧ Src w' w.heap.size w.heap.size A n cap 0 ∧ Below w.heap.size w w' := by
  have hL := LF.start w [.slice A n cap, .int .i64 0, .int .u64 0] 142
  have hb := below_alloc1 w (.cells #[.slice A n cap, .int .i64 0, .int .u64 0] 142)
  go_enter Try.func60, Try.ntmps60
  go_wp2_with fail
  go_ret
  exact ⟨rfl, ⟨hL.b.cell 0 _ rfl, hL.b.cell 1 _ rfl, ⟨0, hL.b.cell 2 _ rfl⟩, hL.free 1 (by simp), hL.free 2 (by simp), hL.b.lt, Nat.le_refl _, h.below hb⟩, hb⟩

set_option maxHeartbeats 800000 in
theorem among_any (p : Nat → Prop) (B q n cap k : Nat) (A : Option Addr) (hk : k ≤ 100000) (N c g : Nat) (hN1 : 1 ≤ N) (hN : N ≤ 200) (hg : g ≠ q) (w : World) (h : Src w B q A n cap k)
    (hc : ∀ j, j < N → ∃ x : Nat, p x ∧ w.cell? ⟨g, j, none⟩ = some (.int .i64 (x : Nat))) :
    Calls Try.prog 111 #[.pointer (some ⟨q, 0, none⟩), .slice (some ⟨g, 0, none⟩) N c] w fun e w' => ∃ x k', p x ∧ k' ≤ k + 1 ∧ e = .returned (.int .i64 (x : Nat)) ∧ Src w' B q A n cap k' ∧ Only q w w' := by
  have S := pick_any B q n cap k A hk N hN1 hN w h
  have HS := Lib.hid S
  have HC := Lib.hid hc
  clear S h hc
  go_enter Try.func111, Try.ntmps111
  go_wp2_with fail
  refine HS.out.mono ?_
  rintro e w1 ⟨j, k', hj, hk', rfl, hS, hO⟩
  obtain ⟨x, hx, hcx⟩ := HC.out j hj
  have hcell : w1.cell? ⟨g, j, none⟩ = some (.int .i64 (x : Nat)) := (hO.cell (p := ⟨g, j, none⟩) hg).trans hcx
  have HS1 := Lib.hid hS
  have HO1 := Lib.hid hO
  clear hS hO hcx
  go_wp2_with fail
  go_ret
  exact ⟨x, k', hx, hk', rfl, HS1.out, HO1.out⟩

/-- The right polynomials of the degree d below p. -/
def fOf (d : Nat) : Nat → List Nat
  | 0 => []
  | p + 1 => if 2 ^ d ≤ p ∧ irr p = true then fOf d p ++ [p] else fOf d p
def fCs (d : Nat) (L : List Nat) : List Value := L.flatMap fun P => [.int .i64 (d : Nat), .int .i64 (P : Nat)]
theorem fOf_nil (d : Nat) : ∀ p, p ≤ 2 ^ d → fOf d p = []
  | 0, _ => rfl
  | p + 1, h => by rw [fOf, if_neg (by omega)]; exact fOf_nil d p (by omega)
theorem fOf_ne : ∀ d : Fin 6, 0 < d.val → (fOf d.val (2 * 2 ^ d.val)).length ≠ 0 := by decide +kernel
theorem fOf_len (d : Nat) : ∀ p, (fOf d p).length ≤ p
  | 0 => Nat.le_refl _
  | p + 1 => by
    have := fOf_len d p
    rw [fOf]
    split
    · simp; omega
    · omega
theorem fOf_mem (d : Nat) : ∀ p, ∀ P ∈ fOf d p, 2 ^ d ≤ P ∧ P < p ∧ irr P = true
  | 0, P, h => by simp [fOf] at h
  | p + 1, P, h => by
    rw [fOf] at h
    split at h
    · rename_i e
      rcases List.mem_append.1 h with h | h
      · obtain ⟨h1, h2, h3⟩ := fOf_mem d p P h; exact ⟨h1, by omega, h3⟩
      · simp at h; subst h; exact ⟨e.1, by omega, e.2⟩
    · obtain ⟨h1, h2, h3⟩ := fOf_mem d p P h; exact ⟨h1, by omega, h3⟩
theorem fOf_fld {d P : Nat} (h : P ∈ fOf d (2 * 2 ^ d)) : fld d P = true := by
  obtain ⟨h1, h2, h3⟩ := fOf_mem d _ P h
  have h4 : nb P ≤ d + 1 := nb_le_of_lt (by rw [Nat.pow_succ]; omega)
  have h5 : d < nb P := (Nat.pow_lt_pow_iff_right (by omega : 1 < 2)).1 (Nat.lt_of_le_of_lt h1 nb_lt)
  simp [fld, h3]; omega
theorem fCs_get (d : Nat) : ∀ (L : List Nat) (j : Nat), j < L.length → (fCs d L)[2 * j]? = some (.int .i64 (d : Nat)) ∧ (fCs d L)[2 * j + 1]? = some (.int .i64 (nth L j : Nat))
  | [], j, h => by simp at h
  | P :: L, 0, _ => by simp [fCs, nth]
  | P :: L, j + 1, h => by
    have := fCs_get d L j (by simpa using h)
    rw [show 2 * (j + 1) = 2 * j + 2 by omega]
    simpa [fCs, nth] using this
theorem two_new (W : World) (x y : Value) (T : TypeId) : ∀ (j : Nat) (u : Value), [x, y][j]? = some u → (W.alloc (.cells #[x, y] T)).cell? ((⟨W.heap.size, 0, none⟩ : Addr).add j) = some u := by
  intro j u hj
  match j, hj with
  | 0, hj => simp at hj; subst hj; simp [Addr.add]
  | 1, hj => simp at hj; subst hj; simp [Addr.add]
theorem two_one (k : IntKind) (x y : Int) : ∀ u ∈ [Value.int k x, Value.int k y], u.oneCell' = true := by
  intro u hu; simp at hu; rcases hu with rfl | rfl <;> rfl
theorem Try.infoFd : (Try.prog.info? 25).map (fun i => (i.zero, i.size, i.bytes)) = some (some (.agg #[.int .i64 0, .int .i64 0]), 2, 16) := by kernel_rfl
end Go.Proofs.Ytlchelaohiojiaa
namespace Go.Proofs.Ytlchelaohiojiaa
open Go.RowKit Go.Joins Go.ChangeShapes
set_option linter.unusedVariables false

theorem fCs_snoc (d : Nat) (L : List Nat) (p : Nat) : fCs d (L ++ [p]) = fCs d L ++ [.int .i64 (d : Nat), .int .i64 (p : Nat)] := by simp [fCs]

set_option maxRecDepth 100000 in
set_option maxHeartbeats 6400000 in
theorem l01Fields_any (d : Nat) (h1 : 1 ≤ d) (h5 : d ≤ 5) (w : World) :
    Calls Try.prog 97 #[.int .i64 d] w fun e w' => ∃ g cap, e = .returned (.slice (some ⟨g, 0, none⟩) (fOf d (2 * 2 ^ d)).length cap) ∧ Below w.heap.size w w' ∧ w'.ownsRow w.heap.size 25 2 (.slice (some ⟨g, 0, none⟩) (fOf d (2 * 2 ^ d)).length cap) (fOf d (2 * 2 ^ d)).length (fCs d (fOf d (2 * 2 ^ d))) := by
  obtain ⟨i0, hi, hz0, hz1, hz2⟩ := info_parts Try.infoFd
  have hne := fOf_ne ⟨d, by omega⟩ (by show 0 < d; omega)
  have HNE := Lib.hid hne
  have hO0 := World.ownsRow_lit (base := w.heap.size) (e := 25) (size := 2) w #[] 0 (Nat.le_refl _) (by unfold maxLen; omega) rfl
  have HO0 := Lib.hid hO0
  have HB0 := Lib.hid (below_alloc1 w (.cells #[] 25))
  clear hO0 hne
  obtain ⟨N, hN⟩ : ∃ N, 2 ^ d = N := ⟨_, rfl⟩
  have hNN : N ≤ 32 := by rw [← hN]; exact Nat.pow_le_pow_right (n := 2) (by omega) h5
  have hsh : (2 : Int) ^ d = (N : Int) := by rw [← hN]; simp
  have HST := Lib.hid (fOf_nil d N (by omega))
  have HSU : Hid (∀ p, fOf d (p + 1) = if N ≤ p ∧ irr p = true then fOf d p ++ [p] else fOf d p) := Lib.hid fun p => by rw [fOf, hN]
  have HNE' : Hid ((fOf d (2 * N)).length ≠ 0) := Lib.hid (by rw [← hN]; exact HNE.out)
  rw [hN]
  clear HNE
  go_enter Try.func97, Try.ntmps97
  go_wp2_with fail
  go_loopw [3, 4] (fun u i wr => ∃ (p : Nat) (ao : Option Addr) (mo co : Nat), u = .slice ao mo co ∧ N ≤ p ∧ p ≤ 2 * N ∧ i = .int .i64 (p : Nat) ∧ wr.ownsRow w.heap.size 25 2 (.slice ao mo co) (fOf d p).length (fCs d (fOf d p)) ∧ Below w.heap.size w wr) (fun _ i _ => 2 * N - (intOf i).toNat)
  case atStart =>
    exact ⟨N, _, _, _, rfl, Nat.le_refl _, by omega, rfl, by rw [HST.out]; exact HO0.out, HB0.out⟩
  case round =>
    obtain ⟨p, ao, mo, co, rfl, hp1, hp2, rfl, hO, hB⟩ := hrel
    clear HO0 HB0
    have HO := Lib.hid hO
    have HB := Lib.hid hB
    have hU := HSU.out p
    clear hO hB
    by_cases hlt : p < 2 * N
    · have hz := HB.out.size
      by_cases hirr : irr p = true
      · rw [if_pos ⟨hp1, hirr⟩] at hU
        have HU := Lib.hid hU
        have HI := Lib.hid hirr
        clear hU hirr
        go_wp2_with (first
          | (at_builtin; (refine wpList_append_own _ rfl _ _ 32 rfl w.heap.size 25 i0 (.agg #[.int .i64 0, .int .i64 0]) 2 16 Try.underlying32 hi hz0 hz1 hz2 rfl (by decide) _ _ _ rfl (HO.out.alloc _) ⟨wr.heap.size, 0, none⟩ 1 1 [.int .i64 (d : Nat), .int .i64 (p : Nat)] rfl rfl (two_new wr _ _ _) (two_one _ _ _) (by have := fOf_len d p; unfold maxLen; omega) (by have := fOf_len d p; omega) (by simp; omega) ?_; intro v' w3 hown' hgrow _; have hb3 : Below w.heap.size wr w3 := ((Below.refl _ wr).alloc hz _).grown hgrow (by simp; omega) (fun g hg => (HO.out.lt g hg).1); obtain ⟨g3, cp3, rfl⟩ : ∃ g cp, v' = .slice (some ⟨g, 0, none⟩) ((fOf d p).length + 1) cp := (ownsRow_forms hown').resolve_left (fun h => by have := h.2; omega); have HO3 := Lib.hid hown'; have HB3 := Lib.hid (HB.out.trans hb3); clear hown' hgrow hb3))
          | (go_at_call 148; refine (l01Irreducible_any p (by omega) _).mono ?_; rw [HI.out]; rintro e w1 ⟨rfl, rfl⟩))
        go_roundw
        case rel => exact ⟨p + 1, _, _, _, rfl, by omega, by omega, by go_num, by rw [HU.out, List.length_append, fCs_snoc]; exact HO3.out, HB3.out⟩
        case measure => simp [intOf]; omega
      · rw [if_neg (fun h => hirr h.2)] at hU
        have HU := Lib.hid hU
        have HI := Lib.hid (show irr p = false by simpa using hirr)
        clear hU hirr
        go_wp2_with (go_at_call 148; refine (l01Irreducible_any p (by omega) _).mono ?_; rw [HI.out]; rintro e w1 ⟨rfl, rfl⟩)
        go_roundw
        case rel => exact ⟨p + 1, _, _, _, rfl, by omega, by omega, by go_num, by rw [HU.out]; exact HO.out, HB.out⟩
        case measure => simp [intOf]; omega
    · obtain rfl : p = 2 * N := by omega
      go_wp2_with fail
      go_ret
      rcases ownsRow_forms HO.out with ⟨_, h0⟩ | ⟨g, cap, e⟩
      · exact absurd h0 HNE'.out
      · injection e with e1 e2 e3
        subst e1 e2
        exact ⟨g, co, rfl, HB.out, HO.out⟩
end Go.Proofs.Ytlchelaohiojiaa
namespace Go.Proofs.Ytlchelaohiojiaa
open Go.RowKit Go.Joins Go.ChangeShapes
set_option linter.unusedVariables false

theorem LF.low {W W' : World} {q D : Nat} {vs : List Value} (h : LF W q vs) (hb : Below D W W') (hD : q < D) : LF W' q vs :=
  ⟨⟨fun j v hv => (hb.cell (p := ⟨q, j, none⟩) hD).trans (h.b.cell j v hv), Nat.lt_of_lt_of_le h.b.lt hb.size⟩, fun j hj => (hb.frozen (p := ⟨q, j, none⟩) hD).trans (h.free j hj)⟩
theorem LB.only {W W' : World} {q b : Nat} {vs : List Value} (h : LB W q vs) (ho : Only b W W') (hq : q ≠ b) : LB W' q vs :=
  ⟨fun j v hv => (ho.cell (p := ⟨q, j, none⟩) hq).trans (h.cell j v hv), by rw [ho.size]; exact h.lt⟩
theorem LF.only {W W' : World} {q b : Nat} {vs : List Value} (h : LF W q vs) (ho : Only b W W') (hq : q ≠ b) : LF W' q vs :=
  ⟨h.b.only ho hq, fun j hj => (World.frozen?_of_block (w := W) (a := ⟨q, j, none⟩) (ho.block q hq)).trans (h.free j hj)⟩
theorem Src.next' {W W' : World} {B q b n cap k : Nat} {A : Option Addr} (h : Src W B q A n cap k) (hBq : B ≤ q) (ho : Only b W W') (hb : b ≠ q) (hB : B ≤ b) : Src W' B q A n cap k := by
  obtain ⟨s, hs⟩ := h.c2
  have hg : W'.heap[q]? = W.heap[q]? := ho.block q (fun e => hb e.symm)
  exact ⟨(ho.cell (p := ⟨q, 0, none⟩) (fun e => hb e.symm)).trans h.c0, (ho.cell (p := ⟨q, 1, none⟩) (fun e => hb e.symm)).trans h.c1, ⟨s, (ho.cell (p := ⟨q, 2, none⟩) (fun e => hb e.symm)).trans hs⟩,
    (World.frozen?_of_block (w := W) (a := ⟨q, 1, none⟩) hg).trans h.f1, (World.frozen?_of_block (w := W) (a := ⟨q, 2, none⟩) hg).trans h.f2, by rw [ho.size]; exact h.lt, h.Bq, h.bys.below (ho.below (Below.refl _ _) hB)⟩
theorem addr_at (g j : Nat) : (⟨g, 0, none⟩ : Addr).add j = ⟨g, j, none⟩ := by unfold Addr.add; split <;> simp_all
theorem Try.infoFs : (Try.prog.info? 25).map (·.size) = some 2 := by kernel_rfl

set_option maxRecDepth 100000 in
set_option maxHeartbeats 6400000 in
theorem drawn_any (B q n cap k : Nat) (A : Option Addr) (hk : k ≤ 1000) (w : World) (h : Src w B q A n cap k) (hB : B ≤ w.heap.size) :
    Calls Try.prog 59 #[.pointer (some ⟨q, 0, none⟩)] w fun e w' => ∃ m P k', fld m P = true ∧ k' ≤ k + 2 ∧ e = .returned (.agg #[.int .i64 (m : Nat), .int .i64 (P : Nat)]) ∧ Src w' B q A n cap k' ∧ Below B w w' := by
  have hL := LF.start w [.int .i64 0, .int .i64 0] 25
  have hM := LB.one (w.alloc (.cells #[.int .i64 0, .int .i64 0] 25)) [.int .i64 1, .int .i64 2, .int .i64 3, .int .i64 3, .int .i64 4, .int .i64 4, .int .i64 5] 2
  rw [World.size_alloc] at hM
  have hb2 := below_alloc2 w (.cells #[.int .i64 0, .int .i64 0] 25) (.cells #[.int .i64 1, .int .i64 2, .int .i64 3, .int .i64 3, .int .i64 4, .int .i64 4, .int .i64 5] 2)
  have hS2 := h.next hb2 hB
  have hL2 : LF _ _ _ := hL.next (below_alloc1 _ (.cells #[.int .i64 1, .int .i64 2, .int .i64 3, .int .i64 3, .int .i64 4, .int .i64 4, .int .i64 5] 2))
  have hc : ∀ j, j < 7 → ∃ x : Nat, (1 ≤ x ∧ x ≤ 5) ∧ ((w.alloc (.cells #[.int .i64 0, .int .i64 0] 25)).alloc (.cells #[.int .i64 1, .int .i64 2, .int .i64 3, .int .i64 3, .int .i64 4, .int .i64 4, .int .i64 5] 2)).cell? ⟨w.heap.size + 1, j, none⟩ = some (.int .i64 (x : Nat)) := by
    intro j hj
    match j, hj with
    | 0, _ => exact ⟨1, by omega, hM.cell 0 _ rfl⟩
    | 1, _ => exact ⟨2, by omega, hM.cell 1 _ rfl⟩
    | 2, _ => exact ⟨3, by omega, hM.cell 2 _ rfl⟩
    | 3, _ => exact ⟨3, by omega, hM.cell 3 _ rfl⟩
    | 4, _ => exact ⟨4, by omega, hM.cell 4 _ rfl⟩
    | 5, _ => exact ⟨4, by omega, hM.cell 5 _ rfl⟩
    | 6, _ => exact ⟨5, by omega, hM.cell 6 _ rfl⟩
    | j + 7, hj => omega
  have hqz := h.lt
  have hBq := h.Bq
  have S := among_any (fun x => 1 ≤ x ∧ x ≤ 5) B q n cap k A (by omega) 7 7 (w.heap.size + 1) (by omega) (by omega) (by omega) _ hS2 hc
  have HS := Lib.hid S
  have HL2 := Lib.hid hL2
  have HB2 := Lib.hid (hb2.mono hB)
  have hz2 : w.heap.size + 1 + 1 ≤ ((w.alloc (.cells #[.int .i64 0, .int .i64 0] 25)).alloc (.cells #[.int .i64 1, .int .i64 2, .int .i64 3, .int .i64 3, .int .i64 4, .int .i64 4, .int .i64 5] 2)).heap.size := hM.lt
  have HZ2 := Lib.hid hz2
  clear S hL2 hb2 hc hM hL hS2 h hz2
  go_enter Try.func59, Try.ntmps59
  go_wp2_with fail
  refine HS.out.mono ?_
  rintro e w3 ⟨d, k3, ⟨h1, h5⟩, hk3, rfl, hS3, hO3⟩
  have hL3 : LF w3 w.heap.size [.int .i64 0, .int .i64 0] := HL2.out.only hO3 (by omega)
  have hB3 := HB2.out.trans (hO3.below (Below.refl _ _) hBq)
  have hz3 : w.heap.size + 1 + 1 ≤ w3.heap.size := by rw [hO3.size]; exact HZ2.out
  clear HS HL2 HB2 hO3 HZ2
  go_wp2_with fail
  refine (l01Fields_any d h1 h5 _).mono ?_
  rintro e w4 ⟨g, cp, rfl, hb4, hw4⟩
  have hne := fOf_ne ⟨d, by omega⟩ (by show 0 < d; omega)
  have hmem : ∀ j, j < (fOf d (2 * 2 ^ d)).length → fld d (nth (fOf d (2 * 2 ^ d)) j) = true := fun j hj => fOf_fld (nth_mem hj)
  have hlen : (fOf d (2 * 2 ^ d)).length ≤ 64 := Nat.le_trans (fOf_len d _) (by have : 2 ^ d ≤ 2 ^ 5 := Nat.pow_le_pow_right (by omega) h5; omega)
  have hne' : 1 ≤ (fOf d (2 * 2 ^ d)).length := Nat.one_le_iff_ne_zero.2 hne
  clear hne
  generalize fOf d (2 * 2 ^ d) = L at hw4 hne' hmem hlen ⊢
  have hg := (hw4.lt g rfl).1
  have hS4 := hS3.next hb4 (by omega)
  have hL4 : LF w4 w.heap.size [.int .i64 0, .int .i64 0] := hL3.next hb4
  have HB4 := Lib.hid (hB3.trans (hb4.mono (by omega)))
  have HP := Lib.hid (pick_any B q n cap k3 A (by omega) L.length hne' (by omega) w4 hS4)
  have HW := Lib.hid hw4
  have HM := Lib.hid hmem
  have HL4 := Lib.hid hL4
  have hgq : g ≠ q := by omega
  have hwq : w.heap.size ≠ q := by omega
  clear hS4 hw4 hmem hL4 hS3 hL3 hB3 hb4 hg hz3
  go_wp2_with fail
  refine HP.out.mono ?_
  rintro e w5 ⟨x, k5, hx, hk5, rfl, hS5, hO5⟩
  have hL5 : LF w5 w.heap.size [.int .i64 0, .int .i64 0] := HL4.out.only hO5 hwq
  have hc0 : w5.cell? ⟨g, x * 2, none⟩ = some (.int .i64 (d : Nat)) := (hO5.cell (p := ⟨g, x * 2, none⟩) hgq).trans (by
    have := HW.out.cells rfl (2 * x) _ (fCs_get d L x hx).1
    rw [addr_at] at this
    simpa [Nat.mul_comm] using this)
  have hc1 : w5.cell? ⟨g, x * 2 + 1, none⟩ = some (.int .i64 (nth L x : Nat)) := (hO5.cell (p := ⟨g, x * 2 + 1, none⟩) hgq).trans (by
    have := HW.out.cells rfl (2 * x + 1) _ (fCs_get d L x hx).2
    rw [addr_at] at this
    simpa [Nat.mul_comm] using this)
  have hfl := HM.out x hx
  generalize nth L x = P at hc1 hfl
  have HS5 := Lib.hid hS5
  have HB5 := Lib.hid (HB4.out.trans (hO5.below (Below.refl _ _) hBq))
  have HFL := Lib.hid hfl
  have HL5 := Lib.hid ((hL5.set 0 (by simp) (.int .i64 (d : Nat))).set 1 (by simp) (.int .i64 (P : Nat)))
  have r0 := hL5.b.cell 0 _ rfl; have r1 := hL5.b.cell 1 _ rfl
  have f0 := hL5.free 0 (by simp); have f1 := hL5.free 1 (by simp)
  have HS6 := Lib.hid (hS5.next' hBq (((Only.refl w.heap.size w5).setCell 0 (.int .i64 (d : Nat))).setCell 1 (.int .i64 (P : Nat))) hwq hB)
  have HB6 := Lib.hid (HB5.out.trans ((((Only.refl w.heap.size w5).setCell 0 (.int .i64 (d : Nat))).setCell 1 (.int .i64 (P : Nat))).below (Below.refl _ _) hB))
  clear hS5 hO5 hL5 hfl HP HW HM HL4 HB4 HB5 HS5
  go_wp2_with fail
  refine bodyPost_ret (v := .agg #[.int .i64 (d : Nat), .int .i64 (P : Nat)]) (lb_result (p := 2) (fn := Try.f59) rfl _ rfl HL5.out.b Try.underlying25 (by kernel_rfl) Try.infoFs) rfl ?_
  exact ⟨d, P, k5, HFL.out, by omega, rfl, HS6.out, HB6.out⟩

set_option maxRecDepth 100000 in
set_option maxHeartbeats 3200000 in
theorem a2Field_any (A : Option Addr) (n cap : Nat) (w : World) (h : Bys w w.heap.size A n) :
    Calls Try.prog 11 #[.slice A n cap] w fun e w' => ∃ m P, fld m P = true ∧ e = .returned (.agg #[.int .i64 (m : Nat), .int .i64 (P : Nat)]) ∧ Below w.heap.size w w' := by
  have hL := LF.start w [.int .i64 0, .int .i64 0] 25
  have hb1 := below_alloc1 w (.cells #[.int .i64 0, .int .i64 0] 25)
  have hA := (h.below hb1).wide hb1.size
  have S := from_any A n cap _ hA
  simp only [World.size_alloc] at S
  have FR := Lib.hid S
  have HL := Lib.hid hL
  have HB1 := Lib.hid hb1
  have hz1 : w.heap.size + 1 ≤ (w.alloc (.cells #[.int .i64 0, .int .i64 0] 25)).heap.size := by simp
  clear hL h S hA
  go_enter Try.func11, Try.ntmps11
  go_wp2_with fail
  refine FR.out.mono ?_
  rintro e w2 ⟨rfl, hS, hb2⟩
  have hL2 : LF w2 w.heap.size [.int .i64 0, .int .i64 0] := HL.out.low hb2 (by omega)
  have HB2 := Lib.hid (HB1.out.trans (hb2.mono (by omega)))
  have hz2 : w.heap.size + 1 ≤ w2.heap.size := by have := hb2.size; omega
  clear HL HB1 hb1 hb2 FR hz1
  go_wp2_with fail
  refine (drawn_any _ _ n cap 0 A (by omega) _ hS hz2).mono ?_
  rintro e w3 ⟨m, P, k', hf, -, rfl, -, hb3⟩
  have hL3 : LF w3 w.heap.size [.int .i64 0, .int .i64 0] := hL2.low hb3 (by omega)
  have r0 := hL3.b.cell 0 _ rfl; have r1 := hL3.b.cell 1 _ rfl
  have f0 := hL3.free 0 (by simp); have f1 := hL3.free 1 (by simp)
  have HFL := Lib.hid hf
  have HL5 := Lib.hid ((hL3.set 0 (by simp) (.int .i64 (m : Nat))).set 1 (by simp) (.int .i64 (P : Nat)))
  have HB6 := Lib.hid ((HB2.out.trans (hb3.mono (by omega))).trans ((((Only.refl w.heap.size w3).setCell 0 (.int .i64 (m : Nat))).setCell 1 (.int .i64 (P : Nat))).below (Below.refl _ _) (Nat.le_refl _)))
  clear hL3 hL2 HB2 hb3 hf hS hz2
  go_wp2_with fail
  refine bodyPost_ret (v := .agg #[.int .i64 (m : Nat), .int .i64 (P : Nat)]) (lb_result (p := 2) (fn := Try.f11) rfl _ rfl HL5.out.b Try.underlying25 (by kernel_rfl) Try.infoFs) rfl ?_
  exact ⟨m, P, HFL.out, rfl, HB6.out⟩

set_option maxRecDepth 100000 in
set_option maxHeartbeats 3200000 in
theorem a2Element_any (A : Option Addr) (n cap : Nat) (m P N : Nat) (hF : Fld m P N) (j : Nat) (hj : j ≤ 50) (w : World) (h : Bys w w.heap.size A n) :
    Calls Try.prog 12 #[.slice A n cap, .agg #[.int .i64 m, .int .i64 P], .int .i64 j] w fun e w' => ∃ x : Nat, x < N ∧ e = .returned (.int .i64 (x : Nat)) ∧ Below w.heap.size w w' := by
  have hn2 := hF.n2
  have h32 := hF.n32
  have hA0 := FAt.start w m P 25
  have hA := (h.below hA0.b).wide hA0.b.size
  have S := from_any A n cap _ hA
  simp only [World.size_alloc] at S
  have FR := Lib.hid S
  have HA0 := Lib.hid hA0
  clear hA0 h S hA
  go_enter Try.func12, Try.ntmps12
  go_wp2_with fail
  refine FR.out.mono ?_
  rintro e w2 ⟨rfl, hS, hb2⟩
  have HA2 := Lib.hid (HA0.out.low hb2 (by omega))
  have HS2 := Lib.hid hS
  have hz2 : w.heap.size + 1 ≤ w2.heap.size := by have := HA2.out.z; omega
  clear hb2 hS HA0 FR
  go_wp2_with fail
  go_loopw [8, 9] (fun x i wr => ∃ k x' k' : Nat, i = .int .i64 (k : Nat) ∧ k ≤ j + 1 ∧ x = .int .i64 (x' : Nat) ∧ x' < N ∧ k' ≤ k ∧ Src wr (w.heap.size + 1) (w.heap.size + 1) A n cap k' ∧ FAt w m P wr) (fun _ i _ => j + 1 - (intOf i).toNat)
  case atStart => exact ⟨0, 0, 0, rfl, by omega, rfl, by omega, by omega, HS2.out, HA2.out⟩
  case round =>
    obtain ⟨k, x', k', rfl, hk, rfl, hx, hk', hS, hA⟩ := hrel
    clear HS2 HA2
    have hz := hA.z
    have c0 := hA.c0; have c1 := hA.c1
    have HA := Lib.hid hA
    have HS := Lib.hid hS
    clear hA hS
    by_cases hlt : k ≤ j
    · go_wp2_with fail
      refine (l01Size_any _ _ _ hF _).mono ?_
      rintro e w3 ⟨rfl, hb3⟩
      have HA3 := Lib.hid (HA.out.next hb3)
      have HP := Lib.hid (pick_any _ _ n cap k' A (by omega) N (by omega) (by omega) w3 (HS.out.next hb3 hz))
      clear hb3 HA HS c0 c1
      go_wp2_with fail
      refine HP.out.mono ?_
      rintro e w4 ⟨x, k4, hx4, hk4, rfl, hS4, hO4⟩
      have HA4 := Lib.hid (HA3.out.low (hO4.below (Below.refl _ _) (Nat.le_refl _)) (Nat.lt_succ_self _))
      have HS4 := Lib.hid hS4
      clear hS4 hO4 HA3 HP
      go_wp2_with fail
      go_roundw
      case rel => exact ⟨k + 1, x, k4, by go_num, by omega, rfl, hx4, by omega, HS4.out, HA4.out⟩
      case measure => simp [intOf]; omega
    · obtain rfl : k = j + 1 := by omega
      go_wp2_with fail
      go_ret
      exact ⟨x', hx, rfl, HA.out.b⟩

set_option maxHeartbeats 800000 in
theorem a2At_any (B : Nat) (A : Option Addr) (n cap : Nat) (i N : Nat) (hi : i ≤ 100000) (hN1 : 1 ≤ N) (hN : N ≤ 100000) (w : World) (h : Bys w B A n) :
    Calls Try.prog 20 #[.slice A n cap, .int .i64 i, .int .i64 N] w fun e w' => ∃ x : Nat, x < N ∧ e = .returned (.int .i64 (x : Nat)) ∧ w = w' := by
  have hbig := h.big
  by_cases hin : i < n
  · obtain ⟨a, rfl, hlt, hc⟩ := h.cell (by omega)
    obtain ⟨b, hb, hcell⟩ := hc i hin
    clear h hc
    go_enter Try.func20, Try.ntmps20
    go_wp2_with fail
    go_ret
    exact ⟨b % N, Nat.mod_lt _ (by omega), ret_int (by omega), rfl⟩
  · clear h
    go_enter Try.func20, Try.ntmps20
    go_wp2_with fail
    go_ret
    exact ⟨0, by omega, rfl, rfl⟩
set_option maxHeartbeats 800000 in
theorem a2Long_any (A A' : Option Addr) (n cap n' cap' : Nat) (hn : n ≤ 9223372036854775807) (hn' : n' ≤ 9223372036854775807) (w : World) :
    Calls Try.prog 10 #[.slice A n cap, .slice A' n' cap'] w fun e w' => e = .returned (.bool (decide (3000 < n) || decide (3000 < n'))) ∧ w = w' := by
  by_cases h : 3000 < n
  · go_enter Try.func10, Try.ntmps10
    go_wp2_with fail
    go_ret
    exact ⟨ret_bool (by simp <;> omega), rfl⟩
  · go_enter Try.func10, Try.ntmps10
    go_wp2_with fail
    go_ret
    refine ⟨ret_bool ?_, rfl⟩
    by_cases h' : 3000 < n'
    · simp [h, h']; omega
    · simp [h, h']; omega

/-- In the world W the block q, behind those of w0, holds the field (d, p), and whatever lay in w0 lies as it lay. -/
structure FX (w0 : World) (q : Nat) (d p : Int) (W : World) : Prop where
  b : Below w0.heap.size w0 W
  z : q + 1 ≤ W.heap.size
  c0 : W.cell? ⟨q, 0, none⟩ = some (.int .i64 d)
  c1 : W.cell? ⟨q, 1, none⟩ = some (.int .i64 p)
  g : w0.heap.size ≤ q
theorem FX.start {w0 w : World} (h : Below w0.heap.size w0 w) (d p : Int) (T : TypeId) : FX w0 w.heap.size d p (w.alloc (.cells #[.int .i64 d, .int .i64 p] T)) :=
  ⟨h.trans ((below_alloc1 w _).mono h.size), by simp, by simp, by simp, h.size⟩
theorem FX.next {w0 W W1 : World} {q : Nat} {d p : Int} (h : FX w0 q d p W) (hb : Below W.heap.size W W1) : FX w0 q d p W1 :=
  ⟨h.b.trans (hb.mono h.b.size), Nat.le_trans h.z hb.size, (hb.cell (p := ⟨q, 0, none⟩) h.z).trans h.c0, (hb.cell (p := ⟨q, 1, none⟩) h.z).trans h.c1, h.g⟩
theorem Bys.at {w0 W : World} {A : Option Addr} {n : Nat} (h : Bys w0 w0.heap.size A n) (hb : Below w0.heap.size w0 W) : Bys W W.heap.size A n := (h.below hb).wide hb.size
end Go.Proofs.Ytlchelaohiojiaa
