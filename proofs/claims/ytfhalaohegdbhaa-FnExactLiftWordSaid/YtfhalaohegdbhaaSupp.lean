/- The matrix of a word: the program's. -/
import Derived.Test.YtfhalaohegdbhaaWords
import Derived.Test.YtfhalaohegdbhaaGrid
import Derived.Deep.MidRow
namespace Go.Proofs.Ytfhalaohegdbhaa
open Go.RowKit Go.Joins
set_option linter.unusedVariables false

/-- A function of a word that returns a matrix, with ErrInvalid and ErrRange first. -/
def fW (d p : Int) (zs : List Int) (c : Nat → List Nat → Nat) (L : Nat → List Nat → List Nat) : Int × List Int × Int :=
  if fldI d p = false then (0, [], 1) else if okW (2 ^ d.toNat) zs = false then (0, [], 2) else (((c d.toNat (nats zs) : Nat) : Int), ints (L d.toNat (nats zs)), 0)
theorem fW_A {d p : Int} {zs : List Int} {c L} (h : fldI d p = false) : fW d p zs c L = (0, [], 1) := by simp [fW, h]
theorem fW_B {m P n : Nat} (hF : Fld m P n) {zs : List Int} {c L} (h : okW n zs = false) : fW m P zs c L = (0, [], 2) := by
  rw [fW, if_neg (by rw [fldI_of hF.f]; simp), Int.toNat_natCast, hF.n, if_pos h]
theorem fW_C {m P n : Nat} (hF : Fld m P n) {zs : List Int} {c L} (h : okW n zs = true) : fW m P zs c L = (((c m (nats zs) : Nat) : Int), ints (L m (nats zs)), 0) := by
  rw [fW, if_neg (by rw [fldI_of hF.f]; simp), Int.toNat_natCast, hF.n, if_neg (by rw [h]; simp)]

theorem gridC_one (L : List Nat) (c : Int) : (gridC L c).all (·.oneCell') = true := Array.all_eq_true_iff_forall_mem.2 (fun v hv => by
  simp [gridC] at hv
  rcases hv with rfl | rfl | rfl | rfl | rfl | rfl | rfl | rfl | rfl | rfl | rfl | rfl <;> rfl)
theorem gridV_load {ops : Array Oper} {rest : List Oper} {op : Oper} {a : Act} {w : World} {Q : Exit → Act → World → Prop} (hgd : op.guard = none) (x : Operand) (ho : op.op = .load 51 x)
    (q : Nat) (L : List Nat) (c : Int) (hx : a.eval x = .pointer (some ⟨q, 0, none⟩)) (hA : GAt w q L c) (h : wpList Try.prog ops Q rest (a.put op.dst (.agg (gridC L c))) w) : wpList Try.prog ops Q (op :: rest) a w :=
  wpList_load_mid hgd 51 x ho q 0 hx (gridC L c).toList _ hA.range Try.underlying51 rfl Try.infoG h
theorem gridV_store {ops : Array Oper} {rest : List Oper} {op : Oper} {a : Act} {w : World} {Q : Exit → Act → World → Prop} (hgd : op.guard = none) (x y : Operand) (ho : op.op = .store 51 x y)
    (q : Nat) (L : List Nat) (c : Int) (hx : a.eval x = .pointer (some ⟨q, 0, none⟩)) (hy : a.eval y = .agg (gridC L c)) (hR : Room w q) (hl : L.length ≤ 10) (hr : ∀ j, nth L j < 4294967296) (h : ∀ W2, Hid (GAt W2 q L c) → Hid (Only q w W2) → wpList Try.prog ops Q rest (a.put op.dst undef) W2) : wpList Try.prog ops Q (op :: rest) a w :=
  wpList_store_mid hgd 51 x y ho q 0 (gridC L c) hx hy hR.there Try.infoG (gridC_one L c) (h _ (Lib.hid (GAt.store hR L c hl hr)) (Lib.hid (Only.setCells _ _ _ (Only.refl _ _))))

set_option maxHeartbeats 1600000 in
theorem gridW_any (c m P n : Nat) (hF : Fld m P n) (A : Option Addr) (k cap : Nat) (p : List Nat) (hp : ∀ j, nth p j < n) (hk : k ≤ 10) (w : World) (hD : w.cell? ⟨c, 0, none⟩ = some (.int .i64 m)) (hR : Rl w .u8 A k p) :
    Calls Try.prog 31 #[.pointer (some ⟨c, 0, none⟩), .slice A k cap] w fun e w' => e = .returned (.agg (gridC p m)) ∧ Below w.heap.size w w' := by
  have h32 := hF.n32
  have hlen := hR.len
  have hcl : c < w.heap.size := World.block_lt_of_cell? w ⟨c, 0, none⟩ hD
  have hRm : Room (w.alloc (.cells (gridC [] 0) 51)) w.heap.size := (GAt.start w [] 0 51 (by simp) (by intro j; simp [nth])).room
  have hb0 := below_alloc1 w (.cells (gridC [] 0) 51)
  have hb1 := below_alloc1 (w.alloc (.cells (gridC [] 0) 51)) (.cells (gridC [] m) 51)
  have hD0 := (hb0.cell (p := ⟨c, 0, none⟩) hcl).trans hD
  have hG := GAt.start (w.alloc (.cells (gridC [] 0) 51)) [] m 51 (by simp) (by intro j; simp [nth])
  rw [World.size_alloc] at hG
  have HRm := Lib.hid (hRm.below hb1)
  have HG := Lib.hid hG
  have HB := Lib.hid (hb0.trans (hb1.mono hb0.size))
  have HR := Lib.hid hR
  have HP := Lib.hid hp
  clear hRm hb0 hb1 hG hR hp
  have hD0' : (w.alloc (.cells #[.int .i64 0, .int .u32 0, .int .u32 0, .int .u32 0, .int .u32 0, .int .u32 0, .int .u32 0, .int .u32 0, .int .u32 0, .int .u32 0, .int .u32 0, .int .i64 0] 51)).cell? ⟨c, 0, none⟩ = some (.int .i64 m) := hD0
  go_enter Try.func31, Try.ntmps31
  go_wp2_with fail
  go_loopw [15] (fun i wr => ∃ j : Nat, j ≤ k ∧ i = .int .i64 j ∧ GAt wr (w.heap.size + 1) (p.take j) m ∧ Room wr w.heap.size ∧ Below w.heap.size w wr) (fun i _ => k - (intOf i).toNat)
  case atStart => exact ⟨0, Nat.zero_le _, rfl, HG.out, HRm.out, HB.out⟩
  case round =>
    obtain ⟨j, hj, rfl, hG, hRr, hb⟩ := hrel
    clear HG HRm HB hD0 hD0'
    have HRR := Lib.hid hRr
    have HB := Lib.hid hb
    by_cases hlt : j < k
    · obtain ⟨g, rfl, hg, hc⟩ := (HR.out.below hb).row (by omega)
      have hck := hc j hlt
      clear hc hb hRr
      have hx := HP.out j
      have hts := take_succ' (L := p) (k := j) (by omega)
      have hlk : (p.take j).length = j := by rw [List.length_take]; omega
      generalize nth p j = x at hck hx hts
      have HTS := Lib.hid hts
      have HLK := Lib.hid hlk
      have HGG := Lib.hid hG
      clear hts hlk hG
      have e1 : IntKind.u32.wrap (x : Int) = x := by rw [IntKind.wrap_u32']; omega
      go_wp2_with (go_at_call 37; refine (push_any (w.heap.size + 1) (p.take j) m x (by omega) _ HGG.out (by rw [HLK.out]; omega)).mono ?_; rintro e w2 ⟨rfl, hG2, hO2⟩)
      go_roundw
      case rel => exact ⟨j + 1, by omega, by go_num, by rw [HTS.out]; exact hG2, HRR.out.only hO2 (by omega), hO2.below HB.out (by omega)⟩
      case measure => simp [intOf]; omega
    · obtain rfl : j = k := by omega
      have hGL : GAt wr (w.heap.size + 1) p m := by rwa [List.take_of_length_le (by omega)] at hG
      have HGL := Lib.hid hGL
      clear hG hGL hRr hb
      go_wp2_with (first | (refine gridV_load rfl _ rfl (w.heap.size + 1) p m rfl HGL.out ?_) | (refine gridV_store rfl _ _ rfl w.heap.size p m rfl rfl HRR.out (by omega) HGL.out.r32 ?_; intro W2 HG2 HO2))
      refine bodyPost_ret (v := .agg (gridC p m)) (grid_result (p := 4) (fn := Try.f31) rfl _ rfl HG2.out) rfl ⟨rfl, ?_⟩
      exact HO2.out.below HB.out (Nat.le_refl _)
end Go.Proofs.Ytfhalaohegdbhaa
