/- What texts over matrices share: ErrInvalid first, the model's matrix in the memory, a bit of a row. -/
import Derived.Test.YtilghmfffdmnjaaGrid
import Derived.Test.YtilghmfffdmnjaaValid
import Derived.Test.YtilghmfffdmnjaaOut
namespace Go.Proofs.Ytilghmfffdmnjaa
open Go.RowKit Go.Joins
set_option linter.unusedVariables false

/-- What a function of one matrix returns: if it is not valid, ErrInvalid. -/
def mk1 (c : Int) (zs : List Int) (f : Nat → List Nat → Int × List Int × Int) : Int × List Int × Int := if okM c zs = true then f c.toNat (zs.map Int.toNat) else (0, [], 1)
theorem toNats_ints (L : List Nat) : (ints L).map Int.toNat = L := by
  induction L with
  | nil => rfl
  | cons r L ih => simp only [ints, List.map_cons] at ih ⊢; rw [ih]; simp
theorem mk1_yes {C : Nat} {L : List Nat} (hO : OkM C L) (f : Nat → List Nat → Int × List Int × Int) : mk1 C (ints L) f = f C L := by
  rw [mk1, if_pos (okM_ints hO), toNats_ints]; rfl
theorem mk1_no {c : Int} {zs : List Int} (h : okM c zs = false) (f : Nat → List Nat → Int × List Int × Int) : mk1 c zs f = (0, [], 1) := by
  rw [mk1, if_neg (by rw [h]; simp)]
theorem nth_lt {L : List Nat} {b : Nat} (hb : 0 < b) (h : ∀ r ∈ L, r < b) (j : Nat) : nth L j < b := by
  rw [nth, List.getD_eq_getElem?_getD]
  cases e : L[j]? with
  | none => exact hb
  | some r => exact h r (List.mem_of_getElem? e)

/-- In the world W the model's matrix: its columns and its rows. -/
structure Sp1 (W : World) (q : Nat) (c : Int) (b n cap : Nat) (xs : List Int) : Prop where
  m : MAt W q c b n cap
  r : Mt W b n xs
theorem Sp1.below {W W' : World} {q : Nat} {c : Int} {b n cap : Nat} {xs : List Int} (h : Sp1 W q c b n cap xs) (hb : Below W.heap.size W W') : Sp1 W' q c b n cap xs := ⟨h.m.next hb, h.r.below hb⟩

/-- A bit as a number. -/
def bitN (r k : Nat) : Nat := r / 2 ^ k % 2
theorem bitN_one {r k : Nat} (h : r.testBit k = true) : bitN r k = 1 := by rw [Nat.testBit_eq_decide_div_mod_eq] at h; simpa [bitN] using h
theorem bitN_zero {r k : Nat} (h : ¬ r.testBit k = true) : bitN r k = 0 := by rw [Nat.testBit_eq_decide_div_mod_eq] at h; simp at h; unfold bitN; omega
set_option maxHeartbeats 400000 in
theorem l02Bit_any (r k : Nat) (hr : r < 4294967296) (hk : k < 32) (w : World) :
    Calls Try.prog 118 #[.int .i64 r, .int .i64 k] w fun e w' => e = .returned (.int .i64 (bitN r k : Nat)) ∧ w = w' := by
  go_enter Try.func118, Try.ntmps118
  go_wp2
  go_ret
  exact ⟨ret_int (bit_any r k (by omega)), rfl⟩
end Go.Proofs.Ytilghmfffdmnjaa
