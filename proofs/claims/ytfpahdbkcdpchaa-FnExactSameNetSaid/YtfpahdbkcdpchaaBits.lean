/- Bit operations on int64 numbers that are not negative, as operations on natural numbers. -/
import Derived.WalkKit
import Derived.Laws.BitsAllLaws
namespace Go.Proofs.Ytfpahdbkcdpchaa
open Go.RowKit

theorem ofInt_i64 (a : Nat) (ha : a < 4611686018427387904) : (BitVec.ofInt 64 (a : Int)).toNat = a := by
  simp; omega
theorem wrapNat (a : Nat) (ha : a < 4611686018427387904) : IntKind.i64.wrap (a : Int) = a := by
  rw [IntKind.wrap_i64]; omega
theorem i64_xor_nat (a b : Nat) (ha : a < 4611686018427387904) (hb : b < 4611686018427387904) : bits .xor .i64 (a : Int) (b : Int) = ((a ^^^ b : Nat) : Int) := by
  have hx : a ^^^ b < 2 ^ 62 := Nat.xor_lt_two_pow (by omega) (by omega)
  show IntKind.i64.wrap ((BitVec.ofInt 64 (a : Int) ^^^ BitVec.ofInt 64 (b : Int)).toNat : Int) = _
  rw [BitVec.toNat_xor, ofInt_i64 a ha, ofInt_i64 b hb, wrapNat _ (by omega)]
theorem i64_or_nat (a b : Nat) (ha : a < 4611686018427387904) (hb : b < 4611686018427387904) : bits .or .i64 (a : Int) (b : Int) = ((a ||| b : Nat) : Int) := by
  have hx : a ||| b < 2 ^ 62 := Nat.or_lt_two_pow (by omega) (by omega)
  show IntKind.i64.wrap ((BitVec.ofInt 64 (a : Int) ||| BitVec.ofInt 64 (b : Int)).toNat : Int) = _
  rw [BitVec.toNat_or, ofInt_i64 a ha, ofInt_i64 b hb, wrapNat _ (by omega)]
theorem i64_and_nat (a b : Nat) (ha : a < 4611686018427387904) (hb : b < 4611686018427387904) : bits .and .i64 (a : Int) (b : Int) = ((a &&& b : Nat) : Int) := by
  have hx : a &&& b < 2 ^ 62 := Nat.and_lt_two_pow _ (by omega)
  show IntKind.i64.wrap ((BitVec.ofInt 64 (a : Int) &&& BitVec.ofInt 64 (b : Int)).toNat : Int) = _
  rw [BitVec.toNat_and, ofInt_i64 a ha, ofInt_i64 b hb, wrapNat _ (by omega)]
theorem i64_and1 (a : Nat) (ha : a < 4611686018427387904) : bits .and .i64 (a : Int) 1 = ((a % 2 : Nat) : Int) := by
  have := i64_and_nat a 1 ha (by omega)
  rw [nat_mask1] at this
  exact this
theorem shl_nat (q n : Nat) (h : q * 2 ^ n < 4611686018427387904) : wrap64 ((q : Int) * 2 ^ n) = ((q * 2 ^ n : Nat) : Int) := by
  have e : ((q : Int) * 2 ^ n) = ((q * 2 ^ n : Nat) : Int) := by simp
  rw [e]; unfold wrap64; omega

theorem div_nat (q k : Nat) : (q : Int) / 2 ^ k = ((q / 2 ^ k : Nat) : Int) := by simp
theorem bit_any (q k : Nat) (h : q < 4611686018427387904) : bits .and .i64 ((q : Int) / 2 ^ k) 1 = ((q / 2 ^ k % 2 : Nat) : Int) := by
  rw [div_nat, i64_and1 _ (Nat.lt_of_le_of_lt (Nat.div_le_self _ _) h)]
theorem bit_yes {q k : Nat} (h : q < 4611686018427387904) (hb : q / 2 ^ k % 2 = 1) : (bits .and .i64 ((q : Int) / 2 ^ k) 1 == 1) = true := by
  rw [bit_any q k h, hb]; rfl
theorem bit_no {q k : Nat} (h : q < 4611686018427387904) (hb : ¬ q / 2 ^ k % 2 = 1) : (bits .and .i64 ((q : Int) / 2 ^ k) 1 == 1) = false := by
  rw [bit_any q k h, show q / 2 ^ k % 2 = 0 by omega]; rfl

end Go.Proofs.Ytfpahdbkcdpchaa
