/- The program's calculator: its table of products. -/
import Derived.Test.YtejpjcdnhboooaaDoorCalc
namespace Go.Proofs.YtejpjcdnhboooaaDoor
open Go.RowKit
set_option linter.unusedVariables false

/-- In the world W a calculator of the field lies at the block c. -/
structure Calc (c m P n : Nat) (W : World) : Prop where
  deg : W.cell? ⟨c, 0, none⟩ = some (.int .i64 m)
  tab : ∀ a b : Nat, a < n → b < n → W.cell? ⟨c, 1 + a * 32 + b, none⟩ = some (.int .u8 (mul P a b))


set_option maxHeartbeats 1000000 in
theorem multiply_any (B m P n : Nat) (hF : Fld m P n) (a b : Nat) (ha : a < n) (hb : b < n) (w : World) (hc : w.cell? ⟨B, 1, none⟩ = some (.int .i64 P)) :
    Calls Tryd.prog 60 #[.int .u8 a, .int .u8 b, .pointer (some ⟨B, 0, none⟩)] w fun e w' => e = .returned (.int .u8 (mul P a b)) ∧ ∃ k, w' = w.drewN k := by
  have h5 := hF.n32
  have hP := hF.P64
  have hP2 := hF.P2
  have hcl : cl 5 a b < 1048576 := by
    have := cl_lt (a := a) (b := b) (k := 5) (by omega) 5
    omega
  have hm := hF.mul_lt a b
  go_enter Tryd.func60, Tryd.ntmps60
  go_wp2
  go_quiet ((first | (go_at_call 62; exact quiet_of_eq (polyProduct_any _ _ (by omega) (by omega) _)) | (go_at_call 61; exact quiet_of_eq (polyRest_any _ _ (by omega) (by omega) (by omega) _))))
  go_wp2
  go_ret
  exact ⟨ret_int (by show ((mul P a b : Nat) : Int) % 256 = _; omega), _, rfl⟩

/-- The calculator's block when it is made. -/
def calcObj (d : Int) : Obj := .cells (#[.int .i64 d] ++ Array.replicate 1024 (.int .u8 0)) 84
end Go.Proofs.YtejpjcdnhboooaaDoor
