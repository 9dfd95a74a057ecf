/- The code of a field and a basis, coordinates, the matrix of a map: the model's. -/
import Derived.Test.YtcdhdgflgdmhdaaBasS
import Derived.Test.YtcdhdgflgdmhdaaListS
import Derived.Test.YtcdhdgflgdmhdaaLinS3
import Derived.Test.YtcdhdgflgdmhdaaMtRes
import Derived.Test.YtcdhdgflgdmhdaaOut
import Derived.Test.YtcdhdgflgdmhdaaOwn
import Derived.Test.YtcdhdgflgdmhdaaStep
namespace Go.Proofs.Ytcdhdgflgdmhdaa
open Go.RowKit Go.Joins
set_option linter.unusedVariables false

def cB (i b : Bool) : Int := if i then (if b then 0 else 4) else 2
set_option maxHeartbeats 1600000 in
theorem l03Based_any (m P n : Nat) (hF : Fld m P n) (b len cap : Nat) (zs : List Int) (i s : Bool) (hi : allIn n zs = i) (hs : i = true → basB m (nats zs) = s) (w : World) (hM : Mt w b len zs) :
    Calls Try.prog 53 #[.agg #[.int .i64 m, .int .i64 P], .slice (some ⟨b, 0, none⟩) len cap] w fun e w' => e = .returned (.int .i64 (cB i s)) ∧ Below w.heap.size w w' := by
  have S := fun w hM => l01List_any m P _ hF b len cap zs w hM
  rw [hi] at S
  have HS := Lib.hid S
  have HM := Lib.hid hM
  have hsm := hM.small
  cases i with
  | false =>
    clear S hM hs
    go_enter Try.func53, Try.ntmps53
    have h0 := FAt.start w m P 32
    go_wp2_with fail
    refine (HS.out _ (HM.out.below h0.b)).mono ?_
    rintro e w1 ⟨rfl, hb⟩
    have h1 := h0.next hb
    clear hb h0
    go_wp2
    go_ret
    exact ⟨rfl, h1.b⟩
  | true =>
    have hlt := nats_lt hi (by have := hF.n2; omega)
    have HRL := Lib.hid (hM.rl hi)
    have HB := fun w hR => l01Basis_any m P _ hF (some ⟨b, 0, none⟩) len cap (nats zs) hlt hsm w hR
    rw [hs rfl] at HB
    replace HB := Lib.hid HB
    generalize nats zs = p at HB HRL
    clear S hM hs hi hlt
    cases s with
    | false =>
      go_enter Try.func53, Try.ntmps53
      have h0 := FAt.start w m P 32
      go_wp2_with fail
      refine (HS.out _ (HM.out.below h0.b)).mono ?_
      rintro e w1 ⟨rfl, hb⟩
      have h1 := h0.next hb
      have c1 := h1.c0; have d1 := h1.c1
      clear hb h0
      go_wp2_with fail
      refine (HB.out _ (HRL.out.below h1.b)).mono ?_
      rintro e w3 ⟨rfl, hb⟩
      have h3 := h1.next hb
      clear hb h1 c1 d1
      go_wp2
      go_ret
      exact ⟨rfl, h3.b⟩
    | true =>
      go_enter Try.func53, Try.ntmps53
      have h0 := FAt.start w m P 32
      go_wp2_with fail
      refine (HS.out _ (HM.out.below h0.b)).mono ?_
      rintro e w1 ⟨rfl, hb⟩
      have h1 := h0.next hb
      have c1 := h1.c0; have d1 := h1.c1
      clear hb h0
      go_wp2_with fail
      refine (HB.out _ (HRL.out.below h1.b)).mono ?_
      rintro e w3 ⟨rfl, hb⟩
      have h3 := h1.next hb
      clear hb h1 c1 d1
      go_wp2
      go_ret
      exact ⟨rfl, h3.b⟩

set_option maxHeartbeats 1600000 in
theorem l03Coordinates_any (m n : Nat) (hn : 2 ^ m = n) (hm5 : m ≤ 5) (A : Option Addr) (cap : Nat) (p : List Nat) (hB : Bas m p) (hp : ∀ j, nth p j < n) (a : Nat) (ha : a < n) (w : World) (hR : Rl w .i64 A m p) :
    Calls Try.prog 54 #[.slice A m cap, .int .i64 a] w fun e w' => e = .returned (.int .i64 (crd m p a : Nat)) ∧ w = w' := by
  obtain ⟨x, hx⟩ : ∃ x, crd m p a = x := ⟨_, rfl⟩
  have h32 : n ≤ 32 := by rw [← hn]; exact Nat.pow_le_pow_right (n := 2) (by omega) hm5
  have hxl : x < n := by rw [← hx, ← hn]; exact crd_lt hB (fun j => by rw [hn]; exact hp j) (by rw [hn]; exact ha)
  have hxt : tms x p m = a := by rw [← hx]; exact crd_tms hB (fun j => by rw [hn]; exact hp j) (by rw [hn]; exact ha)
  have hno : ∀ y, y < x → tms y p m ≠ a := fun y hy e => by
    have := hB.inj (a := y) (b := x) (by rw [hn]; omega) (by rw [hn]; omega) (by rw [e, hxt]); omega
  rw [hx]
  have HX := Lib.hid hxt
  have HN := Lib.hid hno
  have HR := Lib.hid hR
  have HP := Lib.hid hp
  clear hx hxt hno hR hp hn
  go_enter Try.func54, Try.ntmps54
  go_wp2_with fail
  go_loopw [5] (fun i wr => ∃ j : Nat, j ≤ x ∧ i = .int .i64 j ∧ wr = w) (fun i _ => x - (intOf i).toNat)
  case atStart => exact ⟨0, Nat.zero_le _, rfl, rfl⟩
  case round =>
    obtain ⟨j, hj, rfl, rfl⟩ := hrel
    obtain ⟨s, hs⟩ : ∃ s, tms j p m = s := ⟨_, rfl⟩
    have hSum := l01Sum_any A m cap p (fun i => by have := HP.out i; omega) (by omega) j (by omega) wr HR.out
    rw [hs] at hSum
    have HSUM := Lib.hid hSum
    clear hSum
    by_cases hjx : j = x
    · subst hjx
      have hsa : s = a := by rw [← hs]; exact HX.out
      subst hsa
      clear hs HX HN
      go_wp2_with (go_at_call 62; refine HSUM.out.mono ?_; rintro e w' ⟨rfl, rfl⟩)
      go_ret
      exact ⟨rfl, rfl⟩
    · have hne : ¬ s = a := by rw [← hs]; exact HN.out j (by omega)
      have hne' : ((s : Int) == (a : Int)) = false := by simp; omega
      clear hs
      go_wp2_with (go_at_call 62; refine HSUM.out.mono ?_; rintro e w' ⟨rfl, rfl⟩)
      go_roundw
      case rel => exact ⟨j + 1, by omega, by go_num, by first | trivial | rfl⟩
      case measure => simp [intOf]; omega
end Go.Proofs.Ytcdhdgflgdmhdaa
