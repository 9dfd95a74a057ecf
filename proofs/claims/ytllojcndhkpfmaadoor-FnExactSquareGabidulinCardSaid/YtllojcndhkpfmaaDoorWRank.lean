/- The rank of a word and the sum of two: the program's. -/
import Derived.Test.YtllojcndhkpfmaaDoorWords
import Derived.Test.YtllojcndhkpfmaaDoorRow11
namespace Go.Proofs.YtllojcndhkpfmaaDoor
open Go.RowKit Go.Joins
set_option linter.unusedVariables false

theorem lt_mem {p : List Nat} {n : Nat} (hp : ∀ j, nth p j < n) : ∀ r ∈ p, r < n := fun r hr => by
  obtain ⟨j, hj, rfl⟩ := List.getElem_of_mem hr
  have := hp j
  simpa [nth, hj] using this

set_option maxRecDepth 100000 in
set_option maxHeartbeats 3200000 in
theorem rank_any (m : Nat) (hm : m ≤ 5) (A : Option Addr) (n cap : Nat) (p : List Nat) (hp : ∀ r ∈ p, r < 2 ^ m) (hn : n ≤ 1048576) (w : World) (hR : Rl w .u8 A n p) (hT : Tab w) :
    Calls Tryd.prog 31 #[.slice A n cap] w fun e w' => e = .returned (.int .i64 ((joined [] p).length : Nat)) ∧ Below w.heap.size w w' := by
  have hlen := hR.len
  have hG := (RAt.start w 86)
  have hb := below_alloc1 w (.cells #[.int .i64 0, .int .u32 0, .int .u32 0, .int .u32 0, .int .u32 0, .int .u32 0, .int .u32 0, .int .u32 0, .int .u32 0, .int .u32 0, .int .u32 0] 86)
  have HG := Lib.hid hG
  have HB := Lib.hid hb
  have HR := Lib.hid hR
  clear hG hb hR
  go_enter Tryd.func31, Tryd.ntmps31
  go_wp2_with fail
  go_loopw [8] (fun i wr => ∃ k : Nat, k ≤ n ∧ i = .int .i64 k ∧ RAt wr w.heap.size (joined [] (p.take k)) ∧ Below w.heap.size w wr) (fun i _ => n - (intOf i).toNat)
  case atStart => exact ⟨0, Nat.zero_le _, rfl, HG.out, HB.out⟩
  case round =>
    obtain ⟨k, hk, rfl, hG, hb⟩ := hrel
    clear HG HB
    by_cases hlt : k < n
    · have hJ := joined_spec (p.take k) Ech.nil
      have hJl := joined_lt .nil (by simp) (take_lt hp k)
      have hx : nth p k < 2 ^ m := nth_bound hp k
      have hp5 : 2 ^ m ≤ 2 ^ 5 := Nat.pow_le_pow_right (by omega) hm
      have hx20 := lt20 (show m ≤ 20 by omega) hp k
      have hjt := joined_take (L := []) (M := p) (k := k) (by omega)
      have hTr := hT.below hb
      have S := span_r w.heap.size (joined [] (p.take k)) hJ.1 (lt20 (show m ≤ 20 by omega) hJl) (nth p k) hx20 wr hG hTr hT.2 (fun h => Nat.lt_of_lt_of_le (span_len hJ.1 hJl hx h) (by omega))
      rw [← hjt] at S
      obtain ⟨g, rfl, hg, hc⟩ := (HR.out.below hb).row (by omega)
      have hck := hc k hlt
      clear hc
      obtain ⟨x, hxe⟩ : ∃ x, nth p k = x := ⟨_, rfl⟩
      rw [hxe] at S hx20 hck hx
      have HS := Lib.hid S
      have HB := Lib.hid hb
      have e1 : IntKind.u32.wrap (x : Int) = x := by rw [IntKind.wrap_u32']; omega
      clear S hb hJ hJl hjt hTr hG hxe
      go_wp2_with (go_at_call 47; refine HS.out.mono ?_; rintro e w2 ⟨rfl, hG2, hO2⟩)
      go_roundw
      case rel => exact ⟨k + 1, by omega, by go_num, hG2, hO2.below HB.out (Nat.le_refl _)⟩
      case measure => simp [intOf]; omega
    · obtain rfl : k = n := by omega
      have ht : p.take k = p := by rw [← hlen]; exact List.take_length
      rw [ht] at hG
      have c0 := hG.c0
      have HB := Lib.hid hb
      clear hG hb ht
      go_wp2_with fail
      go_ret
      exact ⟨rfl, HB.out⟩
end Go.Proofs.YtllojcndhkpfmaaDoor
