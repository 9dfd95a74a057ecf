/- Fields, elements and numbers that are drawn: what the drawing functions return. -/
import Derived.Test.YtpjnpkgndghlhaaDraw
namespace Go.Proofs.Ytpjnpkgndghlhaa
open Go.RowKit Go.Joins Go.ChangeShapes
set_option linter.unusedVariables false

theorem fCs_snoc (d : Nat) (L : List Nat) (p : Nat) : fCs d (L ++ [p]) = fCs d L ++ [.int .i64 (d : Nat), .int .i64 (p : Nat)] := by simp [fCs]

set_option maxRecDepth 100000 in
set_option maxHeartbeats 6400000 in
theorem l01Fields_any (d : Nat) (h1 : 1 ≤ d) (h5 : d ≤ 5) (w : World) :
    Calls Try.prog 35 #[.int .i64 d] w fun e w' => ∃ g cap, e = .returned (.slice (some ⟨g, 0, none⟩) (fOf d (2 * 2 ^ d)).length cap) ∧ Below w.heap.size w w' ∧ w'.ownsRow w.heap.size 23 2 (.slice (some ⟨g, 0, none⟩) (fOf d (2 * 2 ^ d)).length cap) (fOf d (2 * 2 ^ d)).length (fCs d (fOf d (2 * 2 ^ d))) := by
  obtain ⟨i0, hi, hz0, hz1, hz2⟩ := info_parts Try.infoFd
  have hne := fOf_ne ⟨d, by omega⟩ (by show 0 < d; omega)
  have HNE := Lib.hid hne
  have hO0 := World.ownsRow_lit (base := w.heap.size) (e := 23) (size := 2) w #[] 0 (Nat.le_refl _) (by unfold maxLen; omega) rfl
  have HO0 := Lib.hid hO0
  have HB0 := Lib.hid (below_alloc1 w (.cells #[] 23))
  clear hO0 hne
  obtain ⟨N, hN⟩ : ∃ N, 2 ^ d = N := ⟨_, rfl⟩
  have hNN : N ≤ 32 := by rw [← hN]; exact Nat.pow_le_pow_right (n := 2) (by omega) h5
  have hsh : (2 : Int) ^ d = (N : Int) := by rw [← hN]; simp
  have HST := Lib.hid (fOf_nil d N (by omega))
  have HSU : Hid (∀ p, fOf d (p + 1) = if N ≤ p ∧ irr p = true then fOf d p ++ [p] else fOf d p) := Lib.hid fun p => by rw [fOf, hN]
  have HNE' : Hid ((fOf d (2 * N)).length ≠ 0) := Lib.hid (by rw [← hN]; exact HNE.out)
  rw [hN]
  clear HNE
  go_enter Try.func35, Try.ntmps35
  go_wp2_with fail
  go_loopw [3, 4] (fun u i wr => ∃ (p : Nat) (ao : Option Addr) (mo co : Nat), u = .slice ao mo co ∧ N ≤ p ∧ p ≤ 2 * N ∧ i = .int .i64 (p : Nat) ∧ wr.ownsRow w.heap.size 23 2 (.slice ao mo co) (fOf d p).length (fCs d (fOf d p)) ∧ Below w.heap.size w wr) (fun _ i _ => 2 * N - (intOf i).toNat)
  case atStart =>
    exact ⟨N, _, _, _, rfl, Nat.le_refl _, by omega, rfl, by rw [HST.out]; exact HO0.out, HB0.out⟩
  case round =>
    obtain ⟨p, ao, mo, co, rfl, hp1, hp2, rfl, hO, hB⟩ := hrel
    clear HO0 HB0
    have HO := Lib.hid hO
    have HB := Lib.hid hB
    have hU := HSU.out p
    clear hO hB
    by_cases hlt : p < 2 * N
    · have hz := HB.out.size
      by_cases hirr : irr p = true
      · rw [if_pos ⟨hp1, hirr⟩] at hU
        have HU := Lib.hid hU
        have HI := Lib.hid hirr
        clear hU hirr
        go_wp2_with (first
          | (at_builtin; (refine wpList_append_own _ rfl _ _ 28 rfl w.heap.size 23 i0 (.agg #[.int .i64 0, .int .i64 0]) 2 16 Try.underlying28 hi hz0 hz1 hz2 rfl (by decide) _ _ _ rfl (HO.out.alloc _) ⟨wr.heap.size, 0, none⟩ 1 1 [.int .i64 (d : Nat), .int .i64 (p : Nat)] rfl rfl (two_new wr _ _ _) (two_one _ _ _) (by have := fOf_len d p; unfold maxLen; omega) (by have := fOf_len d p; omega) (by simp; omega) ?_; intro v' w3 hown' hgrow _; have hb3 : Below w.heap.size wr w3 := ((Below.refl _ wr).alloc hz _).grown hgrow (by simp; omega) (fun g hg => (HO.out.lt g hg).1); obtain ⟨g3, cp3, rfl⟩ : ∃ g cp, v' = .slice (some ⟨g, 0, none⟩) ((fOf d p).length + 1) cp := (ownsRow_forms hown').resolve_left (fun h => by have := h.2; omega); have HO3 := Lib.hid hown'; have HB3 := Lib.hid (HB.out.trans hb3); clear hown' hgrow hb3))
          | (go_at_call 62; refine (l01Irreducible_any p (by omega) _).mono ?_; rw [HI.out]; rintro e w1 ⟨rfl, rfl⟩))
        go_roundw
        case rel => exact ⟨p + 1, _, _, _, rfl, by omega, by omega, by go_num, by rw [HU.out, List.length_append, fCs_snoc]; exact HO3.out, HB3.out⟩
        case measure => simp [intOf]; omega
      · rw [if_neg (fun h => hirr h.2)] at hU
        have HU := Lib.hid hU
        have HI := Lib.hid (show irr p = false by simpa using hirr)
        clear hU hirr
        go_wp2_with (go_at_call 62; refine (l01Irreducible_any p (by omega) _).mono ?_; rw [HI.out]; rintro e w1 ⟨rfl, rfl⟩)
        go_roundw
        case rel => exact ⟨p + 1, _, _, _, rfl, by omega, by omega, by go_num, by rw [HU.out]; exact HO.out, HB.out⟩
        case measure => simp [intOf]; omega
    · obtain rfl : p = 2 * N := by omega
      go_wp2_with fail
      go_ret
      rcases ownsRow_forms HO.out with ⟨_, h0⟩ | ⟨g, cap, e⟩
      · exact absurd h0 HNE'.out
      · injection e with e1 e2 e3
        subst e1 e2
        exact ⟨g, co, rfl, HB.out, HO.out⟩
end Go.Proofs.Ytpjnpkgndghlhaa
