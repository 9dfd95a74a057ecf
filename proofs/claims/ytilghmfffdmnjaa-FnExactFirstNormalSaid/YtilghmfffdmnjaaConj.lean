/- Conjugates: what the model's and the program's functions return. -/
import Derived.Test.YtilghmfffdmnjaaSqr
import Derived.Test.YtilghmfffdmnjaaInv
import Derived.Test.YtilghmfffdmnjaaRow
import Derived.Test.YtilghmfffdmnjaaSv
namespace Go.Proofs.Ytilghmfffdmnjaa
open Go.RowKit Go.Joins
set_option linter.unusedVariables false

theorem cj_deg_all : ∀ P : Fin 64, irr P.val = true → ∀ a : Fin 32, a.val < 2 ^ (nb P.val - 1) → sq P.val a.val (nb P.val - 1) = a.val := by decide +kernel
theorem cj_deg {m P n a : Nat} (hF : Fld m P n) (ha : a < n) : sq P a m = a := by
  have h1 := fld_nb hF.f
  have h2 := hF.n32
  have := cj_deg_all ⟨P, hF.P64⟩ (fld_irr hF.f) ⟨a, by omega⟩ (by show a < 2 ^ (nb P - 1); rw [h1]; simp; rw [hF.n]; exact ha)
  simp only [h1, Nat.add_sub_cancel] at this
  exact this
/-- How many conjugates an element has: r, the least number of squarings that takes it back. -/
structure Orb (P a r : Nat) : Prop where
  r1 : 1 ≤ r
  back : sq P a r = a
  not : ∀ j, 1 ≤ j → j < r → sq P a j ≠ a
theorem orb_below (P a : Nat) : ∀ t, (∃ r, r ≤ t ∧ Orb P a r) ∨ ∀ j, 1 ≤ j → j ≤ t → sq P a j ≠ a := by
  intro t
  induction t with
  | zero => exact .inr (fun j h1 h2 => by omega)
  | succ t ih =>
    rcases ih with ⟨r, h1, h2⟩ | h
    · exact .inl ⟨r, by omega, h2⟩
    · by_cases e : sq P a (t + 1) = a
      · exact .inl ⟨t + 1, Nat.le_refl _, by omega, e, fun j h1 h2 => h j h1 (by omega)⟩
      · refine .inr (fun j h1 h2 => ?_)
        by_cases ej : j = t + 1
        · subst ej; exact e
        · exact h j h1 (by omega)
theorem orb_some {m P n a : Nat} (hF : Fld m P n) (ha : a < n) : ∃ r, r ≤ m ∧ Orb P a r := by
  rcases orb_below P a m with h | h
  · exact h
  · exact absurd (cj_deg hF ha) (h m hF.m1 (Nat.le_refl _))
/-- The first k conjugates. -/
def conjL (P a k : Nat) : List Int := (List.range k).map fun j => ((sq P a j : Nat) : Int)
theorem conjL_succ (P a k : Nat) : conjL P a (k + 1) = conjL P a k ++ [((sq P a k : Nat) : Int)] := by
  rw [conjL, List.range_succ, List.map_append]; rfl
theorem conjL_len (P a k : Nat) : (conjL P a k).length = k := by simp [conjL]
set_option maxRecDepth 100000 in
set_option maxHeartbeats 1600000 in
theorem l01Conjugates_any (m P n : Nat) (hF : Fld m P n) (a : Nat) (ha : a < n) (r : Nat) (hr : Orb P a r) (hrm : r ≤ m) (w : World) :
    Calls Try.prog 49 #[.agg #[.int .i64 m, .int .i64 P], .int .i64 a] w fun e w' => ∃ v, e = .returned v ∧ Below w.heap.size w w' ∧ Res w' w.heap.size w'.heap.size v (conjL P a r) := by
  obtain ⟨i0, hi, hz0, hz1, hz2⟩ := info_parts Try.infoI'
  have h32 := hF.n32
  have hm5 := hF.m5
  have hr1 := hr.r1
  have hA0 := (FAt.start w m P 23).alloc (.cells #[.int .i64 a] 2)
  have hO0 := World.ownsRow_lit (base := w.heap.size + 1) (e := 2) (size := 1) (w.alloc (.cells #[.int .i64 m, .int .i64 P] 23)) #[.int .i64 a] 1 (by simp) (by unfold maxLen; omega) rfl
  have HO0 := Lib.hid hO0
  clear hO0
  go_enter Try.func49, Try.ntmps49
  have z1 := hA0.z; have c1 := hA0.c0; have d1 := hA0.c1
  go_wp2_with fail
  refine (l01Mul_any _ _ _ hF _ _ ha ha _).mono ?_
  rintro e w2 ⟨rfl, hb⟩
  have hA2 := hA0.next hb
  have hO2 := Lib.hid (show w2.ownsRow (w.heap.size + 1) 2 1 (.slice (some ⟨w.heap.size + 1, 0, none⟩) 1 1) 1 ((conjL P a 1).map (Value.int .i64)) from by
    have := ownsRow_below HO0.out hb
    simpa [conjL, sq] using this)
  clear hb HO0
  have hs1 : sq P a 1 = mul P a a := rfl
  go_wp2_with fail
  go_loopw [5, 6] (fun v x wr => ∃ k g cp : Nat, v = .slice (some ⟨g, 0, none⟩) k cp ∧ 1 ≤ k ∧ k ≤ r ∧ x = .int .i64 (sq P a k : Nat) ∧ FAt w m P wr ∧ wr.ownsRow (w.heap.size + 1) 2 1 (.slice (some ⟨g, 0, none⟩) k cp) k ((conjL P a k).map (Value.int .i64))) (fun v _ _ => r + 1 - (match v with | .slice _ n _ => n | _ => 0))
  case atStart => exact ⟨1, _, _, rfl, Nat.le_refl _, hr1, rfl, hA2, hO2.out⟩
  case round =>
    obtain ⟨k, g, cp, rfl, hk1, hk, rfl, hA, hO⟩ := hrel
    clear hO2 hA2 hA0
    have hlt := sq_lt hF ha k
    have hsk : sq P a (k + 1) = mul P (sq P a k) (sq P a k) := rfl
    have hcs := conjL_succ P a k
    have hz := hA.z; have hc := hA.c0; have hd := hA.c1
    by_cases hkr : k = r
    · have hx : sq P a k = a := by rw [hkr]; exact hr.back
      rw [hx]
      have HO := Lib.hid hO
      have HK := Lib.hid hkr
      clear hO hkr hx hsk hcs hlt
      go_wp2_with fail
      go_ret
      exact ⟨_, rfl, hA.b, by rw [← HK.out]; exact own_res HO.out (by omega) (by omega)⟩
    · have hx : ¬ sq P a k = a := hr.not k hk1 (by omega)
      generalize sq P a k = x at hlt hsk hcs hx ⊢
      have hx' : ¬ (x : Int) = a := by omega
      have HO := Lib.hid hO
      have HCS := Lib.hid hcs
      have HSK := Lib.hid hsk
      clear hO hcs hsk hx
      go_wp2_with (at_builtin; refine wpList_append_own _ rfl _ _ 46 rfl (w.heap.size + 1) 2 i0 (.int .i64 0) 1 8 Try.underlying46 hi hz0 hz1 hz2 rfl (by decide) _ _ _ rfl (HO.out.alloc _) ⟨wr.heap.size, 0, none⟩ 1 1 [.int .i64 x] rfl rfl (one_new _ _ _) (one_one _ _) (by unfold maxLen; omega) (by omega) (by simp; omega) ?_; intro v' w3 hown' hgrow _; have hb3 : Below (w.heap.size + 1) wr w3 := ((Below.refl _ wr).alloc (by omega) _).grown hgrow (by simp; omega) (fun g hg => (HO.out.lt g hg).1); have hA3 : FAt w m P w3 := ⟨hA.b.trans (hb3.mono (by omega)), Nat.le_trans hA.z hb3.size, (hb3.cell (p := ⟨w.heap.size, 0, none⟩) (by simp)).trans hA.c0, (hb3.cell (p := ⟨w.heap.size, 1, none⟩) (by simp)).trans hA.c1⟩; have hz3 := hA3.z; have hc3 := hA3.c0; have hd3 := hA3.c1; have HO3 := Lib.hid hown'; obtain ⟨g3, cp3, rfl⟩ : ∃ g cp, v' = .slice (some ⟨g, 0, none⟩) (k + 1) cp := (ownsRow_forms HO3.out).resolve_left (fun h => by have := h.2; omega); clear hown' hgrow hb3)
      refine (l01Mul_any _ _ _ hF _ _ hlt hlt _).mono ?_
      rw [← HSK.out]
      rintro e w4 ⟨rfl, hb⟩
      have HA4 := Lib.hid (hA3.next hb)
      have HO4 := Lib.hid (ownsRow_below HO3.out hb)
      clear hb HO3
      go_wp2_with fail
      go_roundw
      case rel => exact ⟨k + 1, _, _, rfl, by omega, by omega, rfl, HA4.out, by rw [HCS.out, List.map_append]; exact HO4.out⟩
      case measure => simp; omega

set_option maxRecDepth 100000 in
set_option maxHeartbeats 1600000 in
theorem conjugates_any (c m P n : Nat) (hF : Fld m P n) (a : Nat) (ha : a < n) (r : Nat) (hr : Orb P a r) (hrm : r ≤ m) (w : World) (hC : Calc c m P n w) :
    Calls Try.prog 54 #[.pointer (some ⟨c, 0, none⟩), .int .u8 a] w fun e w' => ∃ v, e = .returned v ∧ Below w.heap.size w w' ∧ Res w' w.heap.size w'.heap.size v (conjL P a r) := by
  obtain ⟨i0, hi, hz0, hz1, hz2⟩ := info_parts Try.infoI'
  have h32 := hF.n32
  have hm5 := hF.m5
  have hr1 := hr.r1
  have hb0 := below_alloc1 w (.cells #[.int .i64 a] 2)
  have hC0 := hC.below hC.lt hb0
  have hO0 : (w.alloc (.cells #[.int .i64 a] 2)).ownsRow w.heap.size 2 1 (.slice (some ⟨w.heap.size, 0, none⟩) 1 1) 1 ((conjL P a 1).map (Value.int .i64)) := by
    have := World.ownsRow_lit (base := w.heap.size) (e := 2) (size := 1) w #[.int .i64 a] 1 (Nat.le_refl _) (by unfold maxLen; omega) rfl
    simpa [conjL, sq] using this
  have HO0 := Lib.hid hO0
  have HC0 := Lib.hid hC0
  have HB0 := Lib.hid hb0
  have hs1 : sq P a 1 = sq P (sq P a 0) 1 := rfl
  clear hO0 hb0
  go_enter Try.func54, Try.ntmps54
  go_wp2_with (go_at_call 92; refine (squared_any c m P n hF _ ha 1 (by omega) _ hC0).mono ?_; rintro e w' ⟨rfl, rfl⟩)
  clear hC0 hs1
  go_loopw [5, 6] (fun v x wr => ∃ k g cp : Nat, v = .slice (some ⟨g, 0, none⟩) k cp ∧ 1 ≤ k ∧ k ≤ r ∧ x = .int .u8 (sq P a k : Nat) ∧ Below w.heap.size w wr ∧ Calc c m P n wr ∧ wr.ownsRow w.heap.size 2 1 (.slice (some ⟨g, 0, none⟩) k cp) k ((conjL P a k).map (Value.int .i64))) (fun v _ _ => r + 1 - (match v with | .slice _ n _ => n | _ => 0))
  case atStart => exact ⟨1, _, _, rfl, Nat.le_refl _, hr1, rfl, HB0.out, HC0.out, HO0.out⟩
  case round =>
    obtain ⟨k, g, cp, rfl, hk1, hk, rfl, hB, hCr, hO⟩ := hrel
    clear HO0 HC0 HB0
    have hlt := sq_lt hF ha k
    have hsk : sq P a (k + 1) = sq P (sq P a k) 1 := rfl
    have hcs := conjL_succ P a k
    by_cases hkr : k = r
    · have hx : sq P a k = a := by rw [hkr]; exact hr.back
      rw [hx]
      have HO := Lib.hid hO
      have HK := Lib.hid hkr
      have HB := Lib.hid hB
      clear hO hkr hx hsk hcs hlt hB
      go_wp2_with fail
      go_ret
      exact ⟨_, rfl, HB.out, by rw [← HK.out]; exact own_res HO.out (by omega) (Nat.le_refl _)⟩
    · have hx : ¬ sq P a k = a := hr.not k hk1 (by omega)
      have hsz := hB.size
      generalize sq P a k = x at hlt hsk hcs hx ⊢
      have hx' : ¬ (x : Int) = a := by omega
      have HO := Lib.hid hO
      have HB := Lib.hid hB
      have HCR := Lib.hid hCr
      have HCS := Lib.hid hcs
      have HSK := Lib.hid hsk
      clear hO hcs hsk hx hB hCr
      go_wp2_with (first | (at_builtin; refine wpList_append_own _ rfl _ _ 46 rfl w.heap.size 2 i0 (.int .i64 0) 1 8 Try.underlying46 hi hz0 hz1 hz2 rfl (by decide) _ _ _ rfl (HO.out.alloc _) ⟨wr.heap.size, 0, none⟩ 1 1 [.int .i64 x] rfl rfl (one_new _ _ _) (one_one _ _) (by unfold maxLen; omega) (by omega) (by simp; omega) ?_; intro v' w3 hown' hgrow _; have hb3 : Below w.heap.size wr w3 := ((Below.refl _ wr).alloc (by omega) _).grown hgrow (by simp; omega) (fun g hg => (HO.out.lt g hg).1); have hC3 : Calc c m P n w3 := HCR.out.at3 hC.lt hb3; have HB3 := Lib.hid (HB.out.trans hb3); have HO3 := Lib.hid hown'; obtain ⟨g3, cp3, rfl⟩ : ∃ g cp, v' = .slice (some ⟨g, 0, none⟩) (k + 1) cp := (ownsRow_forms HO3.out).resolve_left (fun h => by have := h.2; omega); clear hown' hgrow hb3) | (go_at_call 92; refine (squared_any c m P n hF _ hlt 1 (by omega) _ (by assumption)).mono ?_; rw [← HSK.out]; rintro e w' ⟨rfl, rfl⟩))
      go_roundw
      case rel => exact ⟨k + 1, _, _, rfl, by omega, by omega, rfl, HB3.out, by assumption, by rw [HCS.out, List.map_append]; exact HO3.out⟩
      case measure => simp; omega
end Go.Proofs.Ytilghmfffdmnjaa
