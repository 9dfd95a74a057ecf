/- The model's annihilator. -/
import Derived.Test.YtfnmlhilgabjeaaLinS4
import Derived.Test.YtfnmlhilgabjeaaLinS3
import Derived.Test.YtfnmlhilgabjeaaListS
namespace Go.Proofs.Ytfnmlhilgabjeaa
open Go.RowKit Go.Joins
set_option linter.unusedVariables false
set_option linter.unusedSimpArgs false

theorem l01Ok_eq' (d p : Int) (b : Bool) (h : fldI d p = b) (w : World) :
    Calls Try.prog 38 #[.agg #[.int .i64 d, .int .i64 p]] w fun e w' => e = .returned (.bool b) ∧ Below w.heap.size w w' := l01Ok_eq d p b h w
/-- A literal list of one or two numbers. -/
theorem sv_lit1 (w : World) (a : Nat) : Sv (w.alloc (.cells #[.int .i64 a] 2)) (some ⟨w.heap.size, 0, none⟩) 1 1 [a] :=
  ⟨rfl, Nat.le_refl _, (fun e => by cases e), fun _ => ⟨_, rfl, by simp, fun j hj => by
    obtain rfl : j = 0 := by omega
    simp [nth]⟩⟩
theorem sv_lit2 (w : World) (a b : Nat) : Sv (w.alloc (.cells #[.int .i64 a, .int .i64 b] 2)) (some ⟨w.heap.size, 0, none⟩) 2 2 [a, b] :=
  ⟨rfl, Nat.le_refl _, (fun e => by cases e), fun _ => ⟨_, rfl, by simp, fun j hj => by
    have : j = 0 ∨ j = 1 := by omega
    rcases this with rfl | rfl
    · simp [nth]
    · simp [nth]⟩⟩
theorem res_lit1 (w : World) (a : Nat) {B : Nat} (hB : B ≤ w.heap.size) : Res (w.alloc (.cells #[.int .i64 a] 2)) B (w.alloc (.cells #[.int .i64 a] 2)).heap.size (.slice (some ⟨w.heap.size, 0, none⟩) 1 1) (ints [a]) :=
  .row _ 1 1 _ hB (by simp) (Nat.le_refl _) rfl (by omega) (fun j hj => by
    obtain rfl : j = 0 := by omega
    simp [ints]) (fun j hj => by simp)
theorem res_up {W W' : World} {B T : Nat} {v : Value} {xs : List Int} (h : Res W B T v xs) (hT : T ≤ W.heap.size) (hb : Below W.heap.size W W') : Res W' B W'.heap.size v xs := by
  cases h with
  | nil A cap => exact .nil _ _
  | row g n cap xs h1 h2 h3 h4 h5 h6 h7 =>
    have hg : g < W.heap.size := by omega
    exact .row _ _ _ _ h1 (Nat.lt_of_lt_of_le hg hb.size) (Nat.le_refl _) h4 h5 (fun j hj => (hb.cell (p := ⟨g, j, none⟩) hg).trans (h6 j hj)) (fun j hj => (hb.frozen (p := ⟨g, j, none⟩) hg).trans (h7 j hj))
theorem Rs.below {W W' : World} {B : Nat} {A : Option Addr} {n cap : Nat} {p : List Nat} (h : Rs W B A n cap p) (hb : Below W.heap.size W W') : Rs W' B A n cap p :=
  ⟨h.sv.below hb, fun hn => res_up (h.res hn) (Nat.le_refl _) hb⟩
theorem Rs.less {W : World} {B B' : Nat} {A : Option Addr} {n cap : Nat} {p : List Nat} (h : Rs W B A n cap p) (hB : B' ≤ B) : Rs W B' A n cap p := ⟨h.sv, fun hn => (h.res hn).wide2 hB⟩

set_option maxRecDepth 100000 in
set_option maxHeartbeats 3200000 in
theorem l03Annihilator_any (m P n : Nat) (hF : Fld m P n) (b len cap : Nat) (xs : List Nat) (hx : ∀ j, nth xs j < n) (w : World) (hlen : len ≤ 1048576) (hS : Rl w .i64 (some ⟨b, 0, none⟩) len xs) :
    Calls Try.prog 53 #[.agg #[.int .i64 m, .int .i64 P], .slice (some ⟨b, 0, none⟩) len cap] w fun e w' => ∃ D r cd, e = .returned (.slice D r cd) ∧ Below w.heap.size w w' ∧ Rs w' w.heap.size D r cd (ann P (nth xs) len) := by
  have h32 := hF.n32
  have hn2 := hF.n2
  have HX := Lib.hid hx
  have HS := Lib.hid hS
  clear hx hS
  go_enter Try.func53, Try.ntmps53
  have hA0 := FAt.start w m P 26
  have HA1 := Lib.hid (hA0.alloc (.cells #[.int .i64 1] 2))
  have HR1 : Hid (Rs ((w.alloc (.cells #[.int .i64 m, .int .i64 P] 26)).alloc (.cells #[.int .i64 1] 2)) w.heap.size (some ⟨(w.alloc (.cells #[.int .i64 m, .int .i64 P] 26)).heap.size, 0, none⟩) 1 1 (ann P (nth xs) 0)) := ⟨sv_lit1 _ 1, fun _ => res_lit1 _ 1 hA0.b.size⟩
  clear hA0
  go_wp2
  go_loopw [5, 6] (fun v i wr => ∃ (j : Nat) (D : Option Addr) (r cd : Nat), j ≤ len ∧ i = .int .i64 j ∧ v = .slice D r cd ∧ FAt w m P wr ∧ Rs wr w.heap.size D r cd (ann P (nth xs) j)) (fun _ i _ => len - (intOf i).toNat)
  case atStart => exact ⟨0, _, 1, 1, Nat.zero_le _, rfl, by first | rfl | simp, HA1.out, HR1.out⟩
  case round =>
    obtain ⟨j, D, r, cd, hj, rfl, rfl, hA0, hR0⟩ := hrel
    clear HA1 HR1
    have hA := hA0.drew
    have HR := Lib.hid hR0
    clear hR0
    by_cases hlt : j < len
    · obtain ⟨g, hg1, hg, hc⟩ := HS.out.row (by omega)
      injection hg1 with hg1
      injection hg1 with hg1
      subst hg1
      have HCK := Lib.hid (hc j hlt)
      clear hc
      have hxj := HX.out j
      obtain ⟨x, hxe⟩ : ∃ x, nth xs j = x := ⟨_, rfl⟩
      rw [hxe] at HCK hxj
      have HXE := Lib.hid hxe
      clear hxe
      have hck : wr.drew.cell? ⟨b, j, none⟩ = some (.int .i64 x) := (hA.b.cell (p := ⟨b, j, none⟩) hg).trans HCK.out
      have hsm : (ann P (nth xs) j).length ≤ 33 := ann_small hF HX.out j
      have hrl := HR.out.sv.len
      have hr33 : r ≤ 1000 := by omega
      have HV := Lib.hid (fun (W : World) (h : Rl W .i64 D r (ann P (nth xs) j)) => l03Value_any m P n hF D r cd _ (ann_lt hF (nth xs) j) x hxj hr33 W h)
      have hvn := vl_lt hF (ann P (nth xs) j) x
      obtain ⟨v, hve⟩ : ∃ v, vl P (ann P (nth xs) j) x = v := ⟨_, rfl⟩
      rw [hve] at HV hvn
      have HVE := Lib.hid hve
      clear hve
      have HRL := Lib.hid (show Rl wr.drew .i64 D r (ann P (nth xs) j) from HR.out.sv.rl.same rfl)
      go_wp2
      go_region_held3 (fun w' => w'.cell? ⟨w.heap.size, 0, none⟩ = some (.int .i64 m) ∧ w'.cell? ⟨w.heap.size, 1, none⟩ = some (.int .i64 P) ∧ w'.cell? ⟨b, j, none⟩ = some (.int .i64 x) ∧ FAt w m P w') (first | exact ⟨hA.c0, hA.c1, hck, hA⟩ | exact ⟨by assumption, by assumption, by assumption, by assumption⟩) (first | (go_at_call 43; refine (HV.out _ HRL.out).mono ?_; rintro e w1 ⟨rfl, hb1⟩; have k1 : FAt w m P w1 := FAt.next (by assumption) hb1; have q0 := k1.c0; have q1 := k1.c1; have q2 := (k1.b.cell (p := ⟨b, j, none⟩) hg).trans HCK.out; have HR1 := Lib.hid (HR.out.below ((Below.refl _ wr).drew.trans (hb1.mono (Nat.le_refl _)))); clear hb1))
      by_cases hv0 : v = 0
      · have HE := Lib.hid (show ann P (nth xs) (j + 1) = ann P (nth xs) j by simp only [ann]; rw [HXE.out, HVE.out, if_pos hv0])
        subst hv0
        go_wp2
        go_roundw
        case rel => exact ⟨j + 1, D, r, cd, by omega, by go_num, rfl, k1, by rw [HE.out]; exact HR1.out⟩
        case measure => simp [intOf]; omega
      · have HE := Lib.hid (show ann P (nth xs) (j + 1) = cmp P [v, 1] (ann P (nth xs) j) by simp only [ann]; rw [HXE.out, HVE.out, if_neg hv0])
        have g0 : ((v : Int) == 0) = false := by simp; omega
        have g1 : ((v : Int) != 0) = true := by simp; omega
        have HC := Lib.hid (l03Compose_any m P n hF (some ⟨w1.heap.size, 0, none⟩) D 2 r 2 cd [v, 1] (ann P (nth xs) j) (two_lt hF hvn) (ann_lt hF (nth xs) j) (two_trm v) (ann_trm hF (nth xs) j) (by omega) (by omega) _ (sv_lit2 w1 v 1) (HR1.out.sv.below (below_alloc1 w1 _)))
        have HK1 := Lib.hid (k1.alloc (.cells #[.int .i64 v, .int .i64 1] 2))
        go_wp2_with (go_at_call 49; refine HC.out.mono ?_; rintro e w2 ⟨D2, r2, c2, rfl, hb2, hR2⟩; have HK2 := Lib.hid (HK1.out.next hb2); have HR2 := Lib.hid (hR2.less (B' := w.heap.size) HK1.out.b.size); clear hb2 hR2)
        go_roundw
        case rel => exact ⟨j + 1, D2, r2, c2, by omega, by go_num, rfl, HK2.out, by rw [HE.out]; exact HR2.out⟩
        case measure => simp [intOf]; omega
    · obtain rfl : j = len := by omega
      go_wp2
      go_ret
      exact ⟨_, _, _, rfl, hA0.b, HR.out⟩
end Go.Proofs.Ytfnmlhilgabjeaa
