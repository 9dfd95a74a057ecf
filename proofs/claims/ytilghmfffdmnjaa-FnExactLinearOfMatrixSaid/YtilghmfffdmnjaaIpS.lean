/- The model's interpolation. -/
import Derived.Test.YtilghmfffdmnjaaAnnS
import Derived.Test.YtilghmfffdmnjaaDivPure
import Derived.Test.YtilghmfffdmnjaaInv
namespace Go.Proofs.Ytilghmfffdmnjaa
open Go.RowKit Go.Joins
set_option linter.unusedVariables false
set_option linter.unusedSimpArgs false

/-- A field in a call's own memory, and two lists of its own. -/
structure Two (w : World) (m P : Int) (D : Option Addr) (r cd : Nat) (p : List Nat) (D2 : Option Addr) (r2 c2 : Nat) (q : List Nat) (W : World) : Prop where
  f : FAt w m P W
  a : Rs W w.heap.size D r cd p
  b : Rs W w.heap.size D2 r2 c2 q
theorem Two.next {w W W' : World} {m P : Int} {D : Option Addr} {r cd : Nat} {p : List Nat} {D2 : Option Addr} {r2 c2 : Nat} {q : List Nat} (h : Two w m P D r cd p D2 r2 c2 q W) (hb : Below W.heap.size W W') : Two w m P D r cd p D2 r2 c2 q W' := ⟨h.f.next hb, h.a.below hb, h.b.below hb⟩
theorem Two.alloc {w W : World} {m P : Int} {D : Option Addr} {r cd : Nat} {p : List Nat} {D2 : Option Addr} {r2 c2 : Nat} {q : List Nat} (h : Two w m P D r cd p D2 r2 c2 q W) (o : Obj) : Two w m P D r cd p D2 r2 c2 q (W.alloc o) := h.next (below_alloc1 W o)
theorem Two.drew {w W : World} {m P : Int} {D : Option Addr} {r cd : Nat} {p : List Nat} {D2 : Option Addr} {r2 c2 : Nat} {q : List Nat} (h : Two w m P D r cd p D2 r2 c2 q W) : Two w m P D r cd p D2 r2 c2 q W.drew := h.next ((Below.refl _ W).drew)

theorem ret_sb {A : Option Addr} {r cd : Nat} {a b : Bool} (h : a = b) : Ending.returned (.tuple #[.slice A r cd, .bool a]) = .returned (.tuple #[.slice A r cd, .bool b]) := by rw [h]
set_option maxRecDepth 100000 in
set_option maxHeartbeats 6400000 in
theorem l03Interpolate_any (m P n : Nat) (hF : Fld m P n) (A1 A2 : Option Addr) (len c1 c2 : Nat) (xs ys : List Nat) (hx : ∀ j, nth xs j < n) (hy : ∀ j, nth ys j < n) (w : World) (hlen : len ≤ 1048576) (hX : Rl w .i64 A1 len xs) (hY : Rl w .i64 A2 len ys) :
    Calls Try.prog 78 #[.agg #[.int .i64 m, .int .i64 P], .slice A1 len c1, .slice A2 len c2] w fun e w' => ∃ D r cd, e = .returned (.tuple #[.slice D r cd, .bool (ipB P n (nth xs) (nth ys) len)]) ∧ Below w.heap.size w w' ∧ (ipB P n (nth xs) (nth ys) len = true → Rs w' w.heap.size D r cd (ip P n (nth xs) (nth ys) len).2) := by
  have h32 := hF.n32
  have hn2 := hF.n2
  have HX := Lib.hid hx
  have HY := Lib.hid hy
  have HS := Lib.hid hX
  have HT := Lib.hid hY
  clear hx hy hX hY
  go_enter Try.func78, Try.ntmps78
  have hA0 := FAt.start w m P 23
  have HK1 : Hid (Two w m P (some ⟨(w.alloc (.cells #[.int .i64 m, .int .i64 P] 23)).heap.size, 0, none⟩) 0 0 [] (some ⟨((w.alloc (.cells #[.int .i64 m, .int .i64 P] 23)).alloc (.cells #[] 2)).heap.size, 0, none⟩) 1 1 [1] (((w.alloc (.cells #[.int .i64 m, .int .i64 P] 23)).alloc (.cells #[] 2)).alloc (.cells #[.int .i64 1] 2))) := by
    have h1 := (hA0.alloc (.cells #[] 2))
    exact ⟨h1.alloc _, ⟨⟨rfl, Nat.le_refl _, (fun e => by cases e), fun h => by omega⟩, fun _ => .nil _ _⟩, ⟨sv_lit1 _ 1, fun _ => res_lit1 _ 1 h1.b.size⟩⟩
  clear hA0
  go_wp2
  go_loopw [8, 9, 10] (fun u v i wr => ∃ (j : Nat) (D : Option Addr) (r cd : Nat) (D2 : Option Addr) (r2 c2 : Nat), j ≤ len ∧ i = .int .i64 j ∧ u = .slice D r cd ∧ v = .slice D2 r2 c2 ∧ Two w m P D r cd (ip P n (nth xs) (nth ys) j).2 D2 r2 c2 (ip P n (nth xs) (nth ys) j).1 wr ∧ Hid (ipOk P n (nth xs) (nth ys) j)) (fun _ _ i _ => len - (intOf i).toNat)
  case atStart => exact ⟨0, _, 0, 0, _, 1, 1, Nat.zero_le _, rfl, by first | rfl | simp, by first | rfl | simp, HK1.out, Lib.hid (fun k hk => by omega)⟩
  case round =>
    obtain ⟨j, D, r, cd, D2, r2, c2, hj, rfl, rfl, rfl, hK0, HOK⟩ := hrel
    clear HK1
    have hK := hK0.drew
    have hj32 := ip_small hF HX.out HOK.out
    have hle := ip_le P n (nth xs) (nth ys) j
    have hr1 := hK0.a.sv.len
    have hr2 := hK0.b.sv.len
    have hr33 : r ≤ 1000 := by omega
    have hr34 : r2 ≤ 1000 := by omega
    by_cases hlt : j < len
    · obtain ⟨g, rfl, hg, hc⟩ := HS.out.row (by omega)
      obtain ⟨g2, rfl, hg2, hc2⟩ := HT.out.row (by omega)
      have HCK := Lib.hid (hc j hlt)
      have HCY := Lib.hid (hc2 j hlt)
      clear hc hc2
      have hxj := HX.out j
      have hyj := HY.out j
      have HL := Lib.hid (ip_lt hF (nth xs) (nth ys) j)
      have HTM := Lib.hid (ip_trm hF (nth xs) (nth ys) j)
      have HN1 := Lib.hid (ip_next1 P n (nth xs) (nth ys) j)
      have HN2 := Lib.hid (ip_step hF (nth xs) (nth ys) j _ rfl)
      have HN3 := Lib.hid (fun h => ipOk_next HOK.out (i := j) h)
      have HN4 := Lib.hid (fun h => ipB_no (P := P) (n := n) (xs := nth xs) (ys := nth ys) hlt h)
      obtain ⟨x, hxe⟩ : ∃ x, nth xs j = x := ⟨_, rfl⟩
      obtain ⟨y, hye⟩ : ∃ y, nth ys j = y := ⟨_, rfl⟩
      rw [hxe] at HCK hxj HN1 HN2 HN3 HN4
      rw [hye] at HCY hyj HN2
      clear hxe hye
      obtain ⟨p, hp⟩ : ∃ p, (ip P n (nth xs) (nth ys) j).2 = p := ⟨_, rfl⟩
      obtain ⟨q, hq⟩ : ∃ q, (ip P n (nth xs) (nth ys) j).1 = q := ⟨_, rfl⟩
      rw [hp] at hK hK0 HL HTM HN2 hr1
      rw [hq] at hK hK0 HL HTM HN1 HN2 HN3 HN4 hr2
      clear hp hq
      have hck : wr.drew.cell? ⟨g, j, none⟩ = some (.int .i64 x) := (hK.f.b.cell (p := ⟨g, j, none⟩) hg).trans HCK.out
      have HV := Lib.hid (fun (W : World) (h : Rl W .i64 D2 r2 q) => l03Value_any m P n hF D2 r2 c2 _ HL.out.1 x hxj hr34 W h)
      have HU := Lib.hid (fun (W : World) (h : Rl W .i64 D r p) => l03Value_any m P n hF D r cd _ HL.out.2 x hxj hr33 W h)
      have hvn := vl_lt hF q x
      have hun := vl_lt hF p x
      obtain ⟨v, hve⟩ : ∃ v, vl P q x = v := ⟨_, rfl⟩
      obtain ⟨u, hue⟩ : ∃ u, vl P p x = u := ⟨_, rfl⟩
      rw [hve] at HV hvn HN1 HN2 HN3 HN4
      rw [hue] at HU hun HN2
      clear hve hue
      go_wp2
      go_region_held3 (fun w' => w'.cell? ⟨w.heap.size, 0, none⟩ = some (.int .i64 m) ∧ w'.cell? ⟨w.heap.size, 1, none⟩ = some (.int .i64 P) ∧ w'.cell? ⟨g, j, none⟩ = some (.int .i64 x) ∧ Two w m P D r cd p D2 r2 c2 q w') (first | exact ⟨hK.f.c0, hK.f.c1, hck, hK⟩ | exact ⟨by assumption, by assumption, by assumption, by assumption⟩) (first | (go_at_call 110; refine (HV.out _ (Two.b (by assumption)).sv.rl).mono ?_; rintro e w1 ⟨rfl, hb1⟩; have k1 : Two w m P D r cd p D2 r2 c2 q w1 := Two.next (by assumption) hb1; have q0 := k1.f.c0; have q1 := k1.f.c1; have q2 := (k1.f.b.cell (p := ⟨g, j, none⟩) hg).trans HCK.out; clear hb1))
      by_cases hv0 : v = 0
      · subst hv0
        have HE := Lib.hid (HN4.out rfl)
        go_wp2
        go_ret2
        exact ⟨_, _, _, ret_sb HE.out.symm, (k1.f.alloc _).b, fun h => by rw [HE.out] at h; cases h⟩
      · have g0 : ((v : Int) == 0) = false := by simp; omega
        have g1 : ((v : Int) != 0) = true := by simp; omega
        have HN5 := Lib.hid (HN3.out hv0)
        clear hck hK hK0
        have hyc := (k1.f.b.cell (p := ⟨g2, j, none⟩) hg2).trans HCY.out
        have HXR := Lib.hid (i64_xor_nat y u (by omega) (by omega))
        have hyu := hF.xor_lt hyj hun
        have hiv := inv_lt hF v
        have hcn := hF.mul_lt (y ^^^ u) (inv P n v)
        have HQ : Hid (mul P (y ^^^ u) (inv P n v) = quo P n (u ^^^ y) v) := by rw [quo, Nat.xor_comm]; exact Lib.hid rfl
        have K1 := k1.drew
        have kc0 := K1.f.c0
        have kc1 := K1.f.c1
        have kc2 : w1.drew.cell? ⟨g, j, none⟩ = some (.int .i64 x) := q2
        have kc3 : w1.drew.cell? ⟨g2, j, none⟩ = some (.int .i64 y) := hyc
        clear q0 q1 q2 k1 hyc
        go_wp2
        go_region_held3 (fun w' => w'.cell? ⟨w.heap.size, 0, none⟩ = some (.int .i64 m) ∧ w'.cell? ⟨w.heap.size, 1, none⟩ = some (.int .i64 P) ∧ w'.cell? ⟨g, j, none⟩ = some (.int .i64 x) ∧ w'.cell? ⟨g2, j, none⟩ = some (.int .i64 y) ∧ Two w m P D r cd p D2 r2 c2 q w') (first | exact ⟨kc0, kc1, kc2, kc3, K1⟩ | exact ⟨by assumption, by assumption, by assumption, by assumption, by assumption⟩) (first | (go_at_call 110; refine (HU.out _ (Two.a (by assumption)).sv.rl).mono ?_; rintro e w2 ⟨rfl, hb1⟩; have k2 : Two w m P D r cd p D2 r2 c2 q w2 := Two.next (by assumption) hb1; have q0 := k2.f.c0; have q1 := k2.f.c1; have q2 := (k2.f.b.cell (p := ⟨g, j, none⟩) hg).trans HCK.out; have q3 := (k2.f.b.cell (p := ⟨g2, j, none⟩) hg2).trans HCY.out; clear hb1) | (go_at_call 111; refine (l01Inverse_any m P n hF v hvn _).mono ?_; rintro e w3 ⟨rfl, hb1⟩; have k3 : Two w m P D r cd p D2 r2 c2 q w3 := Two.next (by assumption) hb1; have q4 := k3.f.c0; have q5 := k3.f.c1; have q6 := (k3.f.b.cell (p := ⟨g, j, none⟩) hg).trans HCK.out; have q7 := (k3.f.b.cell (p := ⟨g2, j, none⟩) hg2).trans HCY.out; clear hb1) | (go_at_call 86; rw [HXR.out]; refine (l01Mul_any _ _ _ hF _ _ hyu hiv _).mono ?_; rintro e w4 ⟨rfl, hb1⟩; have k4 : Two w m P D r cd p D2 r2 c2 q w4 := Two.next (by assumption) hb1; have q8 := k4.f.c0; have q9 := k4.f.c1; have qa := (k4.f.b.cell (p := ⟨g, j, none⟩) hg).trans HCK.out; have qb := (k4.f.b.cell (p := ⟨g2, j, none⟩) hg2).trans HCY.out; clear hb1))
        clear q0 q1 q2 q3 q4 q5 q6 q7 qa qb k2 k3 K1 kc0 kc1 kc2 kc3
        obtain ⟨cq, hcq⟩ : ∃ cq, mul P (y ^^^ u) (inv P n v) = cq := ⟨_, rfl⟩
        rw [hcq] at hcn HQ ⊢
        rw [← HQ.out] at HN2
        clear hcq
        have hs4 := k4.f.b.size
        by_cases hc0 : cq = 0
        · have HE := Lib.hid (show (ip P n (nth xs) (nth ys) (j + 1)).2 = p by have := HN2.out; rwa [if_pos hc0] at this)
          subst hc0
          have HC := Lib.hid (l03Compose_any m P n hF (some ⟨w4.heap.size, 0, none⟩) D2 2 r2 2 c2 [v, 1] q (two_lt hF hvn) HL.out.1 (two_trm v) HTM.out.1 (by omega) (by omega) _ (sv_lit2 w4 v 1) (k4.b.sv.below (below_alloc1 w4 _)))
          have HK4 := Lib.hid (k4.alloc (.cells #[.int .i64 v, .int .i64 1] 2))
          go_wp2_with fail
          refine HC.out.mono ?_
          rintro e w5 ⟨D5, r5, c5, rfl, hb5, hR5⟩
          have HK5 := Lib.hid (HK4.out.next hb5)
          have HR5 := Lib.hid (hR5.less (B' := w.heap.size) HK4.out.f.b.size)
          clear hb5 hR5
          go_wp2_with fail
          go_roundw
          case rel => exact ⟨j + 1, D, r, cd, D5, r5, c5, by omega, by go_num, rfl, rfl, by rw [HE.out, HN1.out]; exact ⟨HK5.out.f, HK5.out.a, HR5.out⟩, HN5⟩
          case measure => simp [intOf]; omega
        · have HE := Lib.hid (show (ip P n (nth xs) (nth ys) (j + 1)).2 = sumL p (cmp P [cq] q) by have := HN2.out; rwa [if_neg hc0] at this)
          have gc0 : ((cq : Int) == 0) = false := by simp; omega
          have gc1 : ((cq : Int) != 0) = true := by simp; omega
          have HC := Lib.hid (l03Compose_any m P n hF (some ⟨w4.heap.size, 0, none⟩) D2 1 r2 1 c2 [cq] q (one_lt hF hcn) HL.out.1 (.inr hc0) HTM.out.1 (by omega) (by omega) _ (sv_lit1 w4 cq) (k4.b.sv.below (below_alloc1 w4 _)))
          have HK4 := Lib.hid (k4.alloc (.cells #[.int .i64 cq] 2))
          go_wp2_with fail
          refine HC.out.mono ?_
          rintro e w5 ⟨D5, r5, c5, rfl, hb5, hR5⟩
          have HK5 := Lib.hid (HK4.out.next hb5)
          have HS5 := Lib.hid hR5.sv
          have hl5 := hR5.sv.len
          rw [cmp_one hF hcn HL.out.1, scl_length] at hl5
          have x5 := HK5.out.f.c0; have y5 := HK5.out.f.c1
          clear hb5 hR5 HC k4 q8 q9
          go_wp2_with fail
          refine (l03Sum_any D D5 r r5 cd c5 p (cmp P [cq] q) (fun i => by have := HL.out.2 i; omega) (fun i => by have := cmp_lt hF [cq] q i; omega) (by omega) (by omega) _ HK5.out.a.sv HS5.out).mono ?_
          rintro e w6 ⟨D6, r6, c6, rfl, hb6, hO6⟩
          have HK6 := Lib.hid (HK5.out.next hb6)
          have HR6 := Lib.hid (hO6.rs (B' := w.heap.size) HK5.out.f.b.size)
          have x6 := HK6.out.f.c0; have y6 := HK6.out.f.c1
          clear hb6 hO6 x5 y5
          have HC := Lib.hid (l03Compose_any m P n hF (some ⟨w6.heap.size, 0, none⟩) D2 2 r2 2 c2 [v, 1] q (two_lt hF hvn) HL.out.1 (two_trm v) HTM.out.1 (by omega) (by omega) _ (sv_lit2 w6 v 1) (HK6.out.b.sv.below (below_alloc1 w6 _)))
          have HK7 := Lib.hid (HK6.out.alloc (.cells #[.int .i64 v, .int .i64 1] 2))
          have HR7 := Lib.hid (HR6.out.below (below_alloc1 w6 (.cells #[.int .i64 v, .int .i64 1] 2)))
          go_wp2_with fail
          refine HC.out.mono ?_
          rintro e w8 ⟨D8, r8, c8, rfl, hb8, hR8⟩
          have HK8 := Lib.hid (HK7.out.next hb8)
          have HR9 := Lib.hid (HR7.out.below hb8)
          have HR8 := Lib.hid (hR8.less (B' := w.heap.size) HK7.out.f.b.size)
          clear hb8 hR8
          go_wp2_with fail
          go_roundw
          case rel => exact ⟨j + 1, D6, r6, c6, D8, r8, c8, by omega, by go_num, rfl, rfl, by rw [HE.out, HN1.out]; exact ⟨HK8.out.f, HR9.out, HR8.out⟩, HN5⟩
          case measure => simp [intOf]; omega
    · obtain rfl : j = len := by omega
      have HE := Lib.hid (ok_ipB HOK.out)
      go_wp2
      go_ret2
      exact ⟨_, _, _, ret_sb HE.out.symm, hK0.f.b, fun _ => hK0.a⟩
end Go.Proofs.Ytilghmfffdmnjaa
