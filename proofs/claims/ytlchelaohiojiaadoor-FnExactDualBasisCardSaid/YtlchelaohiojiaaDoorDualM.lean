/- DualBasis: the model's where there is one. -/
import Derived.Test.YtlchelaohiojiaaDoorDualS
import Derived.Maps.AppendAt
import Derived.RangeFuncBox
import Derived.Sort.QuietIn
import Derived.Test.YtlchelaohiojiaaDoorSv
namespace Go.Proofs.YtlchelaohiojiaaDoor
open Go.RowKit Go.Shelf Go.Joins
attribute [local go_sem] Oper.semAt_some
set_option linter.unusedVariables false

/-- The first k of a dual basis. -/
def dus (P m n : Nat) (q : List Nat) (k : Nat) : List Nat := (List.range k).map (dul P m n q)
theorem dus_succ (P m n : Nat) (q : List Nat) (k : Nat) : dus P m n q (k + 1) = dus P m n q k ++ [dul P m n q k] := range_succ_map _ _
theorem dus_len (P m n : Nat) (q : List Nat) (k : Nat) : (dus P m n q k).length = k := by simp [dus]
/-- What has come of the element number k by y. -/
def dup (P m n : Nat) (q : List Nat) (k y : Nat) : List Nat := if dul P m n q k < y then [dul P m n q k] else []
/-- Whether the traces are asked for so far. -/
def dok (P m : Nat) (q : List Nat) (i y k : Nat) : Bool := (List.range k).all fun j => tr P (mul P (nth q j) y) m == if j = i then 1 else 0
theorem dok_succ (P m : Nat) (q : List Nat) (i y k : Nat) : dok P m q i y (k + 1) = (dok P m q i y k && (tr P (mul P (nth q k) y) m == if k = i then 1 else 0)) := by
  simp [dok, List.range_succ, List.all_append]
theorem dok_iff {m P n : Nat} (hF : Fld m P n) {q : List Nat} (hB : Bas m q) (hq : ∀ j, nth q j < n) {i y : Nat} (hi : i < m) (hy : y < n) : dok P m q i y m = true ↔ y = dul P m n q i := by
  rw [← dul_iff hF hB hq hi hy, trm_one hF hq hy hi]
  simp [dok, List.all_eq_true]

theorem backD {a W W' : World} (hb : Below W.heap.size W W') (h : Below a.heap.size a W) : Below a.heap.size a W' := h.trans (hb.mono h.size)
set_option maxRecDepth 100000 in
set_option maxHeartbeats 6400000 in
theorem specDual_C (m P n : Nat) (hF : Fld m P n) (b len cap : Nat) (zs : List Int) (w : World) (hM : Mt w b len zs) (hi : allIn n zs = true) (hs : basB m (nats zs) = true) :
    Calls Tryd.prog 22 #[.agg #[.int .i64 m, .int .i64 P], .slice (some ⟨b, 0, none⟩) len cap] w fun e w' => ∃ v, e = .returned (.tuple #[v, .int .i64 0]) ∧ Below w.heap.size w w' ∧ Res w' w.heap.size w'.heap.size v (ints (dus P m n (nats zs) m)) := by
  obtain ⟨i0, hi0, hz0, hz1, hz2⟩ := info_parts Tryd.infoI
  have HM := Lib.hid hM
  have hsm := hM.small
  have h32 := hF.n32
  have hn2 := hF.n2
  have hm5 := hF.m5
  obtain rfl : len = m := by have := hM.len; have h2 := (basB_bas hs).len; rw [nats_length] at h2; omega
  have S := fun w hM => l01List_any len P _ hF b len cap zs w hM
  rw [hi] at S
  have HS := Lib.hid S
  have HX := Lib.hid (nats_lt hi (by have := hF.n2; omega))
  have HBas := Lib.hid (basB_bas hs)
  have HB := Lib.hid (fun w hR => l01Basis_any len P _ hF (some ⟨b, 0, none⟩) len cap (nats zs) (nats_lt hi (by have := hF.n2; omega)) hsm w hR)
  have HR := Lib.hid (hM.rl hi)
  rw [hs] at HB
  clear hi S hM hs
  generalize nats zs = q at HX HBas HB HR ⊢
  go_enter Tryd.func22, Tryd.ntmps22
  have h0 := FAt.start w len P 25
  go_wp2_with fail
  refine (HS.out _ (HM.out.below h0.b)).mono ?_
  rintro e w1 ⟨rfl, hb⟩
  have h1 := h0.next hb
  have c1 := h1.c0; have d1 := h1.c1
  have H1 := Lib.hid h1
  clear hb h0 h1
  rw [show cIn true = 0 from rfl]
  go_wp2_with fail
  refine (HB.out _ (HR.out.below H1.out.b)).mono ?_
  rintro e w2 ⟨rfl, hb⟩
  have h2 := H1.out.next hb
  have hz2' := h2.z
  have HA := Lib.hid (h2.alloc (.cells #[] 2))
  have HO : Hid (OL (w2.alloc (.cells #[] 2)) (w.heap.size + 1) (some ⟨w2.heap.size, 0, none⟩) 0 0 (dus P len n q 0)) := ⟨rfl, World.ownsRow_made w2 #[] 0 (by omega) (by unfold maxLen; omega) (by simp)⟩
  clear hb c1 d1 h2
  go_wp2_with fail
  go_loopw [7, 8] (fun v i wr => ∃ (k cp : Nat) (A : Option Addr), k ≤ len ∧ i = .int .i64 k ∧ v = .slice A k cp ∧ FAt w len P wr ∧ OL wr (w.heap.size + 1) A k cp (dus P len n q k)) (fun _ i _ => len - (intOf i).toNat)
  case atStart => exact ⟨0, 0, _, Nat.zero_le _, rfl, rfl, HA.out, HO.out⟩
  case round =>
    obtain ⟨k, cp, A, hk, rfl, rfl, hA, hO⟩ := hrel
    clear HA HO
    have HA := Lib.hid hA
    have HO := Lib.hid hO
    clear hA hO
    by_cases hlt : k < len
    · go_wp2_with fail
      go_loopw [7, 9] (fun v y wr => ∃ (yy r cp : Nat) (A : Option Addr), yy ≤ n ∧ y = .int .i64 yy ∧ v = .slice A r cp ∧ FAt w len P wr ∧ OL wr (w.heap.size + 1) A r cp (dus P len n q k ++ dup P len n q k yy)) (fun _ y _ => n - (intOf y).toNat)
      case atStart => exact ⟨0, k, cp, A, Nat.zero_le _, rfl, rfl, HA.out, by rw [show dup P len n q k 0 = [] by simp [dup], List.append_nil]; exact HO.out⟩
      case round =>
        obtain ⟨yy, r, cp2, A2, hy, rfl, rfl, hA, hO⟩ := hrel
        clear HA HO
        have hz := hA.z; have c0 := hA.c0; have c1 := hA.c1
        have hrl := hO.len
        have hdl : (dup P len n q k yy).length ≤ 1 := by unfold dup; split <;> simp
        rw [List.length_append, dus_len] at hrl
        have HA := Lib.hid hA
        have HO := Lib.hid hO
        clear hA hO
        go_wp2_with fail
        refine (l01Size_any _ _ _ hF _).mono ?_
        rintro e w3 ⟨rfl, hb⟩
        have h3 := HA.out.next hb
        have z3 := h3.z
        have HA3 := Lib.hid h3
        have HO3 := Lib.hid (HO.out.below hb)
        clear hb h3 c0 c1 HA HO
        by_cases hyl : yy < n
        · go_wp2_with fail
          go_loopw [10, 11] (fun ok kk wr => ∃ j : Nat, j ≤ len ∧ kk = .int .i64 j ∧ ok = .bool (dok P len q k yy j) ∧ FAt w len P wr ∧ OL wr (w.heap.size + 1) A2 r cp2 (dus P len n q k ++ dup P len n q k yy)) (fun _ kk _ => len - (intOf kk).toNat)
          case atStart => exact ⟨0, Nat.zero_le _, rfl, by simp [dok], HA3.out, HO3.out⟩
          case round =>
            obtain ⟨j, hj, rfl, rfl, hA, hO⟩ := hrel
            clear HA3 HO3
            have hz := hA.z; have c0 := hA.c0; have c1 := hA.c1
            have HA := Lib.hid hA
            have HO := Lib.hid hO
            clear hA hO
            by_cases hjl : j < len
            · obtain ⟨g, eg, hg, hc⟩ := (HR.out.below HA.out.b).row (by omega)
              obtain rfl : b = g := by injection eg with e; injection e
              have hrow := hc j hjl
              clear hc
              have hx := HX.out j
              have HE := Lib.hid (dok_succ P len q k yy j)
              have hml := hF.mul_lt (nth q j) yy
              have ht2 := tr_two hF hml
              have HMU := Lib.hid (fun w => l01Mul_any len P n hF (nth q j) yy hx hyl w)
              have HTR := Lib.hid (fun w => l01Trace_any len P n hF (mul P (nth q j) yy) hml w)
              generalize mul P (nth q j) yy = x at HE hml ht2 HMU HTR
              generalize tr P x len = t at HE ht2 HTR
              generalize nth q j = u at hx hrow HMU
              have CB : ∀ w' : World, Below wr.heap.size wr w' → w'.cell? ⟨w.heap.size, 0, none⟩ = some (.int .i64 len) ∧ w'.cell? ⟨w.heap.size, 1, none⟩ = some (.int .i64 P) ∧ w'.cell? ⟨b, j, none⟩ = some (.int .i64 u) ∧ Below wr.heap.size wr w' := fun w' hB => ⟨(HA.out.next hB).c0, (HA.out.next hB).c1, (hB.cell (p := ⟨b, j, none⟩) hg).trans hrow, hB⟩
              have hD : Below wr.heap.size wr wr.drew := (Below.refl _ _).drew
              replace CB := Lib.hid CB
              cases hd : dok P len q k yy j with
              | false =>
                rw [hd] at HE
                by_cases hjk : j = k
                · subst hjk
                  go_wp2_with fail
                  go_quiet (fail)
                  go_wp2_with fail
                  go_roundw
                  case rel => exact ⟨j + 1, by omega, by go_num, by rw [HE.out]; rfl, HA.out.next (below_drewN (Below.refl _ _) _), HO.out.drewN _⟩
                  case measure => simp [intOf]; omega
                · have hjk2 : ¬ (j : Int) = (k : Int) := by omega
                  have hjk3 : ((j : Int) == (k : Int)) = false := by simp; omega
                  go_wp2_with fail
                  go_quiet (fail)
                  go_wp2_with fail
                  go_roundw
                  case rel => exact ⟨j + 1, by omega, by go_num, by rw [HE.out]; rfl, HA.out.next (below_drewN (Below.refl _ _) _), HO.out.drewN _⟩
                  case measure => simp [intOf]; omega
              | true =>
                rw [hd] at HE
                clear c0 c1 hrow
                by_cases hjk : j = k
                · subst hjk
                  rw [if_pos rfl] at HE
                  go_wp2_with fail
                  go_region_held3 (fun w' => w'.cell? ⟨w.heap.size, 0, none⟩ = some (.int .i64 len) ∧ w'.cell? ⟨w.heap.size, 1, none⟩ = some (.int .i64 P) ∧ w'.cell? ⟨b, j, none⟩ = some (.int .i64 u) ∧ Below wr.heap.size wr w') (first | exact CB.out _ hD | exact CB.out _ (by assumption)) (first | (go_at_call 57; with_reducible refine (HMU.out _).mono ?_; rintro e wa ⟨rfl, hr⟩; have GA := backD hr (by assumption); clear hr) | (go_at_call 56; with_reducible refine (HTR.out _).mono ?_; rintro e wb ⟨rfl, hr⟩; have GB := backD hr (by assumption); clear hr))
                  go_wp2_with fail
                  go_roundw
                  case rel => exact ⟨j + 1, by omega, by go_num, by rw [HE.out]; rcases (show t = 0 ∨ t = 1 by omega) with rfl | rfl <;> rfl, HA.out.next GB, HO.out.below GB⟩
                  case measure => simp [intOf]; omega
                · rw [if_neg hjk] at HE
                  have hjk2 : ¬ (j : Int) = (k : Int) := by omega
                  have hjk3 : ((j : Int) == (k : Int)) = false := by simp; omega
                  go_wp2_with fail
                  go_region_held3 (fun w' => w'.cell? ⟨w.heap.size, 0, none⟩ = some (.int .i64 len) ∧ w'.cell? ⟨w.heap.size, 1, none⟩ = some (.int .i64 P) ∧ w'.cell? ⟨b, j, none⟩ = some (.int .i64 u) ∧ Below wr.heap.size wr w') (first | exact CB.out _ hD | exact CB.out _ (by assumption)) (first | (go_at_call 57; with_reducible refine (HMU.out _).mono ?_; rintro e wa ⟨rfl, hr⟩; have GA := backD hr (by assumption); clear hr) | (go_at_call 56; with_reducible refine (HTR.out _).mono ?_; rintro e wb ⟨rfl, hr⟩; have GB := backD hr (by assumption); clear hr))
                  go_wp2_with fail
                  go_roundw
                  case rel => exact ⟨j + 1, by omega, by go_num, by rw [HE.out]; rcases (show t = 0 ∨ t = 1 by omega) with rfl | rfl <;> rfl, HA.out.next GB, HO.out.below GB⟩
                  case measure => simp [intOf]; omega
            · obtain rfl : j = len := by omega
              cases hd : dok P j q k yy j with
              | true =>
                have hyd := (dok_iff hF HBas.out HX.out hlt hyl).1 hd
                have HD := Lib.hid (show dus P j n q k ++ dup P j n q k (yy + 1) = (dus P j n q k ++ dup P j n q k yy) ++ [yy] by unfold dup; rw [← hyd, if_pos (by omega), if_neg (by omega)]; simp)
                clear hyd hd
                go_wp2_with (at_builtin; refine wpList_append_own _ rfl _ _ 28 rfl (w.heap.size + 1) 2 i0 (.int .i64 0) 1 8 Tryd.underlying28 hi0 hz0 hz1 hz2 rfl (by decide) _ _ _ rfl (HO.out.own.alloc _) ⟨wr.heap.size, 0, none⟩ 1 1 [.int .i64 yy] rfl rfl (one_new _ _ _) (one_one _ _) (by unfold maxLen; omega) (by omega) (by simp; omega) ?_; intro v' w4 hown' hgrow _; have hb4 : Below (w.heap.size + 1) wr w4 := ((Below.refl _ wr).alloc (by omega) _).grown hgrow (by simp; omega) (fun g hg => (HO.out.own.lt g hg).1); have HA4 := Lib.hid (show FAt w j P w4 from ⟨HA.out.b.trans (hb4.mono (by omega)), Nat.le_trans HA.out.z hb4.size, (hb4.cell (p := ⟨w.heap.size, 0, none⟩) (by simp)).trans HA.out.c0, (hb4.cell (p := ⟨w.heap.size, 1, none⟩) (by simp)).trans HA.out.c1⟩); obtain ⟨A4, cp4, hv4, hO4⟩ := OL.of (n := r + 1) (p := dus P j n q k ++ dup P j n q k (yy + 1)) (by rw [HD.out]; simpa [ints] using hown'); subst hv4; have HO4 := Lib.hid hO4; clear hown' hgrow hO4 hb4)
                go_roundw
                case rel => exact ⟨yy + 1, r + 1, cp4, A4, by omega, by go_num, rfl, HA4.out, HO4.out⟩
                case measure => simp [intOf]; omega
              | false =>
                have hyd : yy ≠ dul P j n q k := fun e => by rw [(dok_iff hF HBas.out HX.out hlt hyl).2 e] at hd; cases hd
                have HD := Lib.hid (show dup P j n q k (yy + 1) = dup P j n q k yy by unfold dup; by_cases h : dul P j n q k < yy <;> simp [h] <;> omega)
                go_wp2_with fail
                go_roundw
                case rel => exact ⟨yy + 1, r, cp2, A2, by omega, by go_num, rfl, HA.out, by rw [HD.out]; exact HO.out⟩
                case measure => simp [intOf]; omega
        · obtain rfl : yy = n := by omega
          have HD := Lib.hid (show dus P len yy q k ++ dup P len yy q k yy = dus P len yy q (k + 1) by rw [dus_succ]; unfold dup; rw [if_pos (dul_spec hF HBas.out HX.out hlt).1])
          have hr1 : r = k + 1 := by have := HO3.out.len; rw [HD.out, dus_len] at this; omega
          subst hr1
          go_wp2_with fail
          go_roundw
          case rel => exact ⟨k + 1, cp2, A2, by omega, by go_num, rfl, HA3.out, by rw [← HD.out]; exact HO3.out⟩
          case measure => simp [intOf]; omega
    · obtain rfl : k = len := by omega
      go_wp2_with fail
      go_ret2
      exact ⟨_, rfl, HA.out.b, HO.out.res (by omega) (by omega)⟩
end Go.Proofs.YtlchelaohiojiaaDoor
