/- Whether a matrix tells a space: the model's. -/
import Derived.Test.YtilghmfffdmnjaaDoorValid
import Derived.Test.YtilghmfffdmnjaaDoorSpaceFor
import Derived.Test.YtilghmfffdmnjaaDoorKernelOf
import Derived.Test.YtilghmfffdmnjaaDoorSame
namespace Go.Proofs.YtilghmfffdmnjaaDoor
open Go.RowKit Go.Joins
set_option linter.unusedVariables false

theorem ints_inj {L M : List Nat} : ints L = ints M ↔ L = M := ⟨fun h => by rw [← toNats_ints L, h, toNats_ints], fun h => by rw [h]⟩

set_option maxHeartbeats 1600000 in
theorem l02Ok_quietR (q : Nat) (c : Int) (A : Option Addr) (n cap : Nat) (xs : List Int) (w : World) (hm : MR w q c A n cap) (hM : Rd w w.heap.size A n xs) :
    Calls Tryd.prog 122 #[.pointer (some ⟨q, 0, none⟩)] w fun e w' => e = .returned (.bool (okM c xs)) ∧ ∃ m, w' = w.drewN m := by
  have c0 := hm.c0
  have c1 := hm.c1
  have hlen := hM.len
  have hsm := hM.small
  by_cases hc : 1 ≤ c ∧ c ≤ 10
  · obtain ⟨C, rfl⟩ : ∃ C : Nat, c = C := ⟨c.toNat, by omega⟩
    by_cases hn : n ≤ 10
    · have hp : 2 ^ C ≤ 1024 := pow_le10 (by omega)
      go_enter Tryd.func122, Tryd.ntmps122
      have hpi : (2 : Int) ^ C ≤ 1024 := by rw [← int_pow]; omega
      have hpi0 : (0 : Int) < (2 : Int) ^ C := by rw [← int_pow]; have := Nat.two_pow_pos C; omega
      go_wp2_with (go_at_call 97; refine (l00In_yes _ _ _ (by omega) (by omega) _).mono ?_; rintro e w' ⟨rfl, rfl⟩)
      go_loopw [3] (fun i wr => ∃ k j : Nat, k ≤ n ∧ i = .int .i64 k ∧ wr = w.drewN j ∧ okTo C xs k) (fun i _ => n - (intOf i).toNat)
      case atStart => exact ⟨0, 0, Nat.zero_le _, rfl, rfl, fun j hj => by omega⟩
      case round =>
        obtain ⟨k, j, hk, rfl, rfl, hok⟩ := hrel
        have HOK := Lib.hid hok
        clear hok
        by_cases hlt : k < n
        · obtain ⟨b, hAe, -, hck⟩ := (hM.drewN j).cell k hlt
          have c0' : (w.drewN j).cell? ⟨q, 0, none⟩ = some (.int .i64 C) := c0
          have c1' : (w.drewN j).cell? ⟨q, 1, none⟩ = some (.slice A n cap) := c1
          obtain ⟨z, hz⟩ : ∃ z, xs[k]?.getD 0 = z := ⟨_, rfl⟩
          rw [hz] at hck
          have HZ := Lib.hid hz
          clear hz
          subst hAe
          generalize hwq : w.drewN j = W at hck c0' c1' ⊢
          have HW := Lib.hid hwq
          clear hwq
          by_cases hg : 0 ≤ z ∧ z < 2 ^ C
          · go_wp2
            go_quiet ((go_at_call 97; exact quiet_of_eq (l00In_yes _ _ _ (by omega) (by omega) _)))
            go_wp2
            go_roundw
            case rel => exact ⟨k + 1, j + _, by omega, by go_num, by rw [← HW.out, World.drewN_drewN], fun i hi => by
              by_cases e : i = k
              · subst e; rw [HZ.out]; exact hg
              · exact HOK.out i (by omega)⟩
            case measure => simp [intOf]; omega
          · go_wp2
            go_quiet ((go_at_call 97; exact quiet_of_eq (l00In_no _ _ _ (by omega) _)))
            go_wp2
            go_ret
            exact ⟨ret_bool (okM_no (k := k) (by omega) (by rw [HZ.out]; exact hg)).symm, _, by rw [← HW.out, World.drewN_drewN]⟩
        · obtain rfl : k = n := by omega
          go_wp2
          go_ret
          exact ⟨ret_bool (okM_yes (by omega) (by omega) (by omega) (by rw [hlen]; exact HOK.out)).symm, _, rfl⟩
    · go_enter Tryd.func122, Tryd.ntmps122
      go_wp2_with (go_at_call 97; refine (l00In_yes _ _ _ (by omega) (by omega) _).mono ?_; rintro e w' ⟨rfl, rfl⟩)
      go_ret
      exact ⟨ret_bool (okM_no1 (by omega)).symm, 0, rfl⟩
  · have hc' : c < 1 ∨ 10 < c := by omega
    go_enter Tryd.func122, Tryd.ntmps122
    go_wp2_with (go_at_call 97; refine (l00In_no _ _ _ hc' _).mono ?_; rintro e w' ⟨rfl, rfl⟩)
    go_ret
    exact ⟨ret_bool (okM_no1 (by omega)).symm, 0, rfl⟩
theorem l02Ok_quiet (q : Nat) (c : Int) (b n cap : Nat) (xs : List Int) (w : World) (hm : MAt w q c b n cap) (hM : Mt w b n xs) :
    Calls Tryd.prog 122 #[.pointer (some ⟨q, 0, none⟩)] w fun e w' => e = .returned (.bool (okM c xs)) ∧ ∃ m, w' = w.drewN m :=
  l02Ok_quietR q c (some ⟨b, 0, none⟩) n cap xs w ⟨hm.c0, hm.c1, hm.lt⟩ hM.rd

set_option maxRecDepth 100000 in
set_option maxHeartbeats 3200000 in
theorem l02Space_anyR (q : Nat) (c : Int) (A : Option Addr) (n cap : Nat) (xs : List Int) (w : World) (hS : SpR w q c A n cap xs) :
    Calls Tryd.prog 84 #[.pointer (some ⟨q, 0, none⟩)] w fun e w' => e = .returned (.bool (isSp c xs)) ∧ Below w.heap.size w w' := by
  have hSD := hS.below ((Below.refl _ w).drew)
  have S := l02Ok_anyR q c A n cap xs _ hSD.m hSD.r
  have q0 := hSD.m.c0
  have q1 := hSD.m.c1
  have HSD := Lib.hid hSD
  cases hk : okM c xs with
  | false =>
    have hno : isSp c xs = false := by rw [isSp, hk]; rfl
    rw [hno]
    rw [hk] at S
    clear S hSD q0 q1 HSD hno
    have hQ : ∀ k, Calls Tryd.prog 122 #[.pointer (some ⟨q, 0, none⟩)] (w.drewN k) fun e w' => e = .returned (.bool false) ∧ ∃ m, w' = w.drewN m := fun k => by
      have := l02Ok_quietR q c A n cap xs (w.drewN k) ⟨hS.m.c0, hS.m.c1, hS.m.lt⟩ (hS.r.drewN k)
      rw [hk] at this
      refine this.mono ?_
      rintro e w' ⟨rfl, m, rfl⟩
      exact ⟨rfl, k + m, by rw [World.drewN_drewN]⟩
    have HQ := Lib.hid hQ
    clear hQ
    clear hS
    go_enter Tryd.func84, Tryd.ntmps84
    go_wp2_with fail
    go_quiet ((go_at_call 122; exact HQ.out _))
    go_wp2_with fail
    go_ret
    exact ⟨rfl, below_draws _ _ _⟩
  | true =>
    rw [hk] at S
    obtain ⟨C, L, rfl, rfl, hO⟩ := okM_nat hk
    rw [isSp_mk hO]
    have hll := hS.r.len
    rw [ints_length] at hll
    have hn10 := hO.n10
    have hc10 := hO.c10
    have E := fun w hM => l02Echelon_anyR C A n cap L hc10 hO.lt (by omega) w hM
    rw [cols_eq hO.lt] at E
    have hJ := joined_len hc10 hO.lt
    generalize joined [] L = J at E hJ ⊢
    have hdec : decide (ints J = ints L) = decide (J = L) := by rw [decide_eq_decide]; exact ints_inj
    have EE := Lib.hid E
    have HS := Lib.hid S
    have HD := Lib.hid hdec
    clear S hS hSD E hdec
    go_enter Tryd.func84, Tryd.ntmps84
    go_wp2_with fail
    go_region_held3 (fun w' => w'.cell? ⟨q, 0, none⟩ = some (.int .i64 C) ∧ w'.cell? ⟨q, 1, none⟩ = some (.slice A n cap)) (first | exact ⟨q0, q1⟩ | exact ⟨by assumption, by assumption⟩) (first | (go_at_call 122; refine HS.out.mono ?_; rintro e w3 ⟨rfl, hb3⟩; have S3 := Lib.hid (HSD.out.below hb3); have t0 := S3.out.m.c0; have t1 := S3.out.m.c1; have HB3 := Lib.hid ((Below.refl _ w).drew.trans hb3); clear hb3) | (go_at_call 92; refine (EE.out _ S3.out.r).mono ?_; rintro e w4 ⟨g4, cp4, rfl, hb4, hO4⟩; have S4 := Lib.hid (S3.out.below hb4); have t2 := S4.out.m.c0; have t3 := S4.out.m.c1; have HB4 := Lib.hid (HB3.out.trans (hb4.mono HB3.out.size)); have HM4 := Lib.hid (hO4.mt (by omega)); clear hb4 hO4) | (go_at_call 73; refine (l00Same_anyR (some ⟨g4, 0, none⟩) _ cp4 A n cap (ints J) (ints L) _ HM4.out.rd S4.out.r).mono ?_; rintro e w5 ⟨rfl, hb5⟩; have S5 := S4.out.below hb5; have t4 := S5.m.c0; have t5 := S5.m.c1; have HB5 := Lib.hid (HB4.out.trans (hb5.mono HB4.out.size)); clear hb5 S5))
    all_goals
      go_wp2_with fail
      go_ret
      exact ⟨ret_bool HD.out, HB5.out⟩
theorem l02Space_any (q : Nat) (c : Int) (b n cap : Nat) (xs : List Int) (w : World) (hS : Sp1 w q c b n cap xs) :
    Calls Tryd.prog 84 #[.pointer (some ⟨q, 0, none⟩)] w fun e w' => e = .returned (.bool (isSp c xs)) ∧ Below w.heap.size w w' :=
  l02Space_anyR q c (some ⟨b, 0, none⟩) n cap xs w ⟨⟨hS.m.c0, hS.m.c1, hS.m.lt⟩, hS.r.rd⟩
end Go.Proofs.YtilghmfffdmnjaaDoor
