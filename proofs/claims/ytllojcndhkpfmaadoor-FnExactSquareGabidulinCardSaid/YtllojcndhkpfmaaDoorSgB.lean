/- SquareGabidulin: the model, where all is well. -/
import Derived.Test.YtllojcndhkpfmaaDoorSgP
namespace Go.Proofs.YtllojcndhkpfmaaDoor
open Go.RowKit Go.Joins
set_option linter.unusedVariables false

set_option maxHeartbeats 3200000 in
theorem specSquareGabidulin_C (m P n : Nat) (hF : Fld m P n) (kd : Int) (s : Nat) (b len cap : Nat) (zs : List Int) (hg : gabB n zs kd = true) (hs : s ≤ 1000) (w : World) (hM : Mt w b len zs) :
    Calls Tryd.prog 5 #[.agg (gabC m P (.slice (some ⟨b, 0, none⟩) len cap) kd), .int .i64 s] w (POSTG w m P (ints (sqW P (nats zs) s len)) kd 0) := by
  obtain ⟨hR, hA⟩ := sg_start w m P kd (.slice (some ⟨b, 0, none⟩) len cap) _ rfl
  have hlen := hM.len
  obtain ⟨k1, k2, k3, k4⟩ := gabB_yes hg
  have h5 := okW_len k1
  have hlen5 : 1 ≤ len ∧ len ≤ 5 := by omega
  have HS := Lib.hid (l05Ok_any m P w.heap.size b len cap kd zs _ hA.x (hM.below hA.b) true (by rw [gabF_yes hF]; exact hg))
  have HK := Lib.hid (fun w => l00In_yes s 0 1000 (by omega) (by omega) w)
  have HSQ := Lib.hid (fun w hM => l05Squared_any m P n hF b len cap zs (okW_in k1) (by omega) s hs w hM)
  have HM := Lib.hid (hM.below hA.b)
  clear hg k1 k2 hM
  go_enter Tryd.func5, Tryd.ntmps5
  go_wp2_with fail
  refine HS.out.mono ?_
  rintro e w1 ⟨rfl, hb⟩
  have hR1 := hR.below hb
  have hA1 := hA.next hb
  have x0 := hA1.x.c0; have x1 := hA1.x.c1; have x2 := hA1.x.c2; have x3 := hA1.x.c3
  have HRD := Lib.hid (hR1.below (Below.refl _ w1).drew)
  have HAD := Lib.hid hA1.drew
  have HMD := Lib.hid (show Mt w1.drew b len zs from (HM.out.below hb).drewN 1)
  have HZ1 := Lib.hid (show w.heap.size + 1 < w1.drew.heap.size from hR1.lt)
  clear hb hR hA hR1 hA1
  go_wp2_with (go_at_call 13; refine (HK.out _).mono ?_; rintro e w' ⟨rfl, rfl⟩)
  go_region_law (go_simp; go_wp2_with (go_at_call 14; refine (HSQ.out _ HMD.out).mono ?_; rintro e w2 ⟨D, cd, rfl, hb, hO⟩; have HR2 := Lib.hid (HRD.out.below hb); have HA2 := Lib.hid (HAD.out.next hb); have s0 := HA2.out.x.c0; have s1 := HA2.out.x.c1; have s3 := HA2.out.x.c3; have r0 := HR2.out.cell 0 _ rfl; have r1 := HR2.out.cell 1 _ rfl; have r2 := HR2.out.cell 2 _ rfl; have r3 := HR2.out.cell 3 _ rfl; have g0 := HR2.out.free 0 (by simp); have g1 := HR2.out.free 1 (by simp); have g2 := HR2.out.free 2 (by simp); have g3 := HR2.out.free 3 (by simp); have HO := Lib.hid hO; clear hb hO))
  all_goals
    obtain ⟨g, rfl, hBg, hM⟩ := HO.out.mtX (by omega) (by omega)
    have hz := HZ1.out
    have HM := Lib.hid hM
    clear hM s0 s1 s3 r0 r1 r2 r3 g0 g1 g2 g3 x0 x1 x2 x3
    go_wp2_with fail
    exact bodyPost_ret (v := .tuple #[.agg (gabC m P (.slice (some ⟨g, 0, none⟩) len cd) kd), .int .i64 0]) (gab_results (p := 4) (u := 5) (fn := Tryd.f5) rfl _ rfl (HR2.out.four _ _ _ _)) rfl ⟨_, rfl, below_four HA2.out.b (by omega) _ _ _ _, (HM.out.four (by omega) _ _ _ _).res (by omega)⟩
end Go.Proofs.YtllojcndhkpfmaaDoor
