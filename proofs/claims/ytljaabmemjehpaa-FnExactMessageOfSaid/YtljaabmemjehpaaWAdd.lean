/- The sum of two words, the second one multiplied: the model's. -/
import Derived.Test.YtljaabmemjehpaaWords
import Derived.Test.YtljaabmemjehpaaSv
import Derived.Test.YtljaabmemjehpaaStep
namespace Go.Proofs.Ytljaabmemjehpaa
open Go.RowKit Go.Joins
set_option linter.unusedVariables false

/-- The elements of the sum. -/
def addW (P : Nat) (p q : List Nat) (y k : Nat) : List Nat := lst (fun j => nth p j ^^^ mul P (nth q j) y) k
theorem addW_len (P : Nat) (p q : List Nat) (y k : Nat) : (addW P p q y k).length = k := lst_length _ _
theorem lst_snoc (f : Nat → Nat) (k : Nat) : lst f (k + 1) = lst f k ++ [f k] := by simp [lst, List.range_succ]
theorem OL.start {W : World} {B : Nat} (hB : B ≤ W.heap.size) : OL (W.alloc (.cells #[] 2)) B (some ⟨W.heap.size, 0, none⟩) 0 0 [] := ⟨rfl, World.ownsRow_made W #[] 0 hB (by unfold maxLen; omega) (by simp)⟩
theorem OL.mt {W : World} {B : Nat} {A : Option Addr} {n cap : Nat} {p : List Nat} (h : OL W B A n cap p) (h0 : 0 < n) (hn : n ≤ 1048576) : ∃ g, A = some ⟨g, 0, none⟩ ∧ B ≤ g ∧ Mt W g n (ints p) := by
  obtain ⟨g, e, hB, hg, hc, hf⟩ := h.row h0
  exact ⟨g, e, hB, by rw [ints_length]; exact h.len, hn, hg, fun j hj => by rw [hc j hj, ints_get], hf⟩

set_option maxRecDepth 100000 in
set_option maxHeartbeats 3200000 in
theorem l04Add_any (m P n : Nat) (hF : Fld m P n) (A B : Option Addr) (k ca cb : Nat) (p q : List Nat) (y : Nat) (hy : y < n) (hp : ∀ j, nth p j < n) (hq : ∀ j, nth q j < n) (hk : k ≤ 1000) (w : World) (hS : Rl w .i64 A k p) (hT : Rl w .i64 B k q) :
    Calls Try.prog 112 #[.agg #[.int .i64 m, .int .i64 P], .slice A k ca, .slice B k cb, .int .i64 y] w fun e w' => ∃ D cd, e = .returned (.slice D k cd) ∧ Below w.heap.size w w' ∧ OL w' w.heap.size D k cd (addW P p q y k) := by
  obtain ⟨i0, hi, hz0, hz1', hz2⟩ := info_parts Try.infoI
  have h32 := hF.n32
  have hA0 := FAt.start w m P 31
  have HA0 := Lib.hid (hA0.alloc (.cells #[] 2))
  have HO0 : Hid (OL ((w.alloc (.cells #[.int .i64 m, .int .i64 P] 31)).alloc (.cells #[] 2)) (w.heap.size + 1) (some ⟨w.heap.size + 1, 0, none⟩) 0 0 []) := Lib.hid (by have := OL.start (W := w.alloc (.cells #[.int .i64 m, .int .i64 P] 31)) (B := w.heap.size + 1) (by simp); simpa using this)
  have HP := Lib.hid hp
  have HQ := Lib.hid hq
  have HS := Lib.hid hS
  have HT := Lib.hid hT
  clear hp hq hS hT hA0
  go_enter Try.func112, Try.ntmps112
  go_wp2_with fail
  go_loopw [9, 10] (fun v i wr => ∃ (j cp : Nat) (D : Option Addr), j ≤ k ∧ i = .int .i64 j ∧ v = .slice D j cp ∧ FAt w m P wr ∧ OL wr (w.heap.size + 1) D j cp (addW P p q y j)) (fun _ i _ => k - (intOf i).toNat)
  case atStart => exact ⟨0, 0, _, Nat.zero_le _, rfl, rfl, HA0.out, HO0.out⟩
  case round =>
    obtain ⟨j, cp, D, hj, rfl, rfl, hA, hO⟩ := hrel
    clear HA0 HO0
    by_cases hlt : j < k
    · have z1 := hA.z; have c1 := hA.c0; have d1 := hA.c1
      obtain ⟨ga, rfl, hga, hca⟩ := (HS.out.below hA.b).row (by omega)
      obtain ⟨gb, rfl, hgb, hcb⟩ := (HT.out.below hA.b).row (by omega)
      have cu := hca j hlt
      have cv := hcb j hlt
      clear hca hcb
      have hx := HP.out j
      have hz := HQ.out j
      have HE : Hid (addW P p q y (j + 1) = addW P p q y j ++ [nth p j ^^^ mul P (nth q j) y]) := Lib.hid (lst_snoc _ _)
      obtain ⟨x, hxe⟩ : ∃ x, nth p j = x := ⟨_, rfl⟩
      obtain ⟨z, hze⟩ : ∃ z, nth q j = z := ⟨_, rfl⟩
      rw [hxe] at cu hx HE
      rw [hze] at cv hz HE
      have hml := hF.mul_lt z y
      have HM := Lib.hid (fun w => l01Mul_any m P n hF z y hz hy w)
      obtain ⟨t, hte⟩ : ∃ t, mul P z y = t := ⟨_, rfl⟩
      rw [hte] at HM HE hml
      have HO := Lib.hid hO
      have HA := Lib.hid hA
      clear hxe hze hte hO hA
      have cu0 : wr.drew.cell? ⟨ga, j, none⟩ = some (.int .i64 x) := cu
      have cv0 : wr.drew.cell? ⟨gb, j, none⟩ = some (.int .i64 z) := cv
      have f0 : wr.drew.cell? ⟨w.heap.size, 0, none⟩ = some (.int .i64 m) := c1
      have f1 : wr.drew.cell? ⟨w.heap.size, 1, none⟩ = some (.int .i64 P) := d1
      have HXR := Lib.hid (i64_xor_nat x t (by omega) (by omega))
      go_wp2_with fail
      have hbig : 8 * j + 8 ≤ 140737488355328 := by omega
      have hgaz : ga < wr.drew.heap.size := hga
      have hgbz : gb < wr.drew.heap.size := hgb
      have hz1w : w.heap.size + 1 ≤ wr.drew.heap.size := z1
      have HOD := Lib.hid (show OL wr.drew (w.heap.size + 1) D j cp (addW P p q y j) from HO.out.drewN 1)
      have HAD := Lib.hid HA.out.drew
      go_region_law (first | (refine step_append_own rfl (.tmp 18) (.tmp 31) 27 rfl (w.heap.size + 1) 2 i0 (.int .i64 0) 1 8 Try.underlying27 hi hz0 hz1' hz2 rfl (by decide) (.slice D j cp) j _ (by simp [Act.eval]) (HO1.out.own.alloc _) ⟨w1.heap.size, 0, none⟩ 1 1 [.int .i64 (bits .xor .i64 (x : Int) (t : Int))] (by simp [Act.eval]) rfl (one_new w1 _ _) (one_one _ _) (by unfold maxLen; omega) (by omega) (by have := HO1.out.own; simp; omega) ?_; intro v' w2 hown' hgrow; have HG := Lib.hid (And.intro hown' hgrow); clear hown' hgrow) | (go_simp; go_wp2_with (go_at_call 144; refine (HM.out _).mono ?_; rintro e w1 ⟨rfl, hbm⟩; have cu1 := (hbm.cell (p := ⟨ga, j, none⟩) hgaz).trans cu0; have HO1 := Lib.hid (HOD.out.below hbm); have HA1 := Lib.hid (HAD.out.next hbm); have z2 : w.heap.size + 1 ≤ w1.heap.size := HA1.out.z; clear hbm)))
      all_goals
        obtain ⟨hown', hgrow⟩ := HG.out
        rw [HXR.out] at hown'
        have hb4 : Below (w.heap.size + 1) w1 w2 := ((Below.refl _ w1).alloc (by omega) _).grown hgrow (by simp; omega) (fun g hg => (HO1.out.own.lt g hg).1)
        have HA4 := Lib.hid (show FAt w m P w2 from ⟨HA1.out.b.trans (hb4.mono (by omega)), Nat.le_trans HA1.out.z hb4.size, (hb4.cell (p := ⟨w.heap.size, 0, none⟩) (by simp)).trans HA1.out.c0, (hb4.cell (p := ⟨w.heap.size, 1, none⟩) (by simp)).trans HA1.out.c1⟩)
        obtain ⟨A4, cp4, hv4, hO4⟩ := OL.of (n := j + 1) (p := addW P p q y (j + 1)) (by rw [HE.out, ints_append, List.map_append]; exact hown')
        subst hv4
        have HO4 := Lib.hid hO4
        clear hown' hgrow hO4 hb4 HG cu1 z2 cu0 cv0 f0 f1 hgaz hgbz hz1w c1 d1 cu cv
        go_wp2_with fail
        go_roundw
        case rel => exact ⟨j + 1, cp4, A4, by omega, by go_num, rfl, HA4.out, HO4.out⟩
        case measure => simp [intOf]; omega
    · obtain rfl : j = k := by omega
      have HO := Lib.hid hO
      have HB := Lib.hid hA.b
      have hsz := hA.z
      clear hO hA
      go_wp2_with fail
      go_ret
      exact ⟨D, cp, rfl, HB.out, HO.out.less (by omega)⟩
end Go.Proofs.Ytljaabmemjehpaa
