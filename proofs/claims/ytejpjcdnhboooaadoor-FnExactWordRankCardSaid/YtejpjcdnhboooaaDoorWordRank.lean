/- WordRank: the program and the model. -/
import Derived.Test.YtejpjcdnhboooaaDoorWRank
import Derived.Test.YtejpjcdnhboooaaDoorRankS
namespace Go.Proofs.YtejpjcdnhboooaaDoor
open Go.RowKit Go.Joins
set_option linter.unusedVariables false

/-- The rank of a word, with ErrInvalid and ErrRange first. -/
def fWordRank (d p : Int) (zs : List Int) : Int × Int := if fldI d p = false then (0, 1) else if okW (2 ^ d.toNat) zs = true then ((((joined [] (nats zs)).length : Nat) : Int), 0) else (0, 2)
theorem fWordRank_A {d p : Int} {zs : List Int} (h : fldI d p = false) : fWordRank d p zs = (0, 1) := by simp [fWordRank, h]
theorem fWordRank_B {m P n : Nat} (hF : Fld m P n) {zs : List Int} (h : okW n zs = false) : fWordRank m P zs = (0, 2) := by
  have h1 := hF.n
  rw [fWordRank, if_neg (by rw [fldI_of hF.f]; simp), Int.toNat_natCast, h1, if_neg (by rw [h]; simp)]
theorem fWordRank_C {m P n : Nat} (hF : Fld m P n) {zs : List Int} (h : okW n zs = true) : fWordRank m P zs = ((((joined [] (nats zs)).length : Nat) : Int), 0) := by
  have h1 := hF.n
  rw [fWordRank, if_neg (by rw [fldI_of hF.f]; simp), Int.toNat_natCast, h1, if_pos h]

set_option maxHeartbeats 800000 in
theorem specWordRank_A (d p : Int) (hf : fldI d p = false) (v : Value) (w : World) :
    Calls Tryd.prog 7 #[.agg #[.int .i64 d, .int .i64 p], v] w fun e w' => e = .returned (.tuple #[.int .i64 0, .int .i64 1]) ∧ Below w.heap.size w w' := by
  have HF := Lib.hid hf
  clear hf
  go_enter Tryd.func7, Tryd.ntmps7
  go_wp2_with fail
  refine (l04Given_A d p HF.out _ _).mono ?_
  rintro e w1 ⟨rfl, hb⟩
  go_wp2
  go_ret2
  exact ⟨rfl, ((Below.refl _ w).alloc (Nat.le_refl _) _).trans (hb.mono (by simp))⟩
set_option maxHeartbeats 800000 in
theorem specWordRank_B (m P n : Nat) (hF : Fld m P n) (b len cap : Nat) (zs : List Int) (hok : okW n zs = false) (w : World) (hM : Mt w b len zs) :
    Calls Tryd.prog 7 #[.agg #[.int .i64 m, .int .i64 P], .slice (some ⟨b, 0, none⟩) len cap] w fun e w' => e = .returned (.tuple #[.int .i64 0, .int .i64 2]) ∧ Below w.heap.size w w' := by
  have HOK := Lib.hid hok
  have HM := Lib.hid hM
  clear hok hM
  go_enter Tryd.func7, Tryd.ntmps7
  have h0 := FAt.start w m P 27
  go_wp2_with fail
  refine (l04Given_any m P n hF b len cap zs false HOK.out _ (HM.out.below h0.b)).mono ?_
  rintro e w1 ⟨rfl, hb⟩
  have h1 := h0.next hb
  clear hb
  go_wp2_with fail
  go_ret2
  exact ⟨rfl, h1.b⟩
set_option maxHeartbeats 800000 in
theorem specWordRank_C (m P n : Nat) (hF : Fld m P n) (b len cap : Nat) (zs : List Int) (hok : okW n zs = true) (w : World) (hM : Mt w b len zs) :
    Calls Tryd.prog 7 #[.agg #[.int .i64 m, .int .i64 P], .slice (some ⟨b, 0, none⟩) len cap] w fun e w' => e = .returned (.tuple #[.int .i64 ((joined [] (nats zs)).length : Nat), .int .i64 0]) ∧ Below w.heap.size w w' := by
  have hm5 := hF.m5
  have hn2 := hF.n2
  have hln := hM.len
  have hl5 := okW_len hok
  have hin := okW_in hok
  have hlt := lt_mem (nats_lt hin (by omega : 0 < n))
  rw [← hF.n] at hlt
  have HM2 := Lib.hid (show Mt w b len (ints (nats zs)) by rw [ints_nats hin]; exact hM)
  have RK := Lib.hid (fun w hM => l02Rank_any m b len cap (nats zs) (by omega) hlt (by omega) w hM)
  have HOK := Lib.hid hok
  have HM := Lib.hid hM
  generalize (joined [] (nats zs)).length = r at RK ⊢
  clear hok hM hin hlt
  go_enter Tryd.func7, Tryd.ntmps7
  have h0 := FAt.start w m P 27
  go_wp2_with fail
  refine (l04Given_any m P n hF b len cap zs true HOK.out _ (HM.out.below h0.b)).mono ?_
  rintro e w1 ⟨rfl, hb⟩
  have h1 := h0.next hb
  have c1 := h1.c0; have d1 := h1.c1
  clear hb h0
  go_wp2_with fail
  refine (RK.out _ (HM2.out.below h1.b)).mono ?_
  rintro e w2 ⟨rfl, hb⟩
  have h2 := h1.next hb
  clear hb h1 c1 d1
  go_wp2_with fail
  go_ret2
  exact ⟨rfl, h2.b⟩
theorem specWordRank_any (d p : Int) (b len cap : Nat) (zs : List Int) (w : World) (hM : Mt w b len zs) :
    Calls Tryd.prog 7 #[.agg #[.int .i64 d, .int .i64 p], .slice (some ⟨b, 0, none⟩) len cap] w fun e w' => e = .returned (.tuple #[.int .i64 (fWordRank d p zs).1, .int .i64 (fWordRank d p zs).2]) ∧ Below w.heap.size w w' := by
  cases hf : fldI d p with
  | false => rw [fWordRank_A hf]; exact specWordRank_A d p hf _ w
  | true =>
    obtain ⟨m, P, rfl, rfl, hF⟩ := fldI_nat hf
    have hF := Fld.of hF
    cases hok : okW (2 ^ m) zs with
    | false => rw [fWordRank_B hF hok]; exact specWordRank_B m P _ hF b len cap zs hok w hM
    | true => rw [fWordRank_C hF hok]; exact specWordRank_C m P _ hF b len cap zs hok w hM
set_option maxHeartbeats 800000 in
theorem implWordRank_A (d p : Int) (hf : fldI d p = false) (hl : -9223372036854775808 ≤ p) (hh : p ≤ 9223372036854775807) (v : Value) (w : World) :
    Calls Tryd.prog 10 #[.agg #[.int .i64 d, .int .i64 p], v] w fun e w' => e = .returned (.tuple #[.int .i64 0, .int .i64 1]) ∧ Below w.heap.size w w' := by
  have HF := Lib.hid hf
  clear hf
  go_enter Tryd.func10, Tryd.ntmps10
  go_wp2_with fail
  refine (wordFor_A d p HF.out hl hh _ _).mono ?_
  rintro e w1 ⟨rfl, hb⟩
  go_wp2
  go_ret2
  exact ⟨rfl, by first | exact ((Below.refl _ w).alloc (Nat.le_refl _) _).trans (hb.mono (by simp)) | exact hb⟩
set_option maxHeartbeats 800000 in
theorem implWordRank_B (m P n : Nat) (hF : Fld m P n) (b len cap : Nat) (zs : List Int) (hok : okW n zs = false) (w : World) (hM : Mt w b len zs) :
    Calls Tryd.prog 10 #[.agg #[.int .i64 m, .int .i64 P], .slice (some ⟨b, 0, none⟩) len cap] w fun e w' => e = .returned (.tuple #[.int .i64 0, .int .i64 2]) ∧ Below w.heap.size w w' := by
  have HOK := Lib.hid hok
  have HM := Lib.hid hM
  clear hok hM
  go_enter Tryd.func10, Tryd.ntmps10
  go_wp2_with fail
  have hb0 := below_alloc1 w (.cells #[.int .i64 m, .int .i64 P] 27)
  first
    | refine (wordFor_B m P n hF b len cap zs _ HM.out HOK.out).mono ?_
    | refine (wordFor_B m P n hF b len cap zs _ (HM.out.below hb0) HOK.out).mono ?_
  rintro e w1 ⟨rfl, hb⟩
  go_wp2_with fail
  go_ret2
  exact ⟨rfl, by first | exact hb | exact hb0.trans (hb.mono hb0.size)⟩
set_option maxHeartbeats 800000 in
theorem implWordRank_C (m P n : Nat) (hF : Fld m P n) (b len cap : Nat) (zs : List Int) (hok : okW n zs = true) (w : World) (hM : Mt w b len zs) (hT : Tab w) :
    Calls Tryd.prog 10 #[.agg #[.int .i64 m, .int .i64 P], .slice (some ⟨b, 0, none⟩) len cap] w fun e w' => e = .returned (.tuple #[.int .i64 ((joined [] (nats zs)).length : Nat), .int .i64 0]) ∧ Below w.heap.size w w' := by
  have hm5 := hF.m5
  have hn2 := hF.n2
  have hln := hM.len
  have hl5 := okW_len hok
  have hin := okW_in hok
  have hlt := lt_mem (nats_lt hin (by omega : 0 < n))
  rw [← hF.n] at hlt
  have RK := Lib.hid (fun A w hR hT => rank_any m hm5 A len len (nats zs) hlt (by omega) w hR hT)
  have HT := Lib.hid hT
  have HOK := Lib.hid hok
  have HM := Lib.hid hM
  obtain ⟨p, hp⟩ : ∃ p, nats zs = p := ⟨_, rfl⟩
  have HP := Lib.hid hp
  rw [hp] at RK ⊢
  generalize (joined [] p).length = r at RK ⊢
  clear hok hM hin hlt hT hp
  go_enter Tryd.func10, Tryd.ntmps10
  go_wp2_with fail
  have hb0 := below_alloc1 w (.cells #[.int .i64 m, .int .i64 P] 27)
  refine (wordFor_C m P n hF b len cap zs _ (HM.out.below hb0) HOK.out).mono ?_
  rintro e w1 ⟨c, g, rfl, hb, hC, hR⟩
  rw [HP.out] at hR
  replace hb := hb0.trans (hb.mono hb0.size)
  go_wp2_with fail
  refine (RK.out _ _ hR (HT.out.below hb)).mono ?_
  rintro e w2 ⟨rfl, hb2⟩
  have HB := Lib.hid (hb.trans (hb2.mono hb.size))
  clear hb hb2
  go_wp2_with fail
  go_ret2
  exact ⟨rfl, HB.out⟩
theorem implWordRank_any (d p : Int) (b len cap : Nat) (zs : List Int) (w : World) (hl : -9223372036854775808 ≤ p) (hh : p ≤ 9223372036854775807) (hM : Mt w b len zs) (hT : Tab w) :
    Calls Tryd.prog 10 #[.agg #[.int .i64 d, .int .i64 p], .slice (some ⟨b, 0, none⟩) len cap] w fun e w' => e = .returned (.tuple #[.int .i64 (fWordRank d p zs).1, .int .i64 (fWordRank d p zs).2]) ∧ Below w.heap.size w w' := by
  cases hf : fldI d p with
  | false => rw [fWordRank_A hf]; exact implWordRank_A d p hf hl hh _ w
  | true =>
    obtain ⟨m, P, rfl, rfl, hF⟩ := fldI_nat hf
    have hF := Fld.of hF
    cases hok : okW (2 ^ m) zs with
    | false => rw [fWordRank_B hF hok]; exact implWordRank_B m P _ hF b len cap zs hok w hM
    | true => rw [fWordRank_C hF hok]; exact implWordRank_C m P _ hF b len cap zs hok w hM hT
end Go.Proofs.YtejpjcdnhboooaaDoor
