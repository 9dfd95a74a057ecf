/- The rank of rows over a field. -/
import Derived.Test.YtfpahdbkcdpchaaEchF
import Derived.Test.YtfpahdbkcdpchaaCoder
namespace Go.Proofs.Ytfpahdbkcdpchaa
open Go.RowKit Go.Joins
set_option linter.unusedVariables false

/-- The rank, and the code. -/
def fFieldRank (d p l : Int) (rows : List (List Int)) : Int × Int := if cRows d p l rows = 0 then (((echL (p.toNat) (2 ^ d.toNat) l.toNat rows).length : Int), 0) else (0, cRows d p l rows)

/-- What it is that the rows are in order. -/
theorem cRows_zero {d p l : Int} {rows : List (List Int)} (h : cRows d p l rows = 0) : ∃ m P N len : Nat, d = m ∧ p = P ∧ l = len ∧ 2 ^ m = N ∧ Fld m P N ∧ 0 < len ∧ len ≤ 5 ∧ rows.length ≤ 10 ∧ okS N len rows = true := by
  rw [cRows] at h
  split at h
  · cases h
  · rename_i hf
    obtain ⟨m, P, rfl, rfl, hF⟩ := fldI_nat (by simpa using hf : fldI d p = true)
    split at h
    · cases h
    · rename_i h1
      split at h
      · rename_i h2
        have h3 : (1 ≤ l ∧ l ≤ 5) ∧ rows.length ≤ 10 := by
          rcases Classical.em ((1 ≤ l ∧ l ≤ 5) ∧ rows.length ≤ 10) with a | a
          · exact a
          · exact absurd a h1
        obtain ⟨n, rfl⟩ : ∃ n : Nat, l = n := ⟨l.toNat, by omega⟩
        exact ⟨m, P, _, n, rfl, rfl, rfl, rfl, Fld.of hF, by omega, by omega, h3.2, by rw [Int.toNat_natCast] at h2; exact h2⟩
      · cases h
theorem cRows_cases (d p l : Int) (rows : List (List Int)) : cRows d p l rows = 0 ∨ cRows d p l rows = 1 ∨ cRows d p l rows = 2 := by
  rw [cRows]; split
  · exact .inr (.inl rfl)
  · split
    · exact .inr (.inr rfl)
    · split
      · exact .inl rfl
      · exact .inr (.inr rfl)

set_option maxHeartbeats 1600000 in
theorem specFieldRank_any (d p l : Int) (v : Value) (rows : List (List Int)) (w : World) (hA : RR w v rows) :
    Calls Try.prog 23 #[.agg #[.int .i64 d, .int .i64 p], .int .i64 l, v] w fun e w' => e = .returned (.tuple #[.int .i64 (fFieldRank d p l rows).1, .int .i64 (fFieldRank d p l rows).2]) ∧ Below w.heap.size w w' := by
  obtain ⟨A, cap, rfl⟩ := hA.is
  obtain ⟨n, hn⟩ : ∃ n, rows.length = n := ⟨_, rfl⟩
  rw [hn] at hA ⊢
  have HN := Lib.hid hn
  have HA := Lib.hid hA
  clear hA hn
  rcases Classical.em (cRows d p l rows = 0) with h0 | h0
  · obtain ⟨m, P, N, len, rfl, rfl, rfl, hN, hF, hl0, hl5, h10, hok⟩ := cRows_zero h0
    have e : fFieldRank m P len rows = (((echL P N len rows).length : Int), 0) := by
      rw [fFieldRank, if_pos h0, Int.toNat_natCast, Int.toNat_natCast, Int.toNat_natCast, hN]
    rw [e]
    have hR : ∀ W, RR W (.slice A n cap) rows → _ := fun W a => (l04Rows_any (m : Int) P len rows W a)
    rw [h0] at hR
    have HR := Lib.hid hR
    have HE := Lib.hid (fun W a => l04Echelon_any m P N hF len hl0 hl5 (v := .slice A n cap) rows h10 hok W a)
    have HG := Lib.hid (G1.start w [.int .i64 m, .int .i64 P] 28)
    clear hR hF hN e h0
    obtain ⟨r, hr⟩ : ∃ r, (echL P N len rows).length = r := ⟨_, rfl⟩
    rw [hr] at HE ⊢
    clear hr
    go_enter Try.func23, Try.ntmps23
    have x0 : _ := HG.out.x.cell 0 _ rfl
    have x1 : _ := HG.out.x.cell 1 _ rfl
    go_wp2_with fail
    refine (HR.out _ (HA.out.next HG.out.b)).mono ?_
    rintro e w1 ⟨rfl, hb⟩
    have HG1 := Lib.hid (HG.out.next hb)
    clear hb x0 x1
    have x0 : _ := HG1.out.x.cell 0 _ rfl
    have x1 : _ := HG1.out.x.cell 1 _ rfl
    go_wp2_with fail
    refine (HE.out _ (HA.out.next HG1.out.b)).mono ?_
    rintro e w2 ⟨A2, k2, cap2, rfl, rfl, hb, hS⟩
    have HB := Lib.hid (HG1.out.next hb).b
    clear hb hS x0 x1
    go_wp2_with fail
    go_ret2
    exact ⟨rfl, HB.out⟩
  · obtain ⟨c, hc⟩ : ∃ c, cRows d p l rows = c := ⟨_, rfl⟩
    have e : fFieldRank d p l rows = (0, c) := by rw [fFieldRank, if_neg h0, hc]
    rw [e]
    have hR : ∀ W, RR W (.slice A n cap) rows → _ := fun W a => (l04Rows_any d p l rows W a)
    rw [hc] at hR h0
    have HR := Lib.hid hR
    have HG := Lib.hid (G1.start w [.int .i64 d, .int .i64 p] 28)
    clear hR e hc
    go_enter Try.func23, Try.ntmps23
    have x0 : _ := HG.out.x.cell 0 _ rfl
    have x1 : _ := HG.out.x.cell 1 _ rfl
    go_wp2_with fail
    refine (HR.out _ (HA.out.next HG.out.b)).mono ?_
    rintro e w1 ⟨rfl, hb⟩
    have HB := Lib.hid (HG.out.next hb).b
    clear hb x0 x1
    go_wp2_with fail
    go_ret2
    exact ⟨rfl, HB.out⟩

/-- What coderFor gives, by the code of the rows. -/
theorem coderFor_any (d p l : Int) (hl : -9223372036854775808 ≤ p) (hh : p ≤ 9223372036854775807) (v : Value) (rows : List (List Int)) (w : World) (hA : RR w v rows) :
    Calls Try.prog 61 #[.agg #[.int .i64 d, .int .i64 p], .int .i64 l, v] w fun e w' => ∃ o, e = .returned (.tuple #[.pointer o, .int .i64 (cRows d p l rows)]) ∧ Below w.heap.size w w' ∧ (cRows d p l rows = 0 → ∃ q, o = some ⟨q, 0, none⟩ ∧ ∃ m P N len : Nat, d = m ∧ p = P ∧ l = len ∧ 2 ^ m = N ∧ KO w' w.heap.size m P N len rows q) := by
  cases hf : fldI d p with
  | false =>
    refine (coderFor_A d p l hf hl hh v w).mono ?_
    rintro e w' ⟨rfl, hb⟩
    have e : cRows d p l rows = 1 := by rw [cRows, if_pos hf]
    exact ⟨none, by rw [e], hb, fun h => by omega⟩
  | true =>
    obtain ⟨m, P, rfl, rfl, hF0⟩ := fldI_nat hf
    have hF := Fld.of hF0
    by_cases h1 : (1 ≤ l ∧ l ≤ 5) ∧ rows.length ≤ 10
    · obtain ⟨len, rfl⟩ : ∃ n : Nat, l = n := ⟨l.toNat, by omega⟩
      refine (coderFor_C m P _ hF len (by omega) (by omega) v rows h1.2 w hA).mono ?_
      rintro e w' ⟨h, hb⟩
      have ec : cRows m P len rows = if okS (2 ^ m) len rows = true then 0 else 2 := by rw [cRows, if_neg (by rw [hf]; simp), if_neg (by intro h; exact h h1), Int.toNat_natCast]
      rcases h with ⟨ho, rfl⟩ | ⟨ho, q, rfl, hK⟩
      · rw [if_neg (by rw [ho]; simp)] at ec
        exact ⟨none, by rw [ec], hb, fun h => by omega⟩
      · rw [if_pos ho] at ec
        exact ⟨_, by rw [ec], hb, fun _ => ⟨q, rfl, m, P, _, len, rfl, rfl, rfl, rfl, hK⟩⟩
    · refine (coderFor_B m P _ hF l v rows w hA h1).mono ?_
      rintro e w' ⟨rfl, hb⟩
      have ec : cRows m P l rows = 2 := by rw [cRows, if_neg (by rw [hf]; simp), if_pos h1]
      exact ⟨none, by rw [ec], hb, fun h => by omega⟩

set_option maxHeartbeats 1600000 in
theorem implFieldRank_any (d p l : Int) (v : Value) (rows : List (List Int)) (w : World) (hl : -9223372036854775808 ≤ p) (hh : p ≤ 9223372036854775807) (hA : RR w v rows) :
    Calls Try.prog 24 #[.agg #[.int .i64 d, .int .i64 p], .int .i64 l, v] w fun e w' => e = .returned (.tuple #[.int .i64 (fFieldRank d p l rows).1, .int .i64 (fFieldRank d p l rows).2]) ∧ Below w.heap.size w w' := by
  obtain ⟨A, cap, rfl⟩ := hA.is
  obtain ⟨n, hn⟩ : ∃ n, rows.length = n := ⟨_, rfl⟩
  rw [hn] at hA ⊢
  obtain ⟨c, hc⟩ : ∃ c, cRows d p l rows = c := ⟨_, rfl⟩
  have HG := Lib.hid (G1.start w [.int .i64 d, .int .i64 p] 28)
  have hS := fun W a => coderFor_any d p l hl hh (.slice A n cap) rows W a
  rw [hc] at hS
  have HS := Lib.hid hS
  have HA := Lib.hid hA
  have HE : Hid (c ≠ 0 → fFieldRank d p l rows = (0, c)) := Lib.hid (fun h => by rw [fFieldRank, if_neg (by rw [hc]; exact h), hc])
  have HY : Hid (c = 0 → ∀ m P N len : Nat, d = m → p = P → l = len → 2 ^ m = N → fFieldRank d p l rows = (((joinV P N len [] (rowsF rows)).length : Int), 0)) := Lib.hid (fun h m P N len e1 e2 e3 e4 => by
    subst e1 e2 e3 e4
    rw [fFieldRank, if_pos (by rw [hc]; exact h)]
    simp only [echL, List.length_map, Int.toNat_natCast, rowsF])
  have HC := Lib.hid (hc ▸ cRows_cases d p l rows)
  clear hA hn hS hc
  go_enter Try.func24, Try.ntmps24
  have x0 : _ := HG.out.x.cell 0 _ rfl
  have x1 : _ := HG.out.x.cell 1 _ rfl
  go_wp2_with fail
  refine (HS.out _ (HA.out.next HG.out.b)).mono ?_
  rintro e w1 ⟨o, rfl, hb, hK⟩
  have HB := Lib.hid (HG.out.next hb).b
  clear hb x0 x1
  by_cases h0 : c = 0
  · obtain ⟨q, rfl, m, P, N, len, e1, e2, e3, e4, hKO⟩ := hK h0
    have ey := HY.out h0 m P N len e1 e2 e3 e4
    subst h0
    obtain ⟨c', n', v', hs, vs, b, _, hn', hKA, hfs⟩ := hKO.ex
    obtain ⟨A', cap', rfl, _⟩ := hKA.r.rk
    have y4 := hKA.x.b.cell 4 _ rfl
    have hlen : (joinV P N len [] (rowsF rows)).length = n' := by rw [← hfs]; simp [fs]
    rw [hlen] at ey
    have EY := Lib.hid ey
    clear hKA hKO hfs hK ey hlen
    go_wp2_with fail
    go_ret2
    exact ⟨by rw [EY.out]; rfl, HB.out⟩
  · have EY := Lib.hid (HE.out h0)
    clear hK
    go_wp2_with fail
    go_ret2
    exact ⟨by rw [EY.out]; rfl, HB.out⟩
end Go.Proofs.Ytfpahdbkcdpchaa
