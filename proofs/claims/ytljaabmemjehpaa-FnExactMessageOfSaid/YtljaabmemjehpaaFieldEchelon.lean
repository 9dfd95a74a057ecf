/- The rank of rows over a field. · The echelon form of rows over a field. -/
import Derived.Test.YtljaabmemjehpaaEchF
import Derived.Test.YtljaabmemjehpaaCoder
import Derived.Test.YtljaabmemjehpaaCoderCode
namespace Go.Proofs.Ytljaabmemjehpaa
open Go.RowKit Go.Joins
set_option linter.unusedVariables false

/-- The rank, and the code. -/
def fFieldRank (d p l : Int) (rows : List (List Int)) : Int × Int := if cRows d p l rows = 0 then (((echL (p.toNat) (2 ^ d.toNat) l.toNat rows).length : Int), 0) else (0, cRows d p l rows)

/-- What it is that the rows are in order. -/
theorem cRows_zero {d p l : Int} {rows : List (List Int)} (h : cRows d p l rows = 0) : ∃ m P N len : Nat, d = m ∧ p = P ∧ l = len ∧ 2 ^ m = N ∧ Fld m P N ∧ 0 < len ∧ len ≤ 5 ∧ rows.length ≤ 10 ∧ okS N len rows = true := by
  rw [cRows] at h
  split at h
  · cases h
  · rename_i hf
    obtain ⟨m, P, rfl, rfl, hF⟩ := fldI_nat (by simpa using hf : fldI d p = true)
    split at h
    · cases h
    · rename_i h1
      split at h
      · rename_i h2
        have h3 : (1 ≤ l ∧ l ≤ 5) ∧ rows.length ≤ 10 := by
          rcases Classical.em ((1 ≤ l ∧ l ≤ 5) ∧ rows.length ≤ 10) with a | a
          · exact a
          · exact absurd a h1
        obtain ⟨n, rfl⟩ : ∃ n : Nat, l = n := ⟨l.toNat, by omega⟩
        exact ⟨m, P, _, n, rfl, rfl, rfl, rfl, Fld.of hF, by omega, by omega, h3.2, by rw [Int.toNat_natCast] at h2; exact h2⟩
      · cases h
theorem cRows_cases (d p l : Int) (rows : List (List Int)) : cRows d p l rows = 0 ∨ cRows d p l rows = 1 ∨ cRows d p l rows = 2 := by
  rw [cRows]; split
  · exact .inr (.inl rfl)
  · split
    · exact .inr (.inr rfl)
    · split
      · exact .inl rfl
      · exact .inr (.inr rfl)


/-- What coderFor gives, by the code of the rows. -/
theorem coderFor_any (d p l : Int) (hl : -9223372036854775808 ≤ p) (hh : p ≤ 9223372036854775807) (v : Value) (rows : List (List Int)) (w : World) (hA : RR w v rows) :
    Calls Try.prog 113 #[.agg #[.int .i64 d, .int .i64 p], .int .i64 l, v] w fun e w' => ∃ o, e = .returned (.tuple #[.pointer o, .int .i64 (cRows d p l rows)]) ∧ Below w.heap.size w w' ∧ (cRows d p l rows = 0 → ∃ q, o = some ⟨q, 0, none⟩ ∧ ∃ m P N len : Nat, d = m ∧ p = P ∧ l = len ∧ 2 ^ m = N ∧ KO w' w.heap.size m P N len rows q) := by
  cases hf : fldI d p with
  | false =>
    refine (coderFor_A d p l hf hl hh v w).mono ?_
    rintro e w' ⟨rfl, hb⟩
    have e : cRows d p l rows = 1 := by rw [cRows, if_pos hf]
    exact ⟨none, by rw [e], hb, fun h => by omega⟩
  | true =>
    obtain ⟨m, P, rfl, rfl, hF0⟩ := fldI_nat hf
    have hF := Fld.of hF0
    by_cases h1 : (1 ≤ l ∧ l ≤ 5) ∧ rows.length ≤ 10
    · obtain ⟨len, rfl⟩ : ∃ n : Nat, l = n := ⟨l.toNat, by omega⟩
      refine (coderFor_C m P _ hF len (by omega) (by omega) v rows h1.2 w hA).mono ?_
      rintro e w' ⟨h, hb⟩
      have ec : cRows m P len rows = if okS (2 ^ m) len rows = true then 0 else 2 := by rw [cRows, if_neg (by rw [hf]; simp), if_neg (by intro h; exact h h1), Int.toNat_natCast]
      rcases h with ⟨ho, rfl⟩ | ⟨ho, q, rfl, hK⟩
      · rw [if_neg (by rw [ho]; simp)] at ec
        exact ⟨none, by rw [ec], hb, fun h => by omega⟩
      · rw [if_pos ho] at ec
        exact ⟨_, by rw [ec], hb, fun _ => ⟨q, rfl, m, P, _, len, rfl, rfl, rfl, rfl, hK⟩⟩
    · refine (coderFor_B m P _ hF l v rows w hA h1).mono ?_
      rintro e w' ⟨rfl, hb⟩
      have ec : cRows m P l rows = 2 := by rw [cRows, if_neg (by rw [hf]; simp), if_pos h1]
      exact ⟨none, by rw [ec], hb, fun h => by omega⟩

end Go.Proofs.Ytljaabmemjehpaa
namespace Go.Proofs.Ytljaabmemjehpaa
open Go.RowKit Go.Joins
set_option linter.unusedVariables false
set_option linter.unusedSimpArgs false

theorem KO.rows {W : World} {B0 m P N len : Nat} {rows : List (List Int)} {q : Nat} (hF : Fld m P N) (hok : okS N len rows = true) (h : KO W B0 m P N len rows q) :
    ∃ (c n : Nat) (v : Value) (hs : Nat → List Nat) (vs : Nat → Value) (b : Nat → Nat), B0 ≤ q ∧ n ≤ rows.length ∧ KA W q c m P m P N (q + 1) len n v hs vs b ∧ EchV N len (fs hs n) ∧ fs hs n = joinV P N len [] (rowsF rows) ∧ (∀ j, j < n → ∀ i, nth (hs j) i < N) ∧ (List.range n).map (fun j => ints (hs j)) = echL P N len rows := by
  obtain ⟨c, n, v, hs, vs, b, h0, h1, h2, h3⟩ := h.ex
  have hE : EchV N len (fs hs n) := by rw [h3]; exact (joinV_spec hF _ (EchV.nil N len) (okS_vec hF hok)).1
  refine ⟨c, n, v, hs, vs, b, h0, h1, h2, hE, h3, fun j hj => hE.vec _ (fs_mem hj), ?_⟩
  rw [echL]
  show _ = (joinV P N len [] (rowsF rows)).map _
  rw [← h3]
  unfold fs
  rw [List.map_map]
  refine List.map_congr_left (fun j hj => ?_)
  have hj' := List.mem_range.1 hj
  show ints (hs j) = ints (lst (nth (hs j)) len)
  rw [← lst_of ((h2.r.row j hj').len)]

theorem code_ko {m P N len : Nat} (hF : Fld m P N) (hl0 : 0 < len) (hl5 : len ≤ 5) {rows : List (List Int)} (h10 : rows.length ≤ 10) (hok : okS N len rows = true) {B0 q : Nat} (w : World) (hK : KO w B0 m P N len rows q) :
    Calls Try.prog 85 #[.pointer (some ⟨q, 0, none⟩)] w fun e w' => ∃ v', e = .returned (.agg #[.int .i64 m, .int .i64 P, .int .i64 (len : Int), v']) ∧ Below w.heap.size w w' ∧ RS w' w.heap.size w'.heap.size v' (echL P N len rows) := by
  obtain ⟨c, n, v, hs, vs, b, h0, h1, h2, hE, h3, h4, h5⟩ := hK.rows hF hok
  rw [← h5]
  exact code_any m P N hF q c m P (q + 1) len n hl0 hl5 (by omega) v hs vs b h4 w h2

theorem coderFor_ok {m P N len : Nat} (hN : 2 ^ m = N) {rows : List (List Int)} (h0 : cRows m P len rows = 0) (hh : (P : Int) ≤ 9223372036854775807) (v : Value) (w : World) (hA : RR w v rows) :
    Calls Try.prog 113 #[.agg #[.int .i64 m, .int .i64 P], .int .i64 len, v] w fun e w' => ∃ q, e = .returned (.tuple #[.pointer (some ⟨q, 0, none⟩), .int .i64 0]) ∧ Below w.heap.size w w' ∧ KO w' w.heap.size m P N len rows q := by
  refine (coderFor_any m P len (by omega) hh v rows w hA).mono ?_
  rintro e w' ⟨o, rfl, hb, h⟩
  obtain ⟨q, rfl, m', P', N', len', e1, e2, e3, e4, hK⟩ := h h0
  obtain rfl : m = m' := by omega
  obtain rfl : P = P' := by omega
  obtain rfl : len = len' := by omega
  subst hN
  subst e4
  exact ⟨q, by rw [h0], hb, hK⟩
theorem coderFor_no {d p l c : Int} (hl : -9223372036854775808 ≤ p) (hh : p ≤ 9223372036854775807) {rows : List (List Int)} (h0 : cRows d p l rows = c) (v : Value) (w : World) (hA : RR w v rows) :
    Calls Try.prog 113 #[.agg #[.int .i64 d, .int .i64 p], .int .i64 l, v] w fun e w' => ∃ o, e = .returned (.tuple #[.pointer o, .int .i64 c]) ∧ Below w.heap.size w w' := by
  refine (coderFor_any d p l hl hh v rows w hA).mono ?_
  rintro e w' ⟨o, rfl, hb, h⟩
  exact ⟨o, by rw [h0], hb⟩

def fFieldEchelon (d p l : Int) (rows : List (List Int)) : List (List Int) × Int := if cRows d p l rows = 0 then (echL (p.toNat) (2 ^ d.toNat) l.toNat rows, 0) else ([], cRows d p l rows)
theorem RS.none (W : World) (B T : Nat) (hT : T ≤ W.heap.size) (A : Option Addr) (cap : Nat) : RS W B T (.slice A 0 cap) [] := ⟨hT, by simp [total, tot], A, cap, rfl, fun h => by simp at h⟩


end Go.Proofs.Ytljaabmemjehpaa
