/- The echelon form of rows over a field. -/
import Derived.Test.YtfpahdbkcdpchaaFieldRank
import Derived.Test.YtfpahdbkcdpchaaCoderCode
namespace Go.Proofs.Ytfpahdbkcdpchaa
open Go.RowKit Go.Joins
set_option linter.unusedVariables false
set_option linter.unusedSimpArgs false

theorem KO.rows {W : World} {B0 m P N len : Nat} {rows : List (List Int)} {q : Nat} (hF : Fld m P N) (hok : okS N len rows = true) (h : KO W B0 m P N len rows q) :
    ∃ (c n : Nat) (v : Value) (hs : Nat → List Nat) (vs : Nat → Value) (b : Nat → Nat), B0 ≤ q ∧ n ≤ rows.length ∧ KA W q c m P m P N (q + 1) len n v hs vs b ∧ EchV N len (fs hs n) ∧ fs hs n = joinV P N len [] (rowsF rows) ∧ (∀ j, j < n → ∀ i, nth (hs j) i < N) ∧ (List.range n).map (fun j => ints (hs j)) = echL P N len rows := by
  obtain ⟨c, n, v, hs, vs, b, h0, h1, h2, h3⟩ := h.ex
  have hE : EchV N len (fs hs n) := by rw [h3]; exact (joinV_spec hF _ (EchV.nil N len) (okS_vec hF hok)).1
  refine ⟨c, n, v, hs, vs, b, h0, h1, h2, hE, h3, fun j hj => hE.vec _ (fs_mem hj), ?_⟩
  rw [echL]
  show _ = (joinV P N len [] (rowsF rows)).map _
  rw [← h3]
  unfold fs
  rw [List.map_map]
  refine List.map_congr_left (fun j hj => ?_)
  have hj' := List.mem_range.1 hj
  show ints (hs j) = ints (lst (nth (hs j)) len)
  rw [← lst_of ((h2.r.row j hj').len)]

theorem code_ko {m P N len : Nat} (hF : Fld m P N) (hl0 : 0 < len) (hl5 : len ≤ 5) {rows : List (List Int)} (h10 : rows.length ≤ 10) (hok : okS N len rows = true) {B0 q : Nat} (w : World) (hK : KO w B0 m P N len rows q) :
    Calls Try.prog 62 #[.pointer (some ⟨q, 0, none⟩)] w fun e w' => ∃ v', e = .returned (.agg #[.int .i64 m, .int .i64 P, .int .i64 (len : Int), v']) ∧ Below w.heap.size w w' ∧ RS w' w.heap.size w'.heap.size v' (echL P N len rows) := by
  obtain ⟨c, n, v, hs, vs, b, h0, h1, h2, hE, h3, h4, h5⟩ := hK.rows hF hok
  rw [← h5]
  exact code_any m P N hF q c m P (q + 1) len n hl0 hl5 (by omega) v hs vs b h4 w h2

theorem coderFor_ok {m P N len : Nat} (hN : 2 ^ m = N) {rows : List (List Int)} (h0 : cRows m P len rows = 0) (hh : (P : Int) ≤ 9223372036854775807) (v : Value) (w : World) (hA : RR w v rows) :
    Calls Try.prog 61 #[.agg #[.int .i64 m, .int .i64 P], .int .i64 len, v] w fun e w' => ∃ q, e = .returned (.tuple #[.pointer (some ⟨q, 0, none⟩), .int .i64 0]) ∧ Below w.heap.size w w' ∧ KO w' w.heap.size m P N len rows q := by
  refine (coderFor_any m P len (by omega) hh v rows w hA).mono ?_
  rintro e w' ⟨o, rfl, hb, h⟩
  obtain ⟨q, rfl, m', P', N', len', e1, e2, e3, e4, hK⟩ := h h0
  obtain rfl : m = m' := by omega
  obtain rfl : P = P' := by omega
  obtain rfl : len = len' := by omega
  subst hN
  subst e4
  exact ⟨q, by rw [h0], hb, hK⟩
theorem coderFor_no {d p l c : Int} (hl : -9223372036854775808 ≤ p) (hh : p ≤ 9223372036854775807) {rows : List (List Int)} (h0 : cRows d p l rows = c) (v : Value) (w : World) (hA : RR w v rows) :
    Calls Try.prog 61 #[.agg #[.int .i64 d, .int .i64 p], .int .i64 l, v] w fun e w' => ∃ o, e = .returned (.tuple #[.pointer o, .int .i64 c]) ∧ Below w.heap.size w w' := by
  refine (coderFor_any d p l hl hh v rows w hA).mono ?_
  rintro e w' ⟨o, rfl, hb, h⟩
  exact ⟨o, by rw [h0], hb⟩

def fFieldEchelon (d p l : Int) (rows : List (List Int)) : List (List Int) × Int := if cRows d p l rows = 0 then (echL (p.toNat) (2 ^ d.toNat) l.toNat rows, 0) else ([], cRows d p l rows)
theorem RS.none (W : World) (B T : Nat) (hT : T ≤ W.heap.size) (A : Option Addr) (cap : Nat) : RS W B T (.slice A 0 cap) [] := ⟨hT, by simp [total, tot], A, cap, rfl, fun h => by simp at h⟩

set_option maxRecDepth 100000 in
set_option maxHeartbeats 3200000 in
theorem specFieldEchelon_any (d p l : Int) (v : Value) (rows : List (List Int)) (w : World) (hA : RR w v rows) :
    Calls Try.prog 16 #[.agg #[.int .i64 d, .int .i64 p], .int .i64 l, v] w fun e w' => ∃ v, e = .returned (.tuple #[v, .int .i64 (fFieldEchelon d p l rows).2]) ∧ Below w.heap.size w w' ∧ RS w' w.heap.size w'.heap.size v (fFieldEchelon d p l rows).1 := by
  obtain ⟨A, cap, rfl⟩ := hA.is
  obtain ⟨n, hn⟩ : ∃ n, rows.length = n := ⟨_, rfl⟩
  rw [hn] at hA ⊢
  have HN := Lib.hid hn
  have HA := Lib.hid hA
  clear hA hn
  rcases Classical.em (cRows d p l rows = 0) with h0 | h0
  · obtain ⟨m, P, N, len, rfl, rfl, rfl, hN, hF, hl0, hl5, h10, hok⟩ := cRows_zero h0
    have e : fFieldEchelon m P len rows = (echL P N len rows, 0) := by
      rw [fFieldEchelon, if_pos h0, Int.toNat_natCast, Int.toNat_natCast, Int.toNat_natCast, hN]
    rw [e]
    have hR : ∀ W, RR W (.slice A n cap) rows → _ := fun W a => (l04Rows_any (m : Int) P len rows W a)
    rw [h0] at hR
    have HR := Lib.hid hR
    have HE := Lib.hid (fun W a => l04Echelon_any m P N hF len hl0 hl5 (v := .slice A n cap) rows h10 hok W a)
    have HG := Lib.hid (G1.start w [.int .i64 m, .int .i64 P] 28)
    clear hR hF hN e h0
    obtain ⟨r, hr⟩ : ∃ r, echL P N len rows = r := ⟨_, rfl⟩
    rw [hr] at HE ⊢
    clear hr
    go_enter Try.func16, Try.ntmps16
    have x0 : _ := HG.out.x.cell 0 _ rfl
    have x1 : _ := HG.out.x.cell 1 _ rfl
    go_wp2_with fail
    refine (HR.out _ (HA.out.next HG.out.b)).mono ?_
    rintro e w1 ⟨rfl, hb⟩
    have HG1 := Lib.hid (HG.out.next hb)
    clear hb x0 x1
    have x0 : _ := HG1.out.x.cell 0 _ rfl
    have x1 : _ := HG1.out.x.cell 1 _ rfl
    go_wp2_with fail
    refine (HE.out _ (HA.out.next HG1.out.b)).mono ?_
    rintro e w2 ⟨A2, k2, cap2, rfl, hk2, hb, hS⟩
    have HB := Lib.hid (HG1.out.next hb).b
    have HS := Lib.hid (hS.wide (B' := w.heap.size) (by have := HG1.out.z; omega))
    clear hb hS x0 x1 hk2
    go_wp2_with fail
    go_ret2
    exact ⟨_, rfl, HB.out, HS.out⟩
  · obtain ⟨c, hc⟩ : ∃ c, cRows d p l rows = c := ⟨_, rfl⟩
    have e : fFieldEchelon d p l rows = ([], c) := by rw [fFieldEchelon, if_neg h0, hc]
    rw [e]
    have hR : ∀ W, RR W (.slice A n cap) rows → _ := fun W a => (l04Rows_any d p l rows W a)
    rw [hc] at hR h0
    have HR := Lib.hid hR
    have HG := Lib.hid (G1.start w [.int .i64 d, .int .i64 p] 28)
    clear hR e hc
    go_enter Try.func16, Try.ntmps16
    have x0 : _ := HG.out.x.cell 0 _ rfl
    have x1 : _ := HG.out.x.cell 1 _ rfl
    go_wp2_with fail
    refine (HR.out _ (HA.out.next HG.out.b)).mono ?_
    rintro e w1 ⟨rfl, hb⟩
    have HB := Lib.hid (HG.out.next hb).b
    clear hb x0 x1
    go_wp2_with fail
    go_ret2
    exact ⟨_, rfl, HB.out.trans ((below_alloc1 _ _).mono HB.out.size), RS.none _ _ _ (Nat.le_refl _) _ _⟩

attribute [local go_sem] Go.Instr.field Go.asAgg in
set_option maxRecDepth 100000 in
set_option maxHeartbeats 3200000 in
theorem implFieldEchelon_any (d p l : Int) (v : Value) (rows : List (List Int)) (w : World) (hl : -9223372036854775808 ≤ p) (hh : p ≤ 9223372036854775807) (hA : RR w v rows) :
    Calls Try.prog 19 #[.agg #[.int .i64 d, .int .i64 p], .int .i64 l, v] w fun e w' => ∃ v, e = .returned (.tuple #[v, .int .i64 (fFieldEchelon d p l rows).2]) ∧ Below w.heap.size w w' ∧ RS w' w.heap.size w'.heap.size v (fFieldEchelon d p l rows).1 := by
  obtain ⟨A, cap, rfl⟩ := hA.is
  obtain ⟨n, hn⟩ : ∃ n, rows.length = n := ⟨_, rfl⟩
  rw [hn] at hA ⊢
  have HN := Lib.hid hn
  have HA := Lib.hid hA
  clear hA hn
  rcases Classical.em (cRows d p l rows = 0) with h0 | h0
  · obtain ⟨m, P, N, len, rfl, rfl, rfl, hN, hF, hl0, hl5, h10, hok⟩ := cRows_zero h0
    have e : fFieldEchelon m P len rows = (echL P N len rows, 0) := by
      rw [fFieldEchelon, if_pos h0, Int.toNat_natCast, Int.toNat_natCast, Int.toNat_natCast, hN]
    rw [e]
    have HR := Lib.hid (fun W a => coderFor_ok hN h0 hh (.slice A n cap) W a)
    have HE := Lib.hid (fun B0 q W a => code_ko hF hl0 hl5 h10 hok (B0 := B0) (q := q) W a)
    have HG := Lib.hid (G1.start w [.int .i64 m, .int .i64 P] 28)
    clear hF hN e h0
    obtain ⟨r, hr⟩ : ∃ r, echL P N len rows = r := ⟨_, rfl⟩
    rw [hr] at HE ⊢
    clear hr
    go_enter Try.func19, Try.ntmps19
    have x0 : _ := HG.out.x.cell 0 _ rfl
    have x1 : _ := HG.out.x.cell 1 _ rfl
    go_wp2_with fail
    refine (HR.out _ (HA.out.next HG.out.b)).mono ?_
    rintro e w1 ⟨q, rfl, hb, hK⟩
    have HG1 := Lib.hid (HG.out.next hb)
    have HK := Lib.hid hK
    clear hb x0 x1 hK
    go_wp2_with fail
    refine (HE.out _ _ _ HK.out).mono ?_
    rintro e w2 ⟨v2, rfl, hb, hS⟩
    obtain ⟨A2, c2, rfl⟩ := hS.is
    obtain ⟨k2, hk2⟩ : ∃ k, r.length = k := ⟨_, rfl⟩
    rw [hk2] at hS ⊢
    clear hk2
    have HB := Lib.hid (HG1.out.next hb).b
    have HS := Lib.hid (hS.wide (B' := w.heap.size) (by have := HG1.out.z; omega))
    clear hb hS
    go_wp2_with fail
    go_ret2
    exact ⟨_, rfl, HB.out, HS.out⟩
  · obtain ⟨c, hc⟩ : ∃ c, cRows d p l rows = c := ⟨_, rfl⟩
    have e : fFieldEchelon d p l rows = ([], c) := by rw [fFieldEchelon, if_neg h0, hc]
    rw [e]
    have HR := Lib.hid (fun W a => coderFor_no hl hh hc (.slice A n cap) W a)
    rw [hc] at h0
    have HG := Lib.hid (G1.start w [.int .i64 d, .int .i64 p] 28)
    clear e hc
    go_enter Try.func19, Try.ntmps19
    have x0 : _ := HG.out.x.cell 0 _ rfl
    have x1 : _ := HG.out.x.cell 1 _ rfl
    go_wp2_with fail
    refine (HR.out _ (HA.out.next HG.out.b)).mono ?_
    rintro e w1 ⟨o, rfl, hb⟩
    have HB := Lib.hid (HG.out.next hb).b
    clear hb x0 x1
    go_wp2_with fail
    go_ret2
    exact ⟨_, rfl, HB.out, RS.none _ _ _ (Nat.le_refl _) _ _⟩
end Go.Proofs.Ytfpahdbkcdpchaa
