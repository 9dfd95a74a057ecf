/- The word of a message: the program's is the model's. · The empty word: the program's (calculator).word at length 0. · The word of a message by a code: the model's. -/
import Derived.Test.YtljaabmemjehpaaEncoded
import Derived.Test.YtljaabmemjehpaaEncS
import Derived.Test.YtljaabmemjehpaaCoder
import Derived.Test.YtljaabmemjehpaaValidCode
namespace Go.Proofs.Ytljaabmemjehpaa
open Go.RowKit Go.Joins
set_option linter.unusedVariables false

theorem enc_eq {m P N : Nat} (hF : Fld m P N) {len n : Nat} {hs : Nat → List Nat} {rows : List (List Int)} {p : List Nat} (hp : ∀ j, nth p j < N) (hl : ∀ j, j < n → (hs j).length = len ∧ ∀ i, nth (hs j) i < N) (hr : ∀ j, j < n → rw' rows j = ints (hs j)) : ∀ j, j ≤ n → encP P len hs p j = encS P len rows p j := by
  intro j
  induction j with
  | zero => intro _; rfl
  | succ j ih =>
    intro hj
    obtain ⟨h1, h2⟩ := hl j (by omega)
    rw [encP, encS, ih (by omega), hr j (by omega), nats_ints, xorW, addW]
    refine lst_congr fun i hi => ?_
    rw [nth_scl' hF (hp j)]
    show _ ^^^ mul P (nth p j) (nth (hs j) i) = _
    rw [mul_comm' hF (hp j) (h2 i)]
end Go.Proofs.Ytljaabmemjehpaa
namespace Go.Proofs.Ytljaabmemjehpaa
open Go.RowKit Go.Joins
set_option linter.unusedVariables false

set_option maxHeartbeats 1600000 in
theorem elements0 (A : Option Addr) (cap : Nat) (w : World) :
    Calls Try.prog 116 #[.slice A 0 cap] w fun e w' => ∃ g, e = .returned (.slice (some ⟨g, 0, none⟩) 0 0) ∧ Below w.heap.size w w' ∧ Rl w' .u8 (some ⟨g, 0, none⟩) 0 [] := by
  obtain ⟨i0, hi, hz0, hz1, hz2⟩ := info_parts Try.infoE
  go_enter Try.func116, Try.ntmps116
  go_wp2_with (first | (at_make; refine wpList_make_full _ rfl _ _ 95 rfl w.heap.size 109 i0 (.int .u8 0) 1 Try.underlying95 hi hz0 hz1 .i64 .i64 _ _ 0 rfl rfl rfl rfl (by rw [hz2]; omega) (by unfold maxLen; omega) (Nat.le_refl _) ?_; intro w1 hown hgrow; have hb1 : Below w.heap.size w w1 := (Below.refl _ w).grown hgrow (Nat.le_refl _) (fun k h => by cases h); have HB := Lib.hid hb1; clear hown hgrow hb1))
  go_loopw [11] (fun i wr => i = .int .i64 0 ∧ Below w.heap.size w wr) (fun i _ => 0)
  case atStart => exact ⟨rfl, HB.out⟩
  case round =>
    obtain ⟨rfl, hb⟩ := hrel
    clear HB
    have HB2 := Lib.hid hb
    clear hb
    go_wp2
    go_ret
    exact ⟨_, rfl, HB2.out, ⟨rfl, fun h => by omega⟩⟩

set_option maxHeartbeats 800000 in
theorem wordR_zero (c m P n : Nat) (hF : Fld m P n) {B T : Nat} (A : Option Addr) (cap : Nat) (w : World) (hM : Res w B T (.slice A 0 cap) []) (hD : w.cell? ⟨c, 0, none⟩ = some (.int .i64 m)) :
    Calls Try.prog 69 #[.pointer (some ⟨c, 0, none⟩), .slice A 0 cap, .int .i64 0] w fun e w' => ∃ g, e = .returned (.tuple #[.slice (some ⟨g, 0, none⟩) 0 0, .bool true]) ∧ Below w.heap.size w w' ∧ Rl w' .u8 (some ⟨g, 0, none⟩) 0 [] := by
  have H2 : Hid (Calls Try.prog 115 #[.pointer (some ⟨c, 0, none⟩), .slice A 0 cap] w fun e w' => e = .returned (.bool true) ∧ w = w') :=
    Lib.hid (hasAll_any c m P n hF A 0 cap [] (by omega) w hM.arg hD)
  have HE := Lib.hid (elements0 A cap w)
  clear hM
  go_enter Try.func69, Try.ntmps69
  go_wp2_with (first | (go_at_call 115; refine H2.out.mono ?_; rintro e w' ⟨rfl, rfl⟩) | (go_at_call 116; refine HE.out.mono ?_; rintro e w1 ⟨g, rfl, hb, hR⟩))
  go_ret2
  exact ⟨g, rfl, hb, hR⟩
end Go.Proofs.Ytljaabmemjehpaa
namespace Go.Proofs.Ytljaabmemjehpaa
open Go.RowKit Go.Joins Go.ChangeShapes Go.WideShapes Go.Deep
set_option linter.unusedVariables false
set_option linter.unusedSimpArgs false

def fEncodeWith (d p l : Int) (rows : List (List Int)) (msg : List Int) : List Int × Int :=
  if fValidCode d p l rows = false then ([], 1) else if ¬ (msg.length = rows.length ∧ allIn (2 ^ d.toNat) msg = true) then ([], 2) else (ints (encS p.toNat l.toNat rows (nats msg) rows.length), 0)
theorem valid_zero {d p l : Int} {rows : List (List Int)} (h : fValidCode d p l rows = true) : cRows d p l rows = 0 := by
  rw [fValidCode] at h
  split at h
  · assumption
  · cases h

set_option maxRecDepth 100000 in
set_option maxHeartbeats 3200000 in
theorem specEncodeWith_any (d p l : Int) (v : Value) (rows : List (List Int)) (vm : Value) (msg : List Int) (w : World) {B T : Nat} (hA : RR w v rows) (hM : Res w B T vm msg) :
    Calls Try.prog 15 #[.agg (codL d p l v).toArray, vm] w fun e w' => ∃ v, e = .returned (.tuple #[v, .int .i64 (fEncodeWith d p l rows msg).2]) ∧ Below w.heap.size w w' ∧ Res w' w.heap.size w'.heap.size v (fEncodeWith d p l rows msg).1 := by
  obtain ⟨A, cap, rfl⟩ := hA.is
  obtain ⟨A1, k1, c1, rfl⟩ := hM.form
  have hlen := hM.len
  have hsm := hM.small
  have HO := Lib.hid (fun W a b => l04Ok_any d p l (.slice A rows.length cap) rows W w.heap.size a b)
  have HG := Lib.hid (G1.start w (codL d p l (.slice A rows.length cap)) 33)
  obtain ⟨n, hn⟩ : ∃ n, rows.length = n := ⟨_, rfl⟩
  rw [hn] at hA HO HG ⊢
  have HA := Lib.hid hA
  have HM := Lib.hid hM
  clear hA hM
  cases hv : fValidCode d p l rows with
  | false =>
    have e : fEncodeWith d p l rows msg = ([], 1) := by rw [fEncodeWith, if_pos hv]
    rw [e]
    rw [hv] at HO
    clear hv e hlen hn
    go_enter Try.func15, Try.ntmps15
    go_wp2_with fail
    refine (HO.out _ HG.out.x (HA.out.next HG.out.b)).mono ?_
    rintro e w1 ⟨rfl, hb⟩
    have HB := Lib.hid (HG.out.next hb).b
    clear hb
    go_wp2_with fail
    go_ret2
    exact ⟨_, rfl, HB.out.trans ((below_alloc1 _ _).mono HB.out.size), .nil _ _⟩
  | true =>
    obtain ⟨m, P, N, len, rfl, rfl, rfl, hN, hF, hl0, hl5, h10, hok⟩ := cRows_zero (valid_zero hv)
    rw [hv] at HO
    by_cases hk : k1 = n
    · subst hk
      have HS := Lib.hid (fun W a => l04ElementsR m P N hF (v := .slice A1 k1 c1) msg W a (B := B) (T := T))
      cases hin : allIn N msg with
      | false =>
        have e : fEncodeWith m P len rows msg = ([], 2) := by rw [fEncodeWith, if_neg (by rw [hv]; simp), if_pos (by rw [Int.toNat_natCast, hN, hin]; simp)]
        rw [e]
        rw [hin] at HS
        clear hv e hlen hn hF hok hin hN
        go_enter Try.func15, Try.ntmps15
        go_wp2_with fail
        refine (HO.out _ HG.out.x (HA.out.next HG.out.b)).mono ?_
        rintro e w1 ⟨rfl, hb⟩
        have HG1 := Lib.hid (HG.out.next hb)
        clear hb
        have x0 := HG1.out.x.cell 0 _ rfl; have x1 := HG1.out.x.cell 1 _ rfl; have x2 := HG1.out.x.cell 2 _ rfl; have x3 := HG1.out.x.cell 3 _ rfl
        go_wp2_with (go_at_call 64; refine (HS.out _ (HM.out.next HG1.out.b)).mono ?_; rintro e w2 ⟨rfl, hb⟩; have HB := Lib.hid (HG1.out.next hb).b; clear hb)
        go_ret2
        exact ⟨_, rfl, HB.out.trans ((below_alloc1 _ _).mono HB.out.size), .nil _ _⟩
      | true =>
        have e : fEncodeWith m P len rows msg = (ints (encS P len rows (nats msg) k1), 0) := by
          rw [fEncodeWith, if_neg (by rw [hv]; simp), if_neg (by rw [Int.toNat_natCast, hN, hin]; intro h; exact h ⟨by omega, rfl⟩), Int.toNat_natCast, Int.toNat_natCast, hn]
        rw [e]
        rw [hin] at HS
        have HE := Lib.hid (fun W a b c => l04Encode_any m P N hF len hl0 hl5 (.slice A k1 cap) rows (by omega) hok w.heap.size A1 c1 (nats msg) (nats_lt hin (by have := hF.n2; omega)) W a b c)
        rw [hn] at HE
        have hM2 := HM.out.rl hin
        have HM2 := Lib.hid hM2
        clear hv e hlen hn hF hok hin hN hM2
        go_enter Try.func15, Try.ntmps15
        go_wp2_with fail
        refine (HO.out _ HG.out.x (HA.out.next HG.out.b)).mono ?_
        rintro e w1 ⟨rfl, hb⟩
        have HG1 := Lib.hid (HG.out.next hb)
        clear hb
        have x0 := HG1.out.x.cell 0 _ rfl; have x1 := HG1.out.x.cell 1 _ rfl; have x2 := HG1.out.x.cell 2 _ rfl; have x3 := HG1.out.x.cell 3 _ rfl
        go_wp2_with (go_at_call 64; refine (HS.out _ (HM.out.next HG1.out.b)).mono ?_; rintro e w2 ⟨rfl, hb⟩; have HG2 := Lib.hid (HG1.out.next hb); clear hb)
        refine (HE.out _ HG2.out.x (HA.out.next HG2.out.b) (HM2.out.below HG2.out.b)).mono ?_
        rintro e w3 ⟨g, cd, rfl, hb, hg0, hg1, hR, hf⟩
        have HB := Lib.hid (HG2.out.next hb).b
        have hz := HG2.out.z
        have hR' : Res w3 w.heap.size w3.heap.size (.slice (some ⟨g, 0, none⟩) len cd) (ints (encS P len rows (nats msg) k1)) := .row g len cd _ (by omega) hg1 (Nat.le_refl _) (by rw [ints_length]; exact hR.len) (by omega) (fun j hj => by rw [hR.eltS hj, ints_get]) (fun j _ => hf j)
        have HRR := Lib.hid hR'
        clear hb hg0 hg1 hR hf hR' hz
        go_wp2_with fail
        go_ret2
        exact ⟨_, rfl, HB.out, HRR.out⟩
    · have e : fEncodeWith m P len rows msg = ([], 2) := by rw [fEncodeWith, if_neg (by rw [hv]; simp), if_pos (by intro h; have := h.1; omega)]
      rw [e]
      clear hv e hlen hF hok hN hn
      go_enter Try.func15, Try.ntmps15
      go_wp2_with fail
      refine (HO.out _ HG.out.x (HA.out.next HG.out.b)).mono ?_
      rintro e w1 ⟨rfl, hb⟩
      have HG1 := Lib.hid (HG.out.next hb)
      clear hb
      have x0 := HG1.out.x.cell 0 _ rfl; have x1 := HG1.out.x.cell 1 _ rfl; have x2 := HG1.out.x.cell 2 _ rfl; have x3 := HG1.out.x.cell 3 _ rfl
      go_wp2_with fail
      go_ret2
      exact ⟨_, rfl, HG1.out.b.trans ((below_alloc1 _ _).mono HG1.out.b.size), .nil _ _⟩
end Go.Proofs.Ytljaabmemjehpaa
