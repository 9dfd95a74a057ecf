/- A word added to a coder's rows: the program's span. -/
import Derived.Test.YtljaabmemjehpaaKW
import Derived.Test.YtljaabmemjehpaaHeld2
import Derived.Test.YtljaabmemjehpaaQuo
namespace Go.Proofs.Ytljaabmemjehpaa
open Go.RowKit Go.Joins
set_option linter.unusedVariables false
set_option linter.unusedSimpArgs false

theorem Rl.lt0 {W : World} {K : IntKind} {g n : Nat} {p : List Nat} (h : Rl W K (some ⟨g, 0, none⟩) n p) (h0 : 0 < n) : g < W.heap.size := by
  obtain ⟨x, e, hx, _⟩ := h.row h0
  injection e with e; injection e with e
  rw [e]; exact hx
theorem Rl.elt {W : World} {K : IntKind} {g n j : Nat} {p : List Nat} (h : Rl W K (some ⟨g, 0, none⟩) n p) (hj : j < n) : W.cell? ⟨g, j, none⟩ = some (.int K (nth p j : Nat)) := by
  obtain ⟨x, e, hx, hc⟩ := h.row (by omega)
  injection e with e; injection e with e
  rw [e]; exact hc j hj
theorem Rl.some {W : World} {K : IntKind} {A : Option Addr} {n : Nat} {p : List Nat} (h : Rl W K A n p) (h0 : 0 < n) : ∃ g, A = some ⟨g, 0, none⟩ := by
  obtain ⟨g, e, _, _⟩ := h.row h0
  exact ⟨g, e⟩
theorem LF.at {W W' : World} {q : Nat} {vs : List Value} (h : LF W q vs) (hg : W'.heap[q]? = W.heap[q]?) (hs : W.heap.size ≤ W'.heap.size) : LF W' q vs :=
  ⟨⟨fun j v hv => (World.cell?_of_block (w := W) (a := ⟨q, j, none⟩) hg).trans (h.b.cell j v hv), Nat.lt_of_lt_of_le h.b.lt hs⟩, fun j hj => (World.frozen?_of_block (w := W) (a := ⟨q, j, none⟩) hg).trans (h.free j hj)⟩
theorem Calc.at' {c m P n : Nat} {W W' : World} (h : Calc c m P n W) (hg : W'.heap[c]? = W.heap[c]?) : Calc c m P n W' :=
  ⟨(World.cell?_of_block (w := W) (a := ⟨c, 0, none⟩) hg).trans h.deg, fun a b ha hb => (World.cell?_of_block (w := W) (a := ⟨c, 1 + a * 32 + b, none⟩) hg).trans (h.tab a b ha hb)⟩
theorem KW.other {W : World} {B len n : Nat} {v : Value} {hs : Nat → List Nat} {vs : Nat → Value} {b : Nat → Nat} (h : KW W B len n v hs vs b) {q : Nat} (hq : q < B) (i : Nat) (u : Value) : KW (W.setCell ⟨q, i, none⟩ u) B len n v hs vs b :=
  ⟨ownsRow_setCell_below h.head hq _, h.form, fun j hj => (h.row j hj).other (by have := (h.own j hj).1; omega) _ _, fun j hj => by
    obtain ⟨h1, h2, h3⟩ := h.own j hj
    exact ⟨h1, by rw [size_setCell_]; exact h2, h3⟩⟩
/-- What holds of a coder all along: its cells, its calculator, its rows. -/
structure KA (W : World) (q c : Nat) (d p : Int) (m P N B len n : Nat) (v : Value) (hs : Nat → List Nat) (vs : Nat → Value) (b : Nat → Nat) : Prop where
  x : LF W q (kcL c d p (len : Int) v)
  k : Calc c m P N W
  r : KW W B len n v hs vs b
  cq : c < q
  qB : q < B
theorem KA.next {W W' : World} {q c : Nat} {d p : Int} {m P N B len n : Nat} {v : Value} {hs : Nat → List Nat} {vs : Nat → Value} {b : Nat → Nat} (h : KA W q c d p m P N B len n v hs vs b) (hb : Below W.heap.size W W') : KA W' q c d p m P N B len n v hs vs b :=
  ⟨h.x.next hb, h.k.next hb, h.r.below hb, h.cq, h.qB⟩
theorem KA.set {W : World} {q c : Nat} {d p : Int} {m P N B len n g cap : Nat} {hs : Nat → List Nat} {vs : Nat → Value} {b : Nat → Nat} (h : KA W q c d p m P N B len n (.slice (some ⟨g, 0, none⟩) n cap) hs vs b) (hg : B ≤ g) (i : Nat) {b' cj : Nat} {r : List Nat} (hR : Rl W .u8 (some ⟨b', 0, none⟩) len r) (h1 : B ≤ b') (h2 : b' ≠ g) (h3 : b' < W.heap.size) :
    KA (W.setCell ⟨g, i, none⟩ (.slice (some ⟨b', 0, none⟩) len cj)) q c d p m P N B len n (.slice (some ⟨g, 0, none⟩) n cap) (up hs i r) (up vs i (.slice (some ⟨b', 0, none⟩) len cj)) (up b i b') := by
  have h4 := h.cq
  have h5 := h.qB
  exact ⟨h.x.other (by omega) _ _, h.k.other (by omega) _ _, h.r.set i hR h1 h2 h3, h4, h5⟩

theorem OutV.rest {P len : Nat} {N m : Nat} (hF : Fld m P N) {L : List (Nat → Nat)} (hL : ∀ s ∈ L, InV N s ∧ OutV len s) : ∀ {w : Nat → Nat}, InV N w → OutV len w → InV N (restV P len L w) ∧ OutV len (restV P len L w) := by
  induction L with
  | nil => intro w h1 h2; exact ⟨h1, h2⟩
  | cons s L ih =>
    intro w h1 h2
    have hs := hL s (by simp)
    exact ih (fun t ht => hL t (List.mem_cons_of_mem _ ht)) (h1.add hF (InV.mul hF _ _)) (h2.add (OutV.mul hF (h1 _) hs.2))
/-- The place where a row comes in, told by what stands before it. -/
theorem place_of {len n p t : Nat} {hs : Nat → List Nat} {w : Nat → Nat} (ht : ldv w len = t) (hp : p ≤ n) (h1 : ∀ x, x < p → ldv (nth (hs x)) len < t) (h2 : ∀ x, p ≤ x → x < n → t ≤ ldv (nth (hs x)) len) : placeV len (fs hs n) w = p := by
  have e : fs hs n = fs hs p ++ (List.range (n - p)).map (fun j => nth (hs (p + j))) := by
    refine List.ext_getElem (by simp [fs]; omega) (fun j a1 a2 => ?_)
    by_cases e : j < p
    · rw [List.getElem_append_left (by simp [fs]; omega)]; simp [fs]
    · rw [List.getElem_append_right (by simp [fs]; omega)]
      simp [fs]
      rw [show p + (j - p) = j by omega]
  rw [placeV, e, List.countP_append, ht]
  have c1 : (fs hs p).countP (fun s => decide (ldv s len < t)) = p := by
    have : (fs hs p).countP (fun s => decide (ldv s len < t)) = (fs hs p).length := by
      rw [List.countP_eq_length]
      intro s hs'
      obtain ⟨j, hj, rfl⟩ := List.mem_map.1 hs'
      simpa using h1 j (List.mem_range.1 hj)
    rw [this, fs_len]
  have c2 : ((List.range (n - p)).map (fun j => nth (hs (p + j)))).countP (fun s => decide (ldv s len < t)) = 0 := by
    rw [List.countP_eq_zero]
    intro s hs'
    obtain ⟨j, hj, rfl⟩ := List.mem_map.1 hs'
    have hj := List.mem_range.1 hj
    have := h2 (p + j) (by omega) (by omega)
    simp; omega
  rw [c1, c2, Nat.add_zero]

set_option maxRecDepth 100000 in
set_option maxHeartbeats 12800000 in
theorem span_any (m P N : Nat) (hF : Fld m P N) (q c : Nat) (d p : Int) (B len n : Nat) (hl0 : 0 < len) (hl5 : len ≤ 5) (hn : n ≤ 900) (v : Value) (hs : Nat → List Nat) (vs : Nat → Value) (b : Nat → Nat) (hE : EchV N len (fs hs n)) (A : Option Addr) (cp : Nat) (pw : List Nat) (hpw : ∀ j, nth pw j < N) (w : World) (hB : B ≤ w.heap.size) (hK : KA w q c d p m P N B len n v hs vs b) (hR : Rl w .u8 A len pw) :
    Calls Try.prog 130 #[.pointer (some ⟨q, 0, none⟩), .slice A len cp] w fun e w' => e = .returned (.tuple #[]) ∧ Below q w w' ∧ ∃ n' v' hs' vs' b', n' ≤ n + 1 ∧ KA w' q c d p m P N B len n' v' hs' vs' b' ∧ fs hs' n' = addV P N len (fs hs n) (nth pw) := by
  have hN := hF.n2
  have hN32 := hF.n32
  have hqw : q < w.heap.size := hK.x.b.lt
  have HVEC : Hid (∀ j, j < n → (∀ i, nth (hs j) i < N) ∧ ldI (hs j) len = (ldv (nth (hs j)) len : Nat) ∧ ldv (nth (hs j)) len < len) := Lib.hid (fun j hj => by
    have h1 := hE.ld _ (fs_mem hj)
    exact ⟨hE.vec _ (fs_mem hj), by rw [ldI, if_pos h1.1], h1.1⟩)
  have HE := Lib.hid hE
  have HPW := Lib.hid hpw
  have HBZ := Lib.hid (And.intro hB hqw)
  have HK := Lib.hid hK
  have HR := Lib.hid hR
  have HR0 := Lib.hid hR
  have x0 := hK.x.b.cell 0 _ rfl; have x4 := hK.x.b.cell 4 _ rfl
  have HV : ∃ A0 c0, v = .slice A0 n c0 := by
    rcases ownsRow_forms hK.r.head with ⟨rfl, rfl⟩ | ⟨g, cap, rfl⟩
    · exact ⟨_, _, rfl⟩
    · exact ⟨_, _, rfl⟩
  obtain ⟨A0, c0, rfl⟩ := HV
  clear hE hpw hK hR hB hqw
  go_enter Try.func130, Try.ntmps130
  go_wp2_with fail
  go_loopw [1, 16] (fun wv iv wr => ∃ (j : Nat) (A : Option Addr) (cp : Nat) (pj : List Nat), j ≤ n ∧ iv = .int .i64 j ∧ wv = .slice A len cp ∧ Below w.heap.size w wr ∧ Rl wr .u8 A len pj ∧ Hid (nth pj = restV P len (fs hs j) (nth pw))) (fun _ iv _ => n - (intOf iv).toNat)
  case atStart => exact ⟨0, A, cp, pw, Nat.zero_le _, rfl, rfl, Below.refl _ _, HR.out, Lib.hid rfl⟩
  case round =>
    obtain ⟨j, A, cp, pj, hj, rfl, rfl, hb, hR, HJ⟩ := hrel
    clear HR x0 x4
    obtain ⟨wb, rfl⟩ := hR.some hl0
    have HRW := Lib.hid hR
    have HPJ : Hid (∀ i, nth pj i < N) := Lib.hid (fun i => by
      rw [HJ.out]
      exact (OutV.rest hF (fun s hs' => by
        obtain ⟨x, hx, rfl⟩ := List.mem_map.1 hs'
        have hx := List.mem_range.1 hx
        exact ⟨(HVEC.out x (by omega)).1, out_nth ((HK.out.r.row x (by omega)).len)⟩) HPW.out (out_nth HR0.out.len)).1 i)
    by_cases hlt : j < n
    · have hK := HK.out.next hb
      obtain ⟨g, cap, cj, e, hgB, hgl, hck, hvj, hfr⟩ := hK.r.at hlt
      injection e with e1 e2 e3
      subst e1 e3
      obtain ⟨bj, hbj⟩ : ∃ x, b j = x := ⟨_, rfl⟩
      rw [hbj] at hck
      obtain ⟨hv1, hv2, hv3⟩ := HVEC.out j hlt
      obtain ⟨t, ht⟩ : ∃ t, ldv (nth (hs j)) len = t := ⟨_, rfl⟩
      rw [ht] at hv2 hv3
      obtain ⟨x, hx⟩ : ∃ x, nth pj t = x := ⟨_, rfl⟩
      have hxN : x < N := by rw [← hx]; exact HPJ.out t
      have HX := Lib.hid hx
      have HT := Lib.hid ht
      have HBJ := Lib.hid hbj
      have HV1 := Lib.hid hv1
      have HV2 := Lib.hid hv2
      obtain ⟨Φ, hΦ⟩ : ∃ Φ : World → Prop, Φ = fun W => KA W q c d p m P N B len n (.slice (some ⟨g, 0, none⟩) n c0) hs vs b ∧ Rl W .u8 (some ⟨wb, 0, none⟩) len pj ∧ Below w.heap.size w W := ⟨_, rfl⟩
      have F0 : Φ wr.drew := by rw [hΦ]; exact ⟨hK.next (Below.refl _ wr).drew, hR.below (Below.refl _ wr).drew, hb.drew⟩
      have SP : Hid (∀ W W', Φ W → Below W.heap.size W W' → Φ W') := fun W W' h hb => by rw [hΦ] at h ⊢; exact ⟨h.1.next hb, h.2.1.below hb, h.2.2.trans (hb.mono h.2.2.size)⟩
      have CB : Hid (∀ W, Φ W → Below w.heap.size w W) := fun W h => by rw [hΦ] at h; exact h.2.2
      have CK : Hid (∀ W, Φ W → W.cell? ⟨q, 0, none⟩ = some (.pointer (some ⟨c, 0, none⟩))) := fun W h => by rw [hΦ] at h; exact h.1.x.b.cell 0 _ rfl
      have CX : Hid (∀ W, Φ W → W.cell? ⟨wb, t, none⟩ = some (.int .u8 (x : Int))) := fun W h => by rw [hΦ] at h; rw [← HX.out]; exact h.2.1.elt hv3
      have CLd : Hid (∀ W, Φ W → Calls Try.prog 76 #[.slice (some ⟨bj, 0, none⟩) len cj] W fun e w' => e = .returned (.int .i64 (t : Int)) ∧ W = w') := fun W h => by
        rw [hΦ] at h
        have h1 := h.1.r.row j hlt
        rw [HBJ.out] at h1
        have := wlead_any (some ⟨bj, 0, none⟩) len cj (hs j) (by omega) (fun i => by have := HV1.out i; omega) W h1
        rwa [HV2.out] at this
      have CMu : Hid (∀ W, Φ W → Calls Try.prog 118 #[.pointer (some ⟨c, 0, none⟩), .int .u8 (x : Int), .slice (some ⟨bj, 0, none⟩) len cj] W fun e w' => ∃ b, e = .returned (.slice (some ⟨b, 0, none⟩) len len) ∧ Below W.heap.size W w' ∧ Rl w' .u8 (some ⟨b, 0, none⟩) len (scl P x (hs j))) := fun W h => by
        rw [hΦ] at h
        have h1 := h.1.r.row j hlt
        rw [HBJ.out] at h1
        exact multiple_any c m P N hF x hxN (some ⟨bj, 0, none⟩) len cj (hs j) HV1.out (by omega) W h.1.k h1
      have CPl : Hid (∀ W b1, Φ W → Rl W .u8 (some ⟨b1, 0, none⟩) len (scl P x (hs j)) → Calls Try.prog 117 #[.slice (some ⟨wb, 0, none⟩) len cp, .slice (some ⟨b1, 0, none⟩) len len] W fun e w' => ∃ g, e = .returned (.slice (some ⟨g, 0, none⟩) len len) ∧ Below W.heap.size W w' ∧ Rl w' .u8 (some ⟨g, 0, none⟩) len (xorW pj (scl P x (hs j)) len)) := fun W b1 h h1 => by
        rw [hΦ] at h
        exact wplus_any (some ⟨wb, 0, none⟩) (some ⟨b1, 0, none⟩) len cp len pj (scl P x (hs j)) (fun i => by have := HPJ.out i; omega) (fun i => by rw [nth_scl' hF hxN]; have := hF.mul_lt x (nth (hs j) i); show mul P x (nth (hs j) i) < 256; omega) (by omega) W h.2.1 h1
      have HNEXT : Hid (nth (xorW pj (scl P x (hs j)) len) = restV P len (fs hs (j + 1)) (nth pw)) := Lib.hid (by
        have hlj := (hK.r.row j hlt).len
        rw [nth_xorW hR.len (by rw [scl, lst_length]; exact hlj), nth_scl' hF hxN, fs_succ, restV_snoc, ← HJ.out, HT.out, HX.out])
      have a0 := CK.out _ F0
      have a1 := CX.out _ F0
      clear hΦ hK hb hR hbj hv1 hv2 ht hx hvj hfr hgl
      go_wp2_with fail
      refine wp_region_S (n := 13) (S := Φ) (by kernel_rfl) (by kernel_rfl) F0 (fun G inv hS => ?_)
      clear a0 a1 hck F0
      refine wpAnyS_take (i := 0) (v := ?_) G inv hS (by decide) rfl (by kernel_rfl) (by kernel_rfl) (fun _ _ _ h => h) (Or.inl ⟨by kernel_rfl, fun W hW => ?_⟩) (fun inv => ?_)
      rotate_left
      · have z0 := CK.out _ hW
        have z1 := CX.out _ hW
        go_simp
        try with_reducible rfl
      try simp only [Act.put, List.setIfInBounds_toArray, List.set_cons_zero, List.set_cons_succ]
      refine wpAnyS_take (i := 1) (v := ?_) G inv hS (by decide) rfl (by kernel_rfl) (by kernel_rfl) (fun _ _ _ h => h) (Or.inl ⟨by kernel_rfl, fun W hW => ?_⟩) (fun inv => ?_)
      rotate_left
      · have z0 := CK.out _ hW
        have z1 := CX.out _ hW
        go_simp
        try with_reducible rfl
      try simp only [Act.put, List.setIfInBounds_toArray, List.set_cons_zero, List.set_cons_succ]
      refine wpAnyS_take (i := 2) (v := ?_) G inv hS (by decide) rfl (by kernel_rfl) (by kernel_rfl) (fun _ _ _ h => h) (Or.inl ⟨by kernel_rfl, fun W hW => ?_⟩) (fun inv => ?_)
      rotate_left
      · have z0 := CK.out _ hW
        have z1 := CX.out _ hW
        go_simp
        try with_reducible rfl
      try simp only [Act.put, List.setIfInBounds_toArray, List.set_cons_zero, List.set_cons_succ]
      refine wpAnyS_take (i := 3) (v := ?_) G inv hS (by decide) rfl (by kernel_rfl) (by kernel_rfl) (fun _ _ _ h => h) (Or.inl ⟨by kernel_rfl, fun W hW => ?_⟩) (fun inv => ?_)
      rotate_left
      · have z0 := CK.out _ hW
        have z1 := CX.out _ hW
        go_simp
        try with_reducible rfl
      try simp only [Act.put, List.setIfInBounds_toArray, List.set_cons_zero, List.set_cons_succ]
      refine wpAnyS_take (i := 4) (v := ?_) G inv hS (by decide) rfl (by kernel_rfl) (by kernel_rfl) (fun _ _ _ h => h) (Or.inl ⟨by kernel_rfl, fun W hW => ?_⟩) (fun inv => ?_)
      rotate_left
      · have z0 := CK.out _ hW
        have z1 := CX.out _ hW
        go_simp
        try with_reducible rfl
      try simp only [Act.put, List.setIfInBounds_toArray, List.set_cons_zero, List.set_cons_succ]
      refine wpAnyS_take (i := 5) (v := ?_) G inv hS (by decide) rfl (by kernel_rfl) (by kernel_rfl) (fun _ _ _ h => h) (Or.inl ⟨by kernel_rfl, fun W hW => ?_⟩) (fun inv => ?_)
      rotate_left
      · have z0 := CK.out _ hW
        have z1 := CX.out _ hW
        go_simp
        try with_reducible rfl
      try simp only [Act.put, List.setIfInBounds_toArray, List.set_cons_zero, List.set_cons_succ]
      refine wpAnyS_take (i := 6) (v := ?_) G inv hS (by decide) rfl (by kernel_rfl) (by kernel_rfl) (fun _ _ _ h => h) (Or.inl ⟨by kernel_rfl, fun W hW => ?_⟩) (fun inv => ?_)
      rotate_left
      · have z0 := CK.out _ hW
        have z1 := CX.out _ hW
        go_simp
        try with_reducible rfl
      try simp only [Act.put, List.setIfInBounds_toArray, List.set_cons_zero, List.set_cons_succ]
      refine wpAnyS_take (i := 10) (v := ?_) G inv hS (by decide) rfl (by kernel_rfl) (by kernel_rfl) (fun _ _ _ h => h) (Or.inl ⟨by kernel_rfl, fun W hW => ?_⟩) (fun inv => ?_)
      rotate_left
      · have z0 := CK.out _ hW
        have z1 := CX.out _ hW
        go_simp
        try with_reducible rfl
      try simp only [Act.put, List.setIfInBounds_toArray, List.set_cons_zero, List.set_cons_succ]
      refine wpAnyS_step (i := 7) (by kernel_rfl) rfl ?_
      go_wp2_with (go_at_call 76; refine (CLd.out _ hS).mono ?_; rintro e w' ⟨rfl, rfl⟩)
      change (7 ≠ 13 → Φ _) ∧ _
      refine ⟨fun _ => hS, ?_⟩
      have y1 := CX.out _ hS
      refine wpAnyS_step (i := 8) (by kernel_rfl) rfl ?_
      go_wp2
      change (8 ≠ 13 → Φ _) ∧ _
      refine ⟨fun _ => hS, ?_⟩
      refine wpAnyS_step (i := 9) (by kernel_rfl) rfl ?_
      go_wp2
      change (9 ≠ 13 → Φ _) ∧ _
      refine ⟨fun _ => hS, ?_⟩
      refine wpAnyS_step (i := 11) (by kernel_rfl) rfl ?_
      go_wp2_with (go_at_call 118; refine (CMu.out _ hS).mono ?_; rintro e w1 ⟨b1, rfl, hb1, hR1⟩)
      have F1 : Φ w1 := SP.out _ _ hS hb1
      have B1 : Below w.heap.size w w1 := (CB.out _ hS).trans (hb1.mono (CB.out _ hS).size)
      clear hb1
      change (11 ≠ 13 → Φ w1) ∧ _
      refine ⟨fun _ => F1, ?_⟩
      refine wpAnyS_step (i := 12) (by kernel_rfl) rfl ?_
      go_wp2_with (go_at_call 117; refine (CPl.out _ _ F1 hR1).mono ?_; rintro e w2 ⟨g2, rfl, hb2, hR2⟩)
      have F2 : Φ w2 := SP.out _ _ F1 hb2
      clear hb2
      change (12 ≠ 13 → Φ w2) ∧ _
      refine ⟨fun _ => F2, ?_⟩
      refine wpAnyS_step (i := 13) (by kernel_rfl) rfl ?_
      go_wp2
      refine ⟨fun h => absurd rfl h, ?_⟩
      refine wpAnyS_done (by kernel_rfl) ?_ _
      have HEND := CB.out _ F2
      go_wp2_with fail
      go_roundw
      case rel => exact ⟨j + 1, _, _, _, by omega, by go_num, rfl, HEND, hR2, HNEXT⟩
      case measure => simp [intOf]; omega
    · obtain rfl : n = j := by omega
      obtain ⟨t, ht⟩ : ∃ t, ldv (nth pj) len = t := ⟨_, rfl⟩
      have HT := Lib.hid ht
      have HLD := Lib.hid (fun W h => wlead_any (some ⟨wb, 0, none⟩) len cp pj (by omega) (fun i => by have := HPJ.out i; omega) W h)
      by_cases htl : t < len
      · have hld : ldI pj len = (t : Int) := by rw [ldI, ht, if_pos htl]
        rw [hld] at HLD
        obtain ⟨x, hx⟩ : ∃ x, nth pj t = x := ⟨_, rfl⟩
        have hx0 : x ≠ 0 := by rw [← hx, ← ht]; exact ldv_ne (by omega)
        have hxN : x < N := by rw [← hx]; exact HPJ.out t
        have HX := Lib.hid hx
        have hK := HK.out.next hb
        obtain ⟨Φ, hΦ⟩ : ∃ Φ : World → Prop, Φ = fun W => KA W q c d p m P N B len n (.slice A0 n c0) hs vs b ∧ Rl W .u8 (some ⟨wb, 0, none⟩) len pj ∧ Below w.heap.size w W := ⟨_, rfl⟩
        have F0 : Φ wr.drew := by rw [hΦ]; exact ⟨hK.next (Below.refl _ wr).drew, hR.below (Below.refl _ wr).drew, hb.drew⟩
        have SP : Hid (∀ W W', Φ W → Below W.heap.size W W' → Φ W') := fun W W' h hb => by rw [hΦ] at h ⊢; exact ⟨h.1.next hb, h.2.1.below hb, h.2.2.trans (hb.mono h.2.2.size)⟩
        have CB : Hid (∀ W, Φ W → KA W q c d p m P N B len n (.slice A0 n c0) hs vs b ∧ Below w.heap.size w W) := fun W h => by rw [hΦ] at h; exact ⟨h.1, h.2.2⟩
        have CK : Hid (∀ W, Φ W → W.cell? ⟨q, 0, none⟩ = some (.pointer (some ⟨c, 0, none⟩))) := fun W h => by rw [hΦ] at h; exact h.1.x.b.cell 0 _ rfl
        have CX : Hid (∀ W, Φ W → W.cell? ⟨wb, t, none⟩ = some (.int .u8 (x : Int))) := fun W h => by rw [hΦ] at h; rw [← HX.out]; exact h.2.1.elt htl
        obtain ⟨y, hy⟩ : ∃ y, quo P N 1 x = y := ⟨_, rfl⟩
        have hyN : y < N := by rw [← hy]; exact quo_lt hF 1 x
        have CQu : Hid (∀ W, Φ W → Calls Try.prog 156 #[.pointer (some ⟨c, 0, none⟩), .int .u8 1, .int .u8 (x : Int)] W fun e w' => e = .returned (.int .u8 (y : Int)) ∧ Below W.heap.size W w') := fun W h => by
          rw [hΦ] at h
          rw [← hy]
          exact quotient_any c m P N hF 1 x (by omega) hx0 hxN W h.1.k
        obtain ⟨qw, hqw⟩ : ∃ qw, scl P y pj = qw := ⟨_, rfl⟩
        have CMu : Hid (∀ W, Φ W → Calls Try.prog 118 #[.pointer (some ⟨c, 0, none⟩), .int .u8 (y : Int), .slice (some ⟨wb, 0, none⟩) len cp] W fun e w' => ∃ b, e = .returned (.slice (some ⟨b, 0, none⟩) len len) ∧ W.heap.size ≤ b ∧ Below W.heap.size W w' ∧ Rl w' .u8 (some ⟨b, 0, none⟩) len qw) := fun W h => by
          rw [hΦ] at h
          rw [← hqw]
          exact multiple_new c m P N hF y hyN (some ⟨wb, 0, none⟩) len cp pj HPJ.out (by omega) W h.1.k h.2.1
        have CGE : Hid (∀ W (g : Nat), Φ W → W.heap.size ≤ g → w.heap.size ≤ g ∧ B ≤ g ∧ (Value.slice A0 n c0).ownBlock ≠ some g) := fun W g h hg => by
          rw [hΦ] at h
          have h1 := h.2.2.size
          have h2 := HBZ.out.1
          refine ⟨by omega, by omega, fun e => ?_⟩
          have := h.1.r.head.lt g e
          omega
        -- what the rows become
        have hqf : nth qw = normV P N len (restV P len (fs hs n) (nth pw)) := by
          rw [← hqw, nth_scl' hF hyN, normV, ← HJ.out, ht, hx, hy]
        have hE := HE.out
        obtain ⟨r1, r2, r3, _⟩ := restV_spec hF hE HPW.out (out_nth HR0.out.len)
        rw [← HJ.out] at r1 r2 r3
        obtain ⟨n1, n2, n3, n4, _⟩ := norm_spec hF (w := nth pj) r1 r2 (by rw [ht]; exact htl)
        rw [ht] at n3 n4
        rw [← HJ.out] at hqf
        rw [← hqf] at n1 n2 n3 n4
        have HQL : Hid (∀ i, nth qw i < N) := Lib.hid n1
        have HQ3 := Lib.hid (And.intro n3 n4)
        have hzero : ∀ s ∈ fs hs n, nth qw (ldv s len) = 0 := fun s hs' => by
          rw [hqf, normV]; exact vs_at hF (quo_lt hF _ _) (r3 s hs')
        have HADD : Hid (addV P N len (fs hs n) (nth pw) = insV P len (fs hs n) (nth qw)) := Lib.hid (by
          rw [addV, ← HJ.out, if_neg (by omega), hqf])
        have HCH : Hid (∀ i, i < n → ldv (chgV P len (nth qw) (nth (hs i))) len = ldv (nth (hs i)) len) := Lib.hid (fun i hi =>
          (chgV_spec hF (hE.ld _ (fs_mem hi)) (hE.vec _ (fs_mem hi)) n1 (by rw [n3]; exact ⟨htl, n4⟩) (hzero _ (fs_mem hi))).1)
        have a0 := CK.out _ F0
        have a1 := CX.out _ F0
        clear hΦ hK hb hR hx hy hqw hqf r1 r2 r3 n1 n2 n3 n4 hzero hE ht hld
        go_wp2_with (go_at_call 76; refine (HLD.out _ HRW.out).mono ?_; rintro e w' ⟨rfl, rfl⟩)
        refine wp_region_S (n := 15) (S := Φ) (by kernel_rfl) (by kernel_rfl) F0 (fun G inv hS => ?_)
        clear a0 a1 F0
        refine wpAnyS_take (i := 0) (v := ?_) G inv hS (by decide) rfl (by kernel_rfl) (by kernel_rfl) (fun _ _ _ h => h) (Or.inl ⟨by kernel_rfl, fun W hW => ?_⟩) (fun inv => ?_)
        rotate_left
        · have z0 := CK.out _ hW
          have z1 := CX.out _ hW
          go_simp
          try with_reducible rfl
        try simp only [Act.put, List.setIfInBounds_toArray, List.set_cons_zero, List.set_cons_succ]
        refine wpAnyS_take (i := 1) (v := ?_) G inv hS (by decide) rfl (by kernel_rfl) (by kernel_rfl) (fun _ _ _ h => h) (Or.inl ⟨by kernel_rfl, fun W hW => ?_⟩) (fun inv => ?_)
        rotate_left
        · have z0 := CK.out _ hW
          have z1 := CX.out _ hW
          go_simp
          try with_reducible rfl
        try simp only [Act.put, List.setIfInBounds_toArray, List.set_cons_zero, List.set_cons_succ]
        refine wpAnyS_take (i := 2) (v := ?_) G inv hS (by decide) rfl (by kernel_rfl) (by kernel_rfl) (fun _ _ _ h => h) (Or.inl ⟨by kernel_rfl, fun W hW => ?_⟩) (fun inv => ?_)
        rotate_left
        · have z0 := CK.out _ hW
          have z1 := CX.out _ hW
          go_simp
          try with_reducible rfl
        try simp only [Act.put, List.setIfInBounds_toArray, List.set_cons_zero, List.set_cons_succ]
        refine wpAnyS_take (i := 3) (v := ?_) G inv hS (by decide) rfl (by kernel_rfl) (by kernel_rfl) (fun _ _ _ h => h) (Or.inl ⟨by kernel_rfl, fun W hW => ?_⟩) (fun inv => ?_)
        rotate_left
        · have z0 := CK.out _ hW
          have z1 := CX.out _ hW
          go_simp
          try with_reducible rfl
        try simp only [Act.put, List.setIfInBounds_toArray, List.set_cons_zero, List.set_cons_succ]
        refine wpAnyS_take (i := 4) (v := ?_) G inv hS (by decide) rfl (by kernel_rfl) (by kernel_rfl) (fun _ _ _ h => h) (Or.inl ⟨by kernel_rfl, fun W hW => ?_⟩) (fun inv => ?_)
        rotate_left
        · have z0 := CK.out _ hW
          have z1 := CX.out _ hW
          go_simp
          try with_reducible rfl
        try simp only [Act.put, List.setIfInBounds_toArray, List.set_cons_zero, List.set_cons_succ]
        refine wpAnyS_take (i := 5) (v := ?_) G inv hS (by decide) rfl (by kernel_rfl) (by kernel_rfl) (fun _ _ _ h => h) (Or.inl ⟨by kernel_rfl, fun W hW => ?_⟩) (fun inv => ?_)
        rotate_left
        · have z0 := CK.out _ hW
          have z1 := CX.out _ hW
          go_simp
          try with_reducible rfl
        try simp only [Act.put, List.setIfInBounds_toArray, List.set_cons_zero, List.set_cons_succ]
        refine wpAnyS_take (i := 6) (v := ?_) G inv hS (by decide) rfl (by kernel_rfl) (by kernel_rfl) (fun _ _ _ h => h) (Or.inl ⟨by kernel_rfl, fun W hW => ?_⟩) (fun inv => ?_)
        rotate_left
        · have z0 := CK.out _ hW
          have z1 := CX.out _ hW
          go_simp
          try with_reducible rfl
        try simp only [Act.put, List.setIfInBounds_toArray, List.set_cons_zero, List.set_cons_succ]
        refine wpAnyS_take (i := 7) (v := ?_) G inv hS (by decide) rfl (by kernel_rfl) (by kernel_rfl) (fun _ _ _ h => h) (Or.inl ⟨by kernel_rfl, fun W hW => ?_⟩) (fun inv => ?_)
        rotate_left
        · have z0 := CK.out _ hW
          have z1 := CX.out _ hW
          go_simp
          try with_reducible rfl
        try simp only [Act.put, List.setIfInBounds_toArray, List.set_cons_zero, List.set_cons_succ]
        refine wpAnyS_take (i := 8) (v := ?_) G inv hS (by decide) rfl (by kernel_rfl) (by kernel_rfl) (fun _ _ _ h => h) (Or.inl ⟨by kernel_rfl, fun W hW => ?_⟩) (fun inv => ?_)
        rotate_left
        · have z0 := CK.out _ hW
          have z1 := CX.out _ hW
          go_simp
          try with_reducible rfl
        try simp only [Act.put, List.setIfInBounds_toArray, List.set_cons_zero, List.set_cons_succ]
        refine wpAnyS_take (i := 9) (v := ?_) G inv hS (by decide) rfl (by kernel_rfl) (by kernel_rfl) (fun _ _ _ h => h) (Or.inl ⟨by kernel_rfl, fun W hW => ?_⟩) (fun inv => ?_)
        rotate_left
        · have z0 := CK.out _ hW
          have z1 := CX.out _ hW
          go_simp
          try with_reducible rfl
        try simp only [Act.put, List.setIfInBounds_toArray, List.set_cons_zero, List.set_cons_succ]
        refine wpAnyS_take (i := 10) (v := ?_) G inv hS (by decide) rfl (by kernel_rfl) (by kernel_rfl) (fun _ _ _ h => h) (Or.inl ⟨by kernel_rfl, fun W hW => ?_⟩) (fun inv => ?_)
        rotate_left
        · have z0 := CK.out _ hW
          have z1 := CX.out _ hW
          go_simp
          try with_reducible rfl
        try simp only [Act.put, List.setIfInBounds_toArray, List.set_cons_zero, List.set_cons_succ]
        refine wpAnyS_take (i := 11) (v := ?_) G inv hS (by decide) rfl (by kernel_rfl) (by kernel_rfl) (fun _ _ _ h => h) (Or.inl ⟨by kernel_rfl, fun W hW => ?_⟩) (fun inv => ?_)
        rotate_left
        · have z0 := CK.out _ hW
          have z1 := CX.out _ hW
          go_simp
          try with_reducible rfl
        try simp only [Act.put, List.setIfInBounds_toArray, List.set_cons_zero, List.set_cons_succ]
        refine wpAnyS_take (i := 13) (v := ?_) G inv hS (by decide) rfl (by kernel_rfl) (by kernel_rfl) (fun _ _ _ h => h) (Or.inl ⟨by kernel_rfl, fun W hW => ?_⟩) (fun inv => ?_)
        rotate_left
        · have z0 := CK.out _ hW
          have z1 := CX.out _ hW
          go_simp
          try with_reducible rfl
        try simp only [Act.put, List.setIfInBounds_toArray, List.set_cons_zero, List.set_cons_succ]
        refine wpAnyS_step (i := 12) (by kernel_rfl) rfl ?_
        go_wp2_with (go_at_call 156; refine (CQu.out _ hS).mono ?_; rintro e w1 ⟨rfl, hb1⟩)
        have F1 : Φ w1 := SP.out _ _ hS hb1
        clear hb1
        change (12 ≠ 15 → Φ w1) ∧ _
        refine ⟨fun _ => F1, ?_⟩
        refine wpAnyS_step (i := 14) (by kernel_rfl) rfl ?_
        go_wp2_with (go_at_call 118; refine (CMu.out _ F1).mono ?_; rintro e w2 ⟨gq, rfl, hge, hb2, hR2⟩)
        have F2 : Φ w2 := SP.out _ _ F1 hb2
        have hgq := CGE.out _ _ F1 hge
        clear hb2 hge
        change (14 ≠ 15 → Φ w2) ∧ _
        refine ⟨fun _ => F2, ?_⟩
        refine wpAnyS_step (i := 15) (by kernel_rfl) rfl ?_
        go_wp2
        refine ⟨fun h => absurd rfl h, ?_⟩
        refine wpAnyS_done (by kernel_rfl) ?_ _
        obtain ⟨hK2, hb2⟩ := CB.out _ F2
        have HKK := Lib.hid hK2
        have HBB := Lib.hid hb2
        have HR2 := Lib.hid hR2
        have x0 := hK2.x.b.cell 0 _ rfl; have x4 := hK2.x.b.cell 4 _ rfl
        clear CB CK CX CQu CMu SP F1 F2 hS hK2 hb2 hR2
        have HNW : Hid (∀ x, x < n → nth (xorW (hs x) (scl P (nth (hs x) t) qw) len) = chgV P len (nth qw) (nth (hs x))) := Lib.hid (fun x hx => by
          have hv := (HVEC.out x hx).1
          rw [nth_xorW ((HK.out.r.row x hx).len) (by rw [scl, lst_length]; exact HR2.out.len), nth_scl' hF (hv t), chgV, HQ3.out.1])
        go_wp2_with fail
        go_loopw [58] (fun iv wr => ∃ (i : Nat) (hs' : Nat → List Nat) (vs' : Nat → Value) (b' : Nat → Nat), i ≤ n ∧ iv = .int .i64 i ∧ KA wr q c d p m P N B len n (.slice A0 n c0) hs' vs' b' ∧ Rl wr .u8 (some ⟨gq, 0, none⟩) len qw ∧ Below q w wr ∧ gq < wr.heap.size ∧ Hid (∀ x, x < n → hs' x = if x < i then xorW (hs x) (scl P (nth (hs x) t) qw) len else hs x)) (fun iv _ => n - (intOf iv).toNat)
        case atStart => exact ⟨0, hs, vs, b, Nat.zero_le _, rfl, HKK.out, HR2.out, HBB.out.mono (by have := HBZ.out.2; omega), HR2.out.lt0 hl0, Lib.hid (fun x hx => by rw [if_neg (by omega)])⟩
        case round =>
          obtain ⟨i, hs', vs', b', hi', rfl, hK, hR, hb, hgz, HH⟩ := hrel
          clear x0 x4 HKK HR2 HBB
          by_cases hlt : i < n
          · obtain ⟨g, cap, ci, e, hgB, hgl, hck, hvi, hfr⟩ := hK.r.at hlt
            injection e with e1 e2 e3
            subst e1 e3
            obtain ⟨bi, hbi⟩ : ∃ x, b' i = x := ⟨_, rfl⟩
            rw [hbi] at hck
            have hhi : hs' i = hs i := by rw [HH.out i hlt, if_neg (by omega)]
            have hv1 := (HVEC.out i hlt).1
            obtain ⟨x, hx⟩ : ∃ x, nth (hs i) t = x := ⟨_, rfl⟩
            have hxN : x < N := by rw [← hx]; exact hv1 t
            have hgq2 : gq ≠ g := fun e => hgq.2.2 (by rw [e]; rfl)
            have HX := Lib.hid hx
            have HHI := Lib.hid hhi
            have HBI := Lib.hid hbi
            have HV1 := Lib.hid hv1
            have HGB := Lib.hid hgB
            have HGQ := Lib.hid hgq2
            obtain ⟨Φ, hΦ⟩ : ∃ Φ : World → Prop, Φ = fun W => KA W q c d p m P N B len n (.slice (some ⟨g, 0, none⟩) n c0) hs' vs' b' ∧ Rl W .u8 (some ⟨gq, 0, none⟩) len qw ∧ Below q w W ∧ g < W.heap.size := ⟨_, rfl⟩
            have F0 : Φ wr.drew := by rw [hΦ]; exact ⟨hK.next (Below.refl _ wr).drew, hR.below (Below.refl _ wr).drew, hb.drew, hgl⟩
            have SP : Hid (∀ W W', Φ W → Below W.heap.size W W' → Φ W') := fun W W' h hb => by rw [hΦ] at h ⊢; exact ⟨h.1.next hb, h.2.1.below hb, h.2.2.1.trans (hb.mono (Nat.le_of_lt h.1.x.b.lt)), Nat.lt_of_lt_of_le h.2.2.2 hb.size⟩
            have CK : Hid (∀ W, Φ W → W.cell? ⟨q, 0, none⟩ = some (.pointer (some ⟨c, 0, none⟩))) := fun W h => by rw [hΦ] at h; exact h.1.x.b.cell 0 _ rfl
            have CV : Hid (∀ W, Φ W → W.cell? ⟨q, 4, none⟩ = some (.slice (some ⟨g, 0, none⟩) n c0)) := fun W h => by rw [hΦ] at h; exact h.1.x.b.cell 4 _ rfl
            have CX : Hid (∀ W, Φ W → W.cell? ⟨bi, t, none⟩ = some (.int .u8 (x : Int))) := fun W h => by
              rw [hΦ] at h
              have h1 := (h.1.r.row i hlt).elt htl
              rw [HBI.out, HHI.out, HX.out] at h1
              exact h1
            have CI : Hid (∀ W, Φ W → W.cell? ⟨g, i, none⟩ = some (.slice (some ⟨bi, 0, none⟩) len ci)) := fun W h => by
              rw [hΦ] at h
              obtain ⟨g', cap', cj, e, _, _, h1, h2, _⟩ := h.1.r.at hlt
              injection e with e1 e2 e3
              injection e1 with e1; injection e1 with e1
              rw [e1, h1, ← HBI.out]
              rw [h2] at hvi
              injection hvi with _ _ e5
              rw [e5]
            have CF : Hid (∀ W, Φ W → W.frozen? ⟨g, i, none⟩ = false) := fun W h => by
              rw [hΦ] at h
              obtain ⟨g', cap', cj, e, _, _, _, _, h2⟩ := h.1.r.at hlt
              injection e with e1 e2 e3
              injection e1 with e1; injection e1 with e1
              rw [e1]; exact h2 i
            have CMu : Hid (∀ W, Φ W → Calls Try.prog 118 #[.pointer (some ⟨c, 0, none⟩), .int .u8 (x : Int), .slice (some ⟨gq, 0, none⟩) len len] W fun e w' => ∃ b, e = .returned (.slice (some ⟨b, 0, none⟩) len len) ∧ Below W.heap.size W w' ∧ Rl w' .u8 (some ⟨b, 0, none⟩) len (scl P x qw)) := fun W h => by
              rw [hΦ] at h
              exact multiple_any c m P N hF x hxN (some ⟨gq, 0, none⟩) len len qw HQL.out (by omega) W h.1.k h.2.1
            have CPl : Hid (∀ W b1, Φ W → Rl W .u8 (some ⟨b1, 0, none⟩) len (scl P x qw) → Calls Try.prog 117 #[.slice (some ⟨bi, 0, none⟩) len ci, .slice (some ⟨b1, 0, none⟩) len len] W fun e w' => ∃ g, e = .returned (.slice (some ⟨g, 0, none⟩) len len) ∧ W.heap.size ≤ g ∧ Below W.heap.size W w' ∧ Rl w' .u8 (some ⟨g, 0, none⟩) len (xorW (hs i) (scl P x qw) len)) := fun W b1 h h1 => by
              rw [hΦ] at h
              have h2 := h.1.r.row i hlt
              rw [HBI.out, HHI.out] at h2
              exact wplus_new (some ⟨bi, 0, none⟩) (some ⟨b1, 0, none⟩) len ci len (hs i) (scl P x qw) (fun y => by have := HV1.out y; omega) (fun y => by rw [nth_scl' hF hxN]; have := hF.mul_lt x (nth qw y); show mul P x (nth qw y) < 256; omega) (by omega) W h2 h1
            have CGE : Hid (∀ W (g2 : Nat), Φ W → W.heap.size ≤ g2 → B ≤ g2 ∧ g2 ≠ g) := fun W g2 h hg => by
              rw [hΦ] at h
              have h1 := h.2.2.1.size
              have h2 := HBZ.out.1
              have h3 := h.2.2.2
              exact ⟨by omega, by omega⟩
            have CN : Hid (∀ (W : World) (g2 : Nat), Φ W → B ≤ g2 ∧ g2 ≠ g → g2 < W.heap.size → gq < W.heap.size → Rl W .u8 (some ⟨g2, 0, none⟩) len (xorW (hs i) (scl P x qw) len) →
                KA (W.setCell ⟨g, i, none⟩ (.slice (some ⟨g2, 0, none⟩) len len)) q c d p m P N B len n (.slice (some ⟨g, 0, none⟩) n c0) (up hs' i (xorW (hs i) (scl P x qw) len)) (up vs' i (.slice (some ⟨g2, 0, none⟩) len len)) (up b' i g2) ∧ Rl (W.setCell ⟨g, i, none⟩ (.slice (some ⟨g2, 0, none⟩) len len)) .u8 (some ⟨gq, 0, none⟩) len qw ∧ Below q w (W.setCell ⟨g, i, none⟩ (.slice (some ⟨g2, 0, none⟩) len len)) ∧ gq < (W.setCell ⟨g, i, none⟩ (.slice (some ⟨g2, 0, none⟩) len len)).heap.size) := fun W g2 h h1 h2 h3 h4 => by
              rw [hΦ] at h
              have h5 := h.1.qB
              have h6 := HGB.out
              exact ⟨h.1.set HGB.out i h4 h1.1 h1.2 h2, h.2.1.other HGQ.out _ _, h.2.2.1.setCell (p := ⟨g, i, none⟩) (by show q ≤ g; omega) _, by rw [size_setCell_]; exact h3⟩
            have CZ : Hid (∀ W, Φ W → gq < W.heap.size) := fun W h => by rw [hΦ] at h; exact h.2.1.lt0 hl0
            have a0 := CK.out _ F0
            have a1 := CX.out _ F0
            have a2 := CV.out _ F0
            have b0 : wr.cell? ⟨g, i, none⟩ = some (.slice (some ⟨bi, 0, none⟩) len ci) := hck
            clear hΦ hK hb hR hbi hv1 hx hhi hgl hgB hgz hgq2
            go_wp2_with fail
            refine wp_region_S (n := 18) (S := Φ) (by kernel_rfl) (by kernel_rfl) F0 (fun G inv hS => ?_)
            clear a0 a1 a2 b0 hck F0
            refine wpAnyS_take (i := 0) (v := ?_) G inv hS (by decide) rfl (by kernel_rfl) (by kernel_rfl) (fun _ _ _ h => h) (Or.inl ⟨by kernel_rfl, fun W hW => ?_⟩) (fun inv => ?_)
            rotate_left
            · have z0 := CK.out _ hW
              have z1 := CX.out _ hW
              have z2 := CV.out _ hW
              go_simp
              try with_reducible rfl
            try simp only [Act.put, List.setIfInBounds_toArray, List.set_cons_zero, List.set_cons_succ]
            refine wpAnyS_take (i := 1) (v := ?_) G inv hS (by decide) rfl (by kernel_rfl) (by kernel_rfl) (fun _ _ _ h => h) (Or.inl ⟨by kernel_rfl, fun W hW => ?_⟩) (fun inv => ?_)
            rotate_left
            · have z0 := CK.out _ hW
              have z1 := CX.out _ hW
              have z2 := CV.out _ hW
              go_simp
              try with_reducible rfl
            try simp only [Act.put, List.setIfInBounds_toArray, List.set_cons_zero, List.set_cons_succ]
            refine wpAnyS_take (i := 2) (v := ?_) G inv hS (by decide) rfl (by kernel_rfl) (by kernel_rfl) (fun _ _ _ h => h) (Or.inl ⟨by kernel_rfl, fun W hW => ?_⟩) (fun inv => ?_)
            rotate_left
            · have z0 := CK.out _ hW
              have z1 := CX.out _ hW
              have z2 := CV.out _ hW
              go_simp
              try with_reducible rfl
            try simp only [Act.put, List.setIfInBounds_toArray, List.set_cons_zero, List.set_cons_succ]
            refine wpAnyS_take (i := 3) (v := ?_) G inv hS (by decide) rfl (by kernel_rfl) (by kernel_rfl) (fun _ _ _ h => h) (Or.inl ⟨by kernel_rfl, fun W hW => ?_⟩) (fun inv => ?_)
            rotate_left
            · have z0 := CK.out _ hW
              have z1 := CX.out _ hW
              have z2 := CV.out _ hW
              go_simp
              try with_reducible rfl
            try simp only [Act.put, List.setIfInBounds_toArray, List.set_cons_zero, List.set_cons_succ]
            refine wpAnyS_take (i := 4) (v := ?_) G inv hS (by decide) rfl (by kernel_rfl) (by kernel_rfl) (fun _ _ _ h => h) (Or.inl ⟨by kernel_rfl, fun W hW => ?_⟩) (fun inv => ?_)
            rotate_left
            · have z0 := CK.out _ hW
              have z1 := CX.out _ hW
              have z2 := CV.out _ hW
              go_simp
              try with_reducible rfl
            try simp only [Act.put, List.setIfInBounds_toArray, List.set_cons_zero, List.set_cons_succ]
            refine wpAnyS_take (i := 5) (v := ?_) G inv hS (by decide) rfl (by kernel_rfl) (by kernel_rfl) (fun _ _ _ h => h) (Or.inl ⟨by kernel_rfl, fun W hW => ?_⟩) (fun inv => ?_)
            rotate_left
            · have z0 := CK.out _ hW
              have z1 := CX.out _ hW
              have z2 := CV.out _ hW
              go_simp
              try with_reducible rfl
            try simp only [Act.put, List.setIfInBounds_toArray, List.set_cons_zero, List.set_cons_succ]
            refine wpAnyS_take (i := 6) (v := ?_) G inv hS (by decide) rfl (by kernel_rfl) (by kernel_rfl) (fun _ _ _ h => h) (Or.inl ⟨by kernel_rfl, fun W hW => ?_⟩) (fun inv => ?_)
            rotate_left
            · have z0 := CK.out _ hW
              have z1 := CX.out _ hW
              have z2 := CV.out _ hW
              go_simp
              try with_reducible rfl
            try simp only [Act.put, List.setIfInBounds_toArray, List.set_cons_zero, List.set_cons_succ]
            refine wpAnyS_take (i := 7) (v := ?_) G inv hS (by decide) rfl (by kernel_rfl) (by kernel_rfl) (fun _ _ _ h => h) (Or.inl ⟨by kernel_rfl, fun W hW => ?_⟩) (fun inv => ?_)
            rotate_left
            · have z0 := CK.out _ hW
              have z1 := CX.out _ hW
              have z2 := CV.out _ hW
              go_simp
              try with_reducible rfl
            try simp only [Act.put, List.setIfInBounds_toArray, List.set_cons_zero, List.set_cons_succ]
            refine wpAnyS_take (i := 8) (v := ?_) G inv hS (by decide) rfl (by kernel_rfl) (by kernel_rfl) (fun _ _ _ h => h) (Or.inl ⟨by kernel_rfl, fun W hW => ?_⟩) (fun inv => ?_)
            rotate_left
            · have z0 := CK.out _ hW
              have z1 := CX.out _ hW
              have z2 := CV.out _ hW
              go_simp
              try with_reducible rfl
            try simp only [Act.put, List.setIfInBounds_toArray, List.set_cons_zero, List.set_cons_succ]
            refine wpAnyS_take (i := 9) (v := ?_) G inv hS (by decide) rfl (by kernel_rfl) (by kernel_rfl) (fun _ _ _ h => h) (Or.inl ⟨by kernel_rfl, fun W hW => ?_⟩) (fun inv => ?_)
            rotate_left
            · have z0 := CK.out _ hW
              have z1 := CX.out _ hW
              have z2 := CV.out _ hW
              go_simp
              try with_reducible rfl
            try simp only [Act.put, List.setIfInBounds_toArray, List.set_cons_zero, List.set_cons_succ]
            refine wpAnyS_take (i := 10) (v := ?_) G inv hS (by decide) rfl (by kernel_rfl) (by kernel_rfl) (fun _ _ _ h => h) (Or.inl ⟨by kernel_rfl, fun W hW => ?_⟩) (fun inv => ?_)
            rotate_left
            · have z0 := CK.out _ hW
              have z1 := CX.out _ hW
              have z2 := CV.out _ hW
              go_simp
              try with_reducible rfl
            try simp only [Act.put, List.setIfInBounds_toArray, List.set_cons_zero, List.set_cons_succ]
            refine wpAnyS_take (i := 11) (v := ?_) G inv hS (by decide) rfl (by kernel_rfl) (by kernel_rfl) (fun _ _ _ h => h) (Or.inl ⟨by kernel_rfl, fun W hW => ?_⟩) (fun inv => ?_)
            rotate_left
            · have z0 := CK.out _ hW
              have z1 := CX.out _ hW
              have z2 := CV.out _ hW
              go_simp
              try with_reducible rfl
            try simp only [Act.put, List.setIfInBounds_toArray, List.set_cons_zero, List.set_cons_succ]
            refine wpAnyS_take (i := 12) (v := ?_) G inv hS (by decide) rfl (by kernel_rfl) (by kernel_rfl) (fun _ _ _ h => h) (Or.inl ⟨by kernel_rfl, fun W hW => ?_⟩) (fun inv => ?_)
            rotate_left
            · have z0 := CK.out _ hW
              have z1 := CX.out _ hW
              have z2 := CV.out _ hW
              go_simp
              try with_reducible rfl
            try simp only [Act.put, List.setIfInBounds_toArray, List.set_cons_zero, List.set_cons_succ]
            refine wpAnyS_take (i := 13) (v := ?_) G inv hS (by decide) rfl (by kernel_rfl) (by kernel_rfl) (fun _ _ _ h => h) (Or.inl ⟨by kernel_rfl, fun W hW => ?_⟩) (fun inv => ?_)
            rotate_left
            · have z0 := CK.out _ hW
              have z1 := CX.out _ hW
              have z2 := CV.out _ hW
              go_simp
              try with_reducible rfl
            try simp only [Act.put, List.setIfInBounds_toArray, List.set_cons_zero, List.set_cons_succ]
            refine wpAnyS_take (i := 14) (v := ?_) G inv hS (by decide) rfl (by kernel_rfl) (by kernel_rfl) (fun _ _ _ h => h) (Or.inl ⟨by kernel_rfl, fun W hW => ?_⟩) (fun inv => ?_)
            rotate_left
            · have z0 := CK.out _ hW
              have z1 := CX.out _ hW
              have z2 := CV.out _ hW
              go_simp
              try with_reducible rfl
            try simp only [Act.put, List.setIfInBounds_toArray, List.set_cons_zero, List.set_cons_succ]
            refine wpAnyS_step (i := 15) (by kernel_rfl) rfl ?_
            go_wp2_with (go_at_call 118; refine (CMu.out _ hS).mono ?_; rintro e w1 ⟨b1, rfl, hb1, hR1⟩)
            have F1 : Φ w1 := SP.out _ _ hS hb1
            clear hb1
            change (15 ≠ 18 → Φ w1) ∧ _
            refine ⟨fun _ => F1, ?_⟩
            refine wpAnyS_step (i := 16) (by kernel_rfl) rfl ?_
            go_wp2_with (go_at_call 117; refine (CPl.out _ _ F1 hR1).mono ?_; rintro e w2 ⟨g2, rfl, hge, hb2, hR2⟩)
            have F2 : Φ w2 := SP.out _ _ F1 hb2
            have hgl := CGE.out _ _ F1 hge
            have hgz := hR2.lt0 hl0
            clear hb2 hge
            change (16 ≠ 18 → Φ w2) ∧ _
            refine ⟨fun _ => F2, ?_⟩
            refine wpAnyS_step (i := 17) (by kernel_rfl) rfl ?_
            go_wp2
            change (17 ≠ 18 → Φ w2) ∧ _
            refine ⟨fun _ => F2, ?_⟩
            have y0 := CI.out _ F2
            have y1 := CF.out _ F2
            refine wpAnyS_step (i := 18) (by kernel_rfl) rfl ?_
            go_wp2
            refine ⟨fun h => absurd rfl h, ?_⟩
            refine wpAnyS_done (by kernel_rfl) ?_ _
            have HEND := CN.out _ g2 F2 hgl hgz (CZ.out _ F2) hR2
            go_wp2_with fail
            go_roundw
            case rel => exact ⟨i + 1, _, _, _, by omega, by go_num, HEND.1, HEND.2.1, HEND.2.2.1, HEND.2.2.2, Lib.hid (fun y hy => by
              by_cases e : y = i
              · subst e; rw [up_same, if_pos (by omega), HX.out]
              · rw [up_ne _ _ e, HH.out y hy]
                by_cases e2 : y < i
                · rw [if_pos e2, if_pos (by omega)]
                · rw [if_neg e2, if_neg (by omega)])⟩
            case measure => simp [intOf]; omega
          · obtain rfl : n = i := by omega
            have HNEW : Hid (∀ x, x < n → nth (hs' x) = chgV P len (nth qw) (nth (hs x))) := Lib.hid (fun x hx => by rw [HH.out x hx, if_pos hx]; exact HNW.out x hx)
            have HBS := Lib.hid (bsearch_any A0 n c0 len hs' (by omega) (by omega) t htl (fun x => ldv (nth (hs x)) len) (fun x hx => by
              have h1 := HCH.out x hx
              have h2 := (HVEC.out x hx).2.2
              rw [ldI, HNEW.out x hx, h1, if_pos h2]) (fun x hx => by have := (HVEC.out x hx).2.2; omega) (fun x y hxy hy => by
              have h1 := HE.out.pw
              rw [List.pairwise_iff_getElem] at h1
              have h2 := (h1 x y (by rw [fs_len]; omega) (by rw [fs_len]; omega) hxy).1
              simpa [fs] using h2) (fun x hx y => by rw [HNEW.out x hx]; have := (chgV_in hF (P := P) (len := len) (q := nth qw) (HVEC.out x hx).1) y; omega) wr hK.r.rk)
            have hx4 := hK.x.b.cell 4 _ rfl
            have hx4' : wr.frozen? ⟨q, 4, none⟩ = false := hK.x.free 4 (by simp)
            have HKK := Lib.hid hK
            have HRR := Lib.hid hR
            have HBB := Lib.hid hb
            have hqz : q < wr.heap.size := hK.x.b.lt
            have HGZ := Lib.hid hgz
            clear hK hR hb hgz
            go_wp2_with fail
            refine HBS.out.mono ?_
            rintro e w' ⟨pp, bb, rfl, hpn, hlo, hhi, rfl⟩
            have HLO := Lib.hid hlo
            have HHI := Lib.hid hhi
            have HINS := Lib.hid (insert_any B n pp (.slice A0 n c0) ((List.range n).map vs') (wr.alloc (.cells #[.slice (some ⟨gq, 0, none⟩) len len] 96)) ((HKK.out.r.below (below_alloc1 _ _)).head) (fun u hu => by
              obtain ⟨x, hx, rfl⟩ := List.mem_map.1 hu
              obtain ⟨cj, hv⟩ := HKK.out.r.form x (List.mem_range.1 hx)
              rw [hv]; rfl) hpn (by omega) (by have h1 := HBZ.out.1; have h2 := HBB.out.size; simp; omega) wr.heap.size (.slice (some ⟨gq, 0, none⟩) len len) ⟨heap_alloc_new wr _, rfl⟩ (fun e => by have := HKK.out.r.head.lt _ e; omega))
            clear hlo hhi
            go_wp2_with fail
            refine HINS.out.mono ?_
            rintro e w2 ⟨v', rfl, hown, hgrow, hvv⟩
            rcases ownsRow_forms hown with ⟨_, e0⟩ | ⟨g', cap', rfl⟩
            · omega
            have hqne : (Value.slice A0 n c0).ownBlock ≠ some q := fun e => by have h1 := HKK.out.r.head.lt _ e; have h2 := HKK.out.qB; omega
            have hcne : (Value.slice A0 n c0).ownBlock ≠ some c := fun e => by have h1 := HKK.out.r.head.lt _ e; have h2 := HKK.out.qB; have h3 := HKK.out.cq; omega
            have hz1 : (wr.alloc (.cells #[.slice (some ⟨gq, 0, none⟩) len len] 96)).heap.size = wr.heap.size + 1 := by simp
            have keepq : ∀ x, x < wr.heap.size → (Value.slice A0 n c0).ownBlock ≠ some x → w2.heap[x]? = wr.heap[x]? := fun x hx hne => (hgrow.block x (by omega) (fun e => hne e.symm)).trans ((below_alloc1 wr _).block x hx)
            have hsz2 : wr.heap.size ≤ w2.heap.size := by have := hgrow.size; omega
            have HKI := Lib.hid ((HKK.out.r.below (below_alloc1 wr (.cells #[.slice (some ⟨gq, 0, none⟩) len len] 96))).insert hpn hown hgrow hvv (HRR.out.below (below_alloc1 _ _)) hgq.2.1 hgq.2.2 (by have := HGZ.out; omega))
            have hLF : LF w2 q (kcL c d p (len : Int) (.slice A0 n c0)) := HKK.out.x.at (keepq q hqz hqne) hsz2
            have hCA : Calc c m P N w2 := HKK.out.k.at' (keepq c (by have := HKK.out.cq; omega) hcne)
            have y4 := hLF.b.cell 4 _ rfl
            have y4' : w2.frozen? ⟨q, 4, none⟩ = false := hLF.free 4 (by simp)
            have HLF := Lib.hid hLF
            have HCA := Lib.hid hCA
            have HB2 : Hid (Below q w w2) := Lib.hid (HBB.out.trans ⟨hgrow.os, hgrow.tape, hgrow.output, hsz2, fun x hx => keepq x (by omega) (fun e => by have h1 := HKK.out.r.head.lt _ e; have h2 := HKK.out.qB; omega)⟩)
            clear hown hgrow hvv hLF hCA keepq hx4 hx4'
            go_wp2_with fail
            have HEND : Hid (KA (w2.setCell ⟨q, 4, none⟩ (.slice (some ⟨g', 0, none⟩) (n + 1) cap')) q c d p m P N B len (n + 1) (.slice (some ⟨g', 0, none⟩) (n + 1) cap') (ins3 hs' pp qw) (ins3 vs' pp (.slice (some ⟨gq, 0, none⟩) len len)) (ins3 b' pp gq)) := Lib.hid ⟨HLF.out.set 4 (by simp) _, HCA.out.other (by have := HKK.out.cq; omega) _ _, HKI.out.other HKK.out.qB _ _, HKK.out.cq, HKK.out.qB⟩
            have HFS : Hid (fs (ins3 hs' pp qw) (n + 1) = addV P N len (fs hs n) (nth pw)) := Lib.hid (by
              have e1 : (fun x => nth (ins3 hs' pp qw x)) = ins3 (fun x => nth (hs' x)) pp (nth qw) := funext fun x => by unfold ins3; split; rfl; split <;> rfl
              have e2 : fs (ins3 hs' pp qw) (n + 1) = (List.range (n + 1)).map (ins3 (fun x => nth (hs' x)) pp (nth qw)) := by rw [← e1]; rfl
              have e3 : (List.range n).map (fun x => nth (hs' x)) = (fs hs n).map (chgV P len (nth qw)) := by
                unfold fs
                rw [List.map_map]
                refine List.map_congr_left (fun x hx => ?_)
                exact HNEW.out x (List.mem_range.1 hx)
              rw [e2, map_ins3 _ _ hpn, e3, HADD.out, insV, place_of HQ3.out.1 hpn HLO.out HHI.out])
            go_end0
            exact ⟨rfl, HB2.out.setCell (p := ⟨q, 4, none⟩) (Nat.le_refl _) _, n + 1, _, _, _, _, Nat.le_refl _, HEND.out, HFS.out⟩
      · have htl' : t = len := by have := ldv_le (nth pj) len; omega
        have hld : ldI pj len = -1 := by rw [ldI, ht, if_neg htl]
        rw [hld] at HLD
        have HK3 := Lib.hid (HK.out.next hb)
        have HB3 := Lib.hid hb
        clear hb ht hld hR
        go_wp2_with (go_at_call 76; refine (HLD.out _ HRW.out).mono ?_; rintro e w' ⟨rfl, rfl⟩)
        refine bodyPost_ret (v := .tuple #[]) (by simp [results, Try.results130, go_sem]) rfl ?_
        exact ⟨rfl, HB3.out.mono (by have := HBZ.out.2; omega), n, _, hs, vs, b, by omega, HK3.out, by rw [addV, ← HJ.out, HT.out, if_pos htl']⟩
end Go.Proofs.Ytljaabmemjehpaa
