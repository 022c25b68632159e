import Derived.Test.YtmkknklkdgkbaaaDoorMHb
/- Ia -/
/- FramePuts: where the stamp is not in form, and where the shard is too large. -/
namespace Go.Proofs.YtmkknklkdgkbaaaDoor
open Go.ChangeShapes Go.WideShapes Go.ChangeAt Go.RowKit
set_option maxRecDepth 20000
set_option linter.unusedVariables false
set_option linter.unusedSimpArgs false
theorem getS_there {a b c d e : Nat} {l : List Nat} (h : okN [1, (a : Int), b, c, d, e, 0] = true) (hn : l.length ≤ 1024) : getS (frameL [1, a, b, c, d, e, l.length] l) = ([a, b, c, d, e], l, 0) ∧ hdS (frameL [1, a, b, c, d, e, l.length] l) = ([a, b, c, d, e], l.length, 0) := by
  have e1 := hdF_there h hn (bodyL l)
  have e2 : frameL [1, a, b, c, d, e, l.length] l = headL [1, a, b, c, d, e, l.length] ++ bodyL l := rfl
  rw [← e2] at e1
  have e3 : (frameL [1, a, b, c, d, e, l.length] l).drop (headL [1, a, b, c, d, e, l.length]).length = bodyL l := by rw [e2, List.drop_left]
  have e4 : (frameL [1, a, b, c, d, e, l.length] l).length - (headL [1, a, b, c, d, e, l.length]).length = l.length + 32 * blks l.length := by
    rw [e2, List.length_append, bodyL_len]; omega
  constructor
  · unfold getS
    rw [if_neg (by rw [e1]; simp), if_neg (by rw [e1]; simp; exact e4), if_pos (by rw [e1]; dsimp only; rw [e3]; exact goodB_of (fun i hi => gdB_there (by simpa using hi))), e1]
    dsimp only
    rw [e3]
    have e5 := shK_all l
    simpa [five] using e5
  · unfold hdS
    rw [if_neg (by rw [e1]; simp), e1]
    rfl
/- a variable's five numbers -/
structure S5 (W : World) (g : Nat) (a b c d e : Int) : Prop where
  c0 : W.cell? ⟨g, 0, none⟩ = some (.int .i64 a)
  c1 : W.cell? ⟨g, 1, none⟩ = some (.int .i64 b)
  c2 : W.cell? ⟨g, 2, none⟩ = some (.int .i64 c)
  c3 : W.cell? ⟨g, 3, none⟩ = some (.int .i64 d)
  c4 : W.cell? ⟨g, 4, none⟩ = some (.int .i64 e)
theorem S5.below {W W' : World} {g B : Nat} {a b c d e : Int} (h : S5 W g a b c d e) (hb : Below B W W') (hg : g < B) : S5 W' g a b c d e :=
  ⟨(hb.cell (p := ⟨g, 0, none⟩) hg).trans h.c0, (hb.cell (p := ⟨g, 1, none⟩) hg).trans h.c1, (hb.cell (p := ⟨g, 2, none⟩) hg).trans h.c2, (hb.cell (p := ⟨g, 3, none⟩) hg).trans h.c3, (hb.cell (p := ⟨g, 4, none⟩) hg).trans h.c4⟩
theorem S5.lt {W : World} {g : Nat} {a b c d e : Int} (h : S5 W g a b c d e) : g < W.heap.size := cell_lt h.c0
/- while FramePuts runs -/
structure Pt (w W : World) (E : Nat → Addr) (a b c d e : Int) (gi : Nat) (sa : Option Addr) (n : Nat) (l : List Nat) : Prop where
  st : S5 W w.heap.size a b c d e
  sl : Sln W sa n l
  bi : Blk W gi (l ++ marks)
  se : Sent W 4 E
  ms : Mst W
  ks : Kst W
  bel : Below w.heap.size w W
theorem Pt.below {w W W' : World} {E : Nat → Addr} {a b c d e : Int} {gi : Nat} {sa : Option Addr} {n : Nat} {l : List Nat} (h : Pt w W E a b c d e gi sa n l) (hb : Below W.heap.size W W') : Pt w W' E a b c d e gi sa n l :=
  ⟨h.st.below hb h.st.lt, h.sl.below hb, h.bi.below hb h.bi.lt, h.se.below hb, h.ms.below hb h.ms.lt, h.ks.below hb (kst_pos h.ks), h.bel.trans (hb.mono h.bel.size)⟩
theorem Pt.begin {w W0 w1 w2 : World} {E : Nat → Addr} {a b c d e : Int} {gi n N : Nat} {sa : Option Addr} {l : List Nat} (h0 : W0 = w.alloc (.cells #[.int .i64 a, .int .i64 b, .int .i64 c, .int .i64 d, .int .i64 e] 25)) (b1 : Below W0.heap.size W0 w1) (h2 : N = n + 6 ∧ gi = w1.heap.size ∧ Blk w2 gi (l ++ marks) ∧ Below w1.heap.size w1 w2)
    (hS : Sln w sa n l) (hE : Sent w 4 E) (hM : Mst w) (hK : Kst w) : Pt w w2 E a b c d e gi sa n l := by
  have b0 : Below w.heap.size w W0 := by rw [h0]; exact (Below.refl _ w).alloc (Nat.le_refl _) _
  have z0 : w.heap.size < W0.heap.size := by rw [h0]; simp
  have s0 : S5 W0 w.heap.size a b c d e := by rw [h0]; constructor <;> simp [go_sem]
  have b2 : Below W0.heap.size W0 w2 := b1.trans (h2.2.2.2.mono b1.size)
  have bw : Below w.heap.size w w2 := b0.trans (b2.mono b0.size)
  exact ⟨s0.below b2 z0, hS.below bw, h2.2.2.1, hE.below bw, hM.below bw hM.lt, hK.below bw (kst_pos hK), bw⟩
set_option maxHeartbeats 2000000 in
theorem puts_form {w : World} {E : Nat → Addr} (a b c d e : Int) {sa : Option Addr} {n k : Nat} {l : List Nat} (hS : Hid (Sln w sa n l)) (hc : Hid (sa = none → k = 0)) (hE : Hid (Sent w 4 E)) (hM : Hid (Mst w)) (hK : Hid (Kst w)) (hok : okN [1, a, b, c, d, e, 0] = false) :
    Calls Tryd.prog 3 #[.agg #[.int .i64 a, .int .i64 b, .int .i64 c, .int .i64 d, .int .i64 e], .slice sa n k] w fun en w' => en = .returned (.bool true) ∧ Hid (Below w.heap.size w w') := by
  obtain ⟨W0, HW0⟩ : ∃ W0, Hid (w.alloc (.cells #[.int .i64 a, .int .i64 b, .int .i64 c, .int .i64 d, .int .i64 e] 25) = W0) := ⟨_, rfl⟩
  have b0 : Hid (Below w.heap.size w W0) := by rw [← HW0.out]; exact (Below.refl _ w).alloc (Nat.le_refl _) _
  have M0 : Hid (Mst W0) := hM.out.below b0.out hM.out.lt
  have K0 : Hid (Kst W0) := hK.out.below b0.out (kst_pos hK.out)
  have L0 : Hid (Sln W0 sa n l) := hS.out.below b0.out
  go_enter Tryd.func3, Tryd.ntmps3
  go_upto_region 3 with (go_at_call 9; rw [HW0.out]; refine (alive_n M0 K0).mono ?_; rintro en w1 ⟨rfl, H1⟩
                         have S1 : Hid (Sln w1 sa n l) := L0.out.below H1.out)
  go_upto_region 4 with (go_at_call 10; refine (bytes_n S1 hc).mono ?_; rintro en w2 ⟨gi, N, rfl, H2⟩)
  have G : Hid (Pt w w2 E a b c d e gi sa n l) := Pt.begin HW0.out.symm H1.out H2.out hS.out hE.out hM.out hK.out
  have HN : Hid (N = n + 6) := H2.out.1
  clear S1 H1 H2 b0 M0 K0 L0 HW0
  have q0 := G.out.st.c0
  have q1 := G.out.st.c1
  have q2 := G.out.st.c2
  have q3 := G.out.st.c3
  have q4 := G.out.st.c4
  have MS : Hid (Mst w2) := G.out.ms
  have SE : Hid (Sent w2 4 E) := G.out.se
  go_upto_region 5 with (go_at_call 11; refine (put_form a b c d e _ MS SE (by omega) hok).mono ?_; rintro en w3 ⟨rfl, H3⟩)
  have G3 : Hid (Pt w w3 E a b c d e gi sa n l) := G.out.below H3.out
  clear G q0 q1 q2 q3 q4 MS SE
  have KB : Hid (Blk w3 gi (l ++ marks)) := G3.out.bi
  have KS : Hid (Sln w3 sa n l) := G3.out.sl
  go_upto_region 7 with (go_at_call 12; refine (kept_n KB HN KS).mono ?_; rintro en w4 ⟨rfl, H4⟩)
  have G4 : Hid (Pt w w4 E a b c d e gi sa n l) := by
    obtain ⟨j, hj⟩ := H4.out
    exact G3.out.below (by rw [hj]; exact below_drewN (Below.refl _ _) j)
  clear G3 H4 KB KS
  have q0 := G4.out.st.c0
  have q1 := G4.out.st.c1
  have q2 := G4.out.st.c2
  have q3 := G4.out.st.c3
  have q4 := G4.out.st.c4
  go_upto_region 8 with (go_at_call 13; refine (refInForm_n a b c d e _).mono ?_; rintro en w5 ⟨rfl, H5⟩; rw [hok])
  have G5 : Hid (Pt w w5 E a b c d e gi sa n l) := G4.out.below H5.out
  clear G4 q0 q1 q2 q3 q4
  have ce := G5.out.se.c 0 (by omega)
  unfold er at ce
  have EQ := fun w => eql_same w (E 0)
  go_wp2
  go_ret
  exact ⟨rfl, G5.out.bel⟩
set_option maxHeartbeats 2000000 in
theorem puts_large {w : World} {E : Nat → Addr} (a b c d e : Int) {sa : Option Addr} {n k : Nat} {l : List Nat} (hS : Hid (Sln w sa n l)) (hc : Hid (sa = none → k = 0)) (hE : Hid (Sent w 4 E)) (hM : Hid (Mst w)) (hK : Hid (Kst w)) (hok : okN [1, a, b, c, d, e, 0] = true) (hn : 1024 < n) :
    Calls Tryd.prog 3 #[.agg #[.int .i64 a, .int .i64 b, .int .i64 c, .int .i64 d, .int .i64 e], .slice sa n k] w fun en w' => en = .returned (.bool true) ∧ Hid (Below w.heap.size w w') := by
  obtain ⟨W0, HW0⟩ : ∃ W0, Hid (w.alloc (.cells #[.int .i64 a, .int .i64 b, .int .i64 c, .int .i64 d, .int .i64 e] 25) = W0) := ⟨_, rfl⟩
  have b0 : Hid (Below w.heap.size w W0) := by rw [← HW0.out]; exact (Below.refl _ w).alloc (Nat.le_refl _) _
  have M0 : Hid (Mst W0) := hM.out.below b0.out hM.out.lt
  have K0 : Hid (Kst W0) := hK.out.below b0.out (kst_pos hK.out)
  have L0 : Hid (Sln W0 sa n l) := hS.out.below b0.out
  have i1 : (1024 : Int) < (n : Int) := by omega
  go_enter Tryd.func3, Tryd.ntmps3
  go_upto_region 3 with (go_at_call 9; rw [HW0.out]; refine (alive_n M0 K0).mono ?_; rintro en w1 ⟨rfl, H1⟩
                         have S1 : Hid (Sln w1 sa n l) := L0.out.below H1.out)
  go_upto_region 4 with (go_at_call 10; refine (bytes_n S1 hc).mono ?_; rintro en w2 ⟨gi, N, rfl, H2⟩)
  have G : Hid (Pt w w2 E a b c d e gi sa n l) := Pt.begin HW0.out.symm H1.out H2.out hS.out hE.out hM.out hK.out
  have HN : Hid (N = n + 6) := H2.out.1
  clear S1 H1 H2 b0 M0 K0 L0 HW0
  have q0 := G.out.st.c0
  have q1 := G.out.st.c1
  have q2 := G.out.st.c2
  have q3 := G.out.st.c3
  have q4 := G.out.st.c4
  have MS : Hid (Mst w2) := G.out.ms
  have SE : Hid (Sent w2 4 E) := G.out.se
  go_upto_region 5 with (go_at_call 11; refine (put_large a b c d e _ n _ MS SE (by omega) hok hn).mono ?_; rintro en w3 ⟨rfl, H3⟩)
  have G3 : Hid (Pt w w3 E a b c d e gi sa n l) := G.out.below H3.out
  clear G q0 q1 q2 q3 q4 MS SE
  have KB : Hid (Blk w3 gi (l ++ marks)) := G3.out.bi
  have KS : Hid (Sln w3 sa n l) := G3.out.sl
  go_upto_region 7 with (go_at_call 12; refine (kept_n KB HN KS).mono ?_; rintro en w4 ⟨rfl, H4⟩)
  have G4 : Hid (Pt w w4 E a b c d e gi sa n l) := by
    obtain ⟨j, hj⟩ := H4.out
    exact G3.out.below (by rw [hj]; exact below_drewN (Below.refl _ _) j)
  clear G3 H4 KB KS
  have q0 := G4.out.st.c0
  have q1 := G4.out.st.c1
  have q2 := G4.out.st.c2
  have q3 := G4.out.st.c3
  have q4 := G4.out.st.c4
  go_upto_region 9 with (go_at_call 13; refine (refInForm_n a b c d e _).mono ?_; rintro en w5 ⟨rfl, H5⟩; rw [hok])
  have G5 : Hid (Pt w w5 E a b c d e gi sa n l) := G4.out.below H5.out
  clear G4 q0 q1 q2 q3 q4
  have ce := G5.out.se.c 1 (by omega)
  unfold er at ce
  have EQ := fun w => eql_same w (E 1)
  go_wp2
  go_ret
  exact ⟨rfl, G5.out.bel⟩
end Go.Proofs.YtmkknklkdgkbaaaDoor

/- Ib -/
/- FramePuts: where there is a frame. -/
namespace Go.Proofs.YtmkknklkdgkbaaaDoor
open Go.ChangeShapes Go.WideShapes Go.ChangeAt Go.RowKit
set_option maxRecDepth 20000
set_option linter.unusedVariables false
set_option linter.unusedSimpArgs false
set_option maxHeartbeats 4000000 in
theorem puts_ok {w : World} {E : Nat → Addr} (a b c d e : Nat) {sa : Option Addr} {n k : Nat} {l : List Nat} (hS : Hid (Sln w sa n l)) (hc : Hid (sa = none → k = 0)) (hnk : n ≤ k) (hE : Hid (Sent w 4 E)) (hM : Hid (Mst w)) (hK : Hid (Kst w)) (hok : okN [1, (a : Int), b, c, d, e, 0] = true) (hn : n ≤ 1024) :
    Calls Tryd.prog 3 #[.agg #[.int .i64 (a : Int), .int .i64 (b : Int), .int .i64 (c : Int), .int .i64 (d : Int), .int .i64 (e : Int)], .slice sa n k] w fun en w' => en = .returned (.bool true) ∧ Hid (Below w.heap.size w w') := by
  obtain ⟨F, HF⟩ : ∃ F, Hid (frameL [1, a, b, c, d, e, n] l = F) := ⟨_, rfl⟩
  have HO : Hid (okN [1, (a : Int), b, c, d, e, 0] = true) := hok
  have TH : Hid (getS F = ([a, b, c, d, e], l, 0) ∧ hdS F = ([a, b, c, d, e], n, 0)) := by
    have h1 := hS.out.len
    rw [← HF.out, h1]
    exact getS_there hok (by omega)
  have i1 : ¬ ((1024 : Int) < (n : Int)) := by omega
  obtain ⟨W0, HW0⟩ : ∃ W0, Hid (w.alloc (.cells #[.int .i64 (a : Int), .int .i64 (b : Int), .int .i64 (c : Int), .int .i64 (d : Int), .int .i64 (e : Int)] 25) = W0) := ⟨_, rfl⟩
  have b0 : Hid (Below w.heap.size w W0) := by rw [← HW0.out]; exact (Below.refl _ w).alloc (Nat.le_refl _) _
  have M0 : Hid (Mst W0) := hM.out.below b0.out hM.out.lt
  have K0 : Hid (Kst W0) := hK.out.below b0.out (kst_pos hK.out)
  have L0 : Hid (Sln W0 sa n l) := hS.out.below b0.out
  go_enter Tryd.func3, Tryd.ntmps3
  go_upto_region 3 with (go_at_call 9; rw [HW0.out]; refine (alive_n M0 K0).mono ?_; rintro en w1 ⟨rfl, H1⟩
                         have S1 : Hid (Sln w1 sa n l) := L0.out.below H1.out)
  go_upto_region 4 with (go_at_call 10; refine (bytes_n S1 hc).mono ?_; rintro en w2 ⟨gi, N, rfl, H2⟩)
  have G : Hid (Pt w w2 E (a : Int) (b : Int) (c : Int) (d : Int) (e : Int) gi sa n l) := Pt.begin HW0.out.symm H1.out H2.out hS.out hE.out hM.out hK.out
  have HN : Hid (N = n + 6) := H2.out.1
  clear S1 H1 H2 b0 M0 K0 L0 HW0
  have q0 := G.out.st.c0
  have q1 := G.out.st.c1
  have q2 := G.out.st.c2
  have q3 := G.out.st.c3
  have q4 := G.out.st.c4
  have MS : Hid (Mst w2) := G.out.ms
  have KK : Hid (Kst w2) := G.out.ks
  have IS : Hid (Sln w2 (some ⟨gi, 0, none⟩) n l) := blk_begin G.out.bi hS.out.len hS.out.lt hS.out.sli.2.1
  have IZ : Hid ((some (⟨gi, 0, none⟩ : Addr)) = none → N = 0) := fun h => by cases h
  go_upto_region 5 with (go_at_call 11; refine (put_ok a b c d e n N _ l MS KK IS IZ hok hn).mono ?_; rintro en w3 ⟨af, Nf, cf, rfl, H3⟩)
  have G3 : Hid (Pt w w3 E (a : Int) (b : Int) (c : Int) (d : Int) (e : Int) gi sa n l) := G.out.below H3.out.2.2
  have O3 : Hid (Own w3 w2.heap.size af Nf cf F) := by rw [← HF.out]; exact H3.out.1
  have N3 : Nf ≤ 4000 := H3.out.2.1
  have Z2 : Hid (w.heap.size ≤ w2.heap.size) := G.out.bel.size
  clear G q0 q1 q2 q3 q4 MS KK IS IZ H3
  have KB : Hid (Blk w3 gi (l ++ marks)) := G3.out.bi
  have KS : Hid (Sln w3 sa n l) := G3.out.sl
  go_upto_region 7 with (go_at_call 12; refine (kept_n KB HN KS).mono ?_; rintro en w4 ⟨rfl, H4⟩)
  have b4 : Hid (Below w3.heap.size w3 w4) := by
    obtain ⟨j, hj⟩ := H4.out
    rw [hj]
    exact below_drewN (Below.refl _ _) j
  have G4 : Hid (Pt w w4 E (a : Int) (b : Int) (c : Int) (d : Int) (e : Int) gi sa n l) := G3.out.below b4.out
  have O4 : Hid (Own w4 w2.heap.size af Nf cf F) := O3.out.below b4.out
  clear G3 H4 KB KS b4 O3
  have q0 := G4.out.st.c0
  have q1 := G4.out.st.c1
  have q2 := G4.out.st.c2
  have q3 := G4.out.st.c3
  have q4 := G4.out.st.c4
  go_upto_region 9 with (go_at_call 13; refine (refInForm_n (a : Int) (b : Int) (c : Int) (d : Int) (e : Int) _).mono ?_; rintro en w5 ⟨rfl, H5⟩; rw [hok])
  have G5 : Hid (Pt w w5 E (a : Int) (b : Int) (c : Int) (d : Int) (e : Int) gi sa n l) := G4.out.below H5.out
  have O5 : Hid (Own w5 w2.heap.size af Nf cf F) := O4.out.below H5.out
  clear G4 q0 q1 q2 q3 q4 O4 H5
  go_upto_region 11 with (fail)
  have GD : Hid (Pt w w5.drew E (a : Int) (b : Int) (c : Int) (d : Int) (e : Int) gi sa n l) := G5.out.below (Below.refl _ _).drew
  have OD : Hid (Own w5.drew w2.heap.size af Nf cf F) := O5.out.below (Below.refl _ _).drew
  have DS : Hid (Sln w5.drew sa n l) := GD.out.sl
  have DF : Hid (Sln w5.drew af Nf F) := OD.out.sln (by omega)
  clear G5 O5
  refine wp_region_till (S := fun L W => (convert 26 9 (.slice af Nf cf)).run Tryd.prog W = .ok (.string (spell F)) W ∧ S5 W w.heap.size (a : Int) (b : Int) (c : Int) (d : Int) (e : Int)) (by kernel_rfl) ⟨conv_n DF, GD.out.st⟩ (fun hS => ?_)
  refine till_take (i := 0) (v := .nilIface) rfl (by kernel_rfl) (by kernel_rfl) (by kernel_rfl) (fun _ _ _ h => h) (fun L w => Iff.rfl) (Or.inl ⟨by rfl, fun w => by go_simp⟩) hS (fun hSb => ?_)
  simp only [List.getElem_toArray, List.getElem_cons_zero, List.getElem_cons_succ, Act.put, List.setIfInBounds_toArray, List.set_cons_zero, List.set_cons_succ]
  clear hS
  refine till_take (i := 1) (v := .bool false) rfl (by kernel_rfl) (by kernel_rfl) (by kernel_rfl) (fun _ _ _ h => h) (fun L w => Iff.rfl) (Or.inl ⟨by rfl, fun w => by go_simp⟩) hSb (fun hS => ?_)
  simp only [List.getElem_toArray, List.getElem_cons_zero, List.getElem_cons_succ, Act.put, List.setIfInBounds_toArray, List.set_cons_zero, List.set_cons_succ]
  clear hSb
  refine till_take (i := 2) (v := .bool false) rfl (by kernel_rfl) (by kernel_rfl) (by kernel_rfl) (fun _ _ _ h => h) (fun L w => Iff.rfl) (Or.inl ⟨by rfl, fun w => by go_simp⟩) hS (fun hSb => ?_)
  simp only [List.getElem_toArray, List.getElem_cons_zero, List.getElem_cons_succ, Act.put, List.setIfInBounds_toArray, List.set_cons_zero, List.set_cons_succ]
  clear hS
  refine till_take (i := 3) (v := .slice af Nf cf) rfl (by kernel_rfl) (by kernel_rfl) (by kernel_rfl) (fun _ _ _ h => h) (fun L w => Iff.rfl) (Or.inl ⟨by rfl, fun w => by go_simp⟩) hSb (fun hS => ?_)
  simp only [List.getElem_toArray, List.getElem_cons_zero, List.getElem_cons_succ, Act.put, List.setIfInBounds_toArray, List.set_cons_zero, List.set_cons_succ]
  clear hSb
  refine till_read (i := 4) (c := 9) (v := .string (spell F)) (T := fun W => (convert 26 9 (.slice af Nf cf)).run Tryd.prog W = .ok (.string (spell F)) W) rfl rfl (by kernel_rfl) (by kernel_rfl) (by kernel_rfl) (by kernel_rfl) (by kernel_rfl) (fun _ _ _ h => h) (fun L w => Iff.rfl) (fun L w h1 h2 => h2.1) (Or.inl ⟨by rfl, fun w h => by go_simp⟩) hS (fun hSb => ?_)
  simp only [List.getElem_toArray, List.getElem_cons_zero, List.getElem_cons_succ, Act.put, List.setIfInBounds_toArray, List.set_cons_zero, List.set_cons_succ]
  clear hS
  refine till_read (i := 5) (c := 7) (v := .agg #[.int .i64 (a : Int), .int .i64 (b : Int), .int .i64 (c : Int), .int .i64 (d : Int), .int .i64 (e : Int)]) (T := fun W => S5 W w.heap.size (a : Int) (b : Int) (c : Int) (d : Int) (e : Int)) rfl rfl (by kernel_rfl) (by kernel_rfl) (by kernel_rfl) (by kernel_rfl) (by kernel_rfl) (fun _ _ _ h => h) (fun L w => Iff.rfl) (fun L w h1 h2 => h2.2) (Or.inl ⟨by rfl, fun w h => by have q0 := h.c0; have q1 := h.c1; have q2 := h.c2; have q3 := h.c3; have q4 := h.c4; go_simp⟩) hSb (fun hS => ?_)
  simp only [List.getElem_toArray, List.getElem_cons_zero, List.getElem_cons_succ, Act.put, List.setIfInBounds_toArray, List.set_cons_zero, List.set_cons_succ]
  clear hSb
  refine till_take (i := 6) (v := .slice sa n k) rfl (by kernel_rfl) (by kernel_rfl) (by kernel_rfl) (fun _ _ _ h => h) (fun L w => Iff.rfl) (Or.inl ⟨by rfl, fun w => by go_simp⟩) hS (fun hSb => ?_)
  simp only [List.getElem_toArray, List.getElem_cons_zero, List.getElem_cons_succ, Act.put, List.setIfInBounds_toArray, List.set_cons_zero, List.set_cons_succ]
  clear hS
  refine till_one (i := 7) (by kernel_rfl) rfl (fun K hK => ?_)
  simp only [List.getElem_toArray, List.getElem_cons_zero, List.getElem_cons_succ]
  rw [if_pos (by rfl)]
  go_simp
  go_wp2_with (go_at_call 14; refine (refPut_n a b c d e n k sa l DS hc hnk HO hn).mono ?_; rintro en w6 ⟨aw, Nw, cw, rfl, H6⟩)
  have G6 : Hid (Pt w w6 E (a : Int) (b : Int) (c : Int) (d : Int) (e : Int) gi sa n l) := GD.out.below H6.out.2.2
  have O6 : Hid (Own w6 w2.heap.size af Nf cf F) := OD.out.below H6.out.2.2
  have L6 : Hid (Sln w6 af Nf F) := O6.out.sln (by omega)
  have CW := conv_n (k := cw) (show Hid (Sln w6 aw Nw F) from by have h7 := H6.out.1; rw [HF.out] at h7; exact h7.sln (by have := H6.out.2.1; omega))
  refine hK.out _ _ (⟨conv_n L6, G6.out.st⟩) (fun hS => ?_)
  clear hK K
  try simp only [List.getElem_toArray, List.getElem_cons_zero, List.getElem_cons_succ, Act.put, List.setIfInBounds_toArray, List.set_cons_zero, List.set_cons_succ]
  clear hSb
  refine till_one (i := 8) (by kernel_rfl) rfl (fun K hK => ?_)
  simp only [List.getElem_toArray, List.getElem_cons_zero, List.getElem_cons_succ]
  rw [if_pos (by rfl)]
  go_simp
  refine hK.out _ _ (hS) (fun hSb => ?_)
  clear hK K
  try simp only [List.getElem_toArray, List.getElem_cons_zero, List.getElem_cons_succ, Act.put, List.setIfInBounds_toArray, List.set_cons_zero, List.set_cons_succ]
  clear hS
  refine till_one (i := 9) (by kernel_rfl) rfl (fun K hK => ?_)
  simp only [List.getElem_toArray, List.getElem_cons_zero, List.getElem_cons_succ]
  rw [if_pos (by rfl)]
  go_simp
  refine hK.out _ _ (hSb) (fun hS => ?_)
  clear hK K
  try simp only [List.getElem_toArray, List.getElem_cons_zero, List.getElem_cons_succ, Act.put, List.setIfInBounds_toArray, List.set_cons_zero, List.set_cons_succ]
  clear hSb
  refine till_one (i := 10) (by kernel_rfl) rfl (fun K hK => ?_)
  simp only [List.getElem_toArray, List.getElem_cons_zero, List.getElem_cons_succ]
  rw [if_pos (by rfl)]
  go_simp
  refine hK.out _ _ (hS) (fun hSb => ?_)
  clear hK K
  try simp only [List.getElem_toArray, List.getElem_cons_zero, List.getElem_cons_succ, Act.put, List.setIfInBounds_toArray, List.set_cons_zero, List.set_cons_succ]
  clear hS
  refine till_done (by kernel_rfl) ?_ _
  clear hSb
  clear CW L6 GD OD DS DF H6
  have F6 : Hid (Sln w6 af Nf F) := O6.out.sln (by omega)
  have FZ : Hid (af = none → cf = 0) := O6.out.cap0
  have FC : Nf ≤ cf := O6.out.cap
  have MS : Hid (Mst w6) := G6.out.ms
  have KK : Hid (Kst w6) := G6.out.ks
  have SE : Hid (Sent w6 4 E) := G6.out.se
  go_upto_region 14 with (first
    | (go_at_call 15; refine (get_all F6 FZ FC MS SE (by omega) KK).mono ?_; rintro en w7 ⟨ab, mb, cb, v1, rfl, H7⟩
       rw [TH.out.1]
       have V1 : Hid (v1 = .nilIface) := by have h := H7.out.1; rw [TH.out.1] at h; exact h
       have OB : Hid (Own w7 w6.heap.size ab mb cb l) := by have h := H7.out.2.1; rw [TH.out.1] at h; exact h
       obtain rfl := V1.out
       have G7 : Hid (Pt w w7 E (a : Int) (b : Int) (c : Int) (d : Int) (e : Int) gi sa n l) := G6.out.below H7.out.2.2
       have O7 : Hid (Own w7 w2.heap.size af Nf cf F) := O6.out.below H7.out.2.2
       have A1 : Hid (Arr .i64 25 (w7.alloc (.cells (cs .i64 Z5) 25)) w7.heap.size Z5) := Arr.new _ _ _ _
       obtain ⟨V1w, HV1⟩ : ∃ V, Hid ((w7.alloc (.cells (cs .i64 Z5) 25)).setRow w7.heap.size (cs .i64 [a, b, c, d, e]) = V) := ⟨_, rfl⟩
       have b1 : Hid (Below w7.heap.size w7 V1w) := by rw [← HV1.out]; exact below_arr w7 _ _ _ _
       have D1 : Hid (Arr .i64 25 V1w w7.heap.size [a, b, c, d, e]) := by rw [← HV1.out]; exact A1.out.setRow _
       have SZ6 : Hid (w6.heap.size ≤ V1w.heap.size) := Nat.le_trans H7.out.2.2.size b1.out.size
       have HW6 : Hid (w.heap.size ≤ w6.heap.size) := G6.out.bel.size
       clear H7)
    | (refine wpList_st0 (k := .i64) (t := 25) (l := Z5) (l2 := [a, b, c, d, e]) (by rfl) (by rfl) 25 (.tmp 8) (.tmp 63) (by rfl) (by rfl) (by rfl) A1 sz25s (by rfl) ?_; refine (show _ = V1w from HV1.out) ▸ ?_))
  have G8 : Hid (Pt w V1w E (a : Int) (b : Int) (c : Int) (d : Int) (e : Int) gi sa n l) := G7.out.below b1.out
  have O8 : Hid (Own V1w w2.heap.size af Nf cf F) := O7.out.below b1.out
  have OB8 : Hid (Own V1w w6.heap.size ab mb cb l) := OB.out.below b1.out
  have ofq : Hid (∀ q, blkOf af = some q → q < w6.heap.size) := fun q hq => (O6.out.ge q hq).2
  clear G7 O7 OB b1 HV1 A1 G6 O6 F6 MS KK SE V1
  have F8 : Hid (Sln V1w af Nf F) := O8.out.sln (by omega)
  have MS : Hid (Mst V1w) := G8.out.ms
  have SE : Hid (Sent V1w 4 E) := G8.out.se
  go_upto_region 15 with (first
    | (go_at_call 16; refine (head_all F8 FZ FC MS SE (by omega)).mono ?_; rintro en w9 ⟨v2, rfl, H9⟩
       rw [TH.out.2]
       have V2 : Hid (v2 = .nilIface) := by have h := H9.out.1; rw [TH.out.2] at h; exact h
       obtain rfl := V2.out
       have A2 : Hid (Arr .i64 25 (w9.alloc (.cells (cs .i64 Z5) 25)) w9.heap.size Z5) := Arr.new _ _ _ _
       obtain ⟨V2w, HV2⟩ : ∃ V, Hid ((w9.alloc (.cells (cs .i64 Z5) 25)).setRow w9.heap.size (cs .i64 [a, b, c, d, e]) = V) := ⟨_, rfl⟩
       have b2 : Hid (Below w9.heap.size w9 V2w) := by rw [← HV2.out]; exact below_arr w9 _ _ _ _
       have D2 : Hid (Arr .i64 25 V2w w9.heap.size [a, b, c, d, e]) := by rw [← HV2.out]; exact A2.out.setRow _
       have F4 : Hid (Below V1w.heap.size V1w V2w) := H9.out.2.trans (b2.out.mono H9.out.2.size)
       clear H9)
    | (refine wpList_st0 (k := .i64) (t := 25) (l := Z5) (l2 := [a, b, c, d, e]) (by rfl) (by rfl) 25 (.tmp 10) (.tmp 69) (by rfl) (by rfl) (by rfl) A2 sz25s (by rfl) ?_; refine (show _ = V2w from HV2.out) ▸ ?_))
  have G9 : Hid (Pt w V2w E (a : Int) (b : Int) (c : Int) (d : Int) (e : Int) gi sa n l) := G8.out.below F4.out
  have O9 : Hid (Own V2w w2.heap.size af Nf cf F) := O8.out.below F4.out
  have OB9 : Hid (Own V2w w6.heap.size ab mb cb l) := OB8.out.below F4.out
  have D9 : Hid (Arr .i64 25 V2w w7.heap.size [a, b, c, d, e]) := D1.out.below F4.out D1.out.lt
  have HBZ : Hid (w6.heap.size ≤ V2w.heap.size) := Nat.le_trans SZ6.out F4.out.size
  clear G8 O8 OB8 D1 b2 HV2 A2 F8 MS SE V2 F4
  have EQ := fun w' => eq25 (a : Int) b c d e w'
  have u0 : V2w.cell? ⟨w7.heap.size, 0, none⟩ = some (.int .i64 (a : Int)) := D9.out.cell (i := 0) (by simp)
  have u1 : V2w.cell? ⟨w7.heap.size, 1, none⟩ = some (.int .i64 (b : Int)) := D9.out.cell (i := 1) (by simp)
  have u2 : V2w.cell? ⟨w7.heap.size, 2, none⟩ = some (.int .i64 (c : Int)) := D9.out.cell (i := 2) (by simp)
  have u3 : V2w.cell? ⟨w7.heap.size, 3, none⟩ = some (.int .i64 (d : Int)) := D9.out.cell (i := 3) (by simp)
  have u4 : V2w.cell? ⟨w7.heap.size, 4, none⟩ = some (.int .i64 (e : Int)) := D9.out.cell (i := 4) (by simp)
  have v0 : V2w.cell? ⟨w9.heap.size, 0, none⟩ = some (.int .i64 (a : Int)) := D2.out.cell (i := 0) (by simp)
  have v1 : V2w.cell? ⟨w9.heap.size, 1, none⟩ = some (.int .i64 (b : Int)) := D2.out.cell (i := 1) (by simp)
  have v2 : V2w.cell? ⟨w9.heap.size, 2, none⟩ = some (.int .i64 (c : Int)) := D2.out.cell (i := 2) (by simp)
  have v3 : V2w.cell? ⟨w9.heap.size, 3, none⟩ = some (.int .i64 (d : Int)) := D2.out.cell (i := 3) (by simp)
  have v4 : V2w.cell? ⟨w9.heap.size, 4, none⟩ = some (.int .i64 (e : Int)) := D2.out.cell (i := 4) (by simp)
  have q0 := G9.out.st.c0
  have q1 := G9.out.st.c1
  have q2 := G9.out.st.c2
  have q3 := G9.out.st.c3
  have q4 := G9.out.st.c4
  have SF : Hid (Sln V2w af Nf F) := O9.out.sln (by omega)
  have ml : Hid (mb = l.length) := OB9.out.len
  have nl : Hid (n = l.length) := G9.out.sl.len
  have mb8 : mb + 8 ≤ 140737488352256 := by rw [ml.out, ← nl.out]; omega
  have CB := conv_n (k := cb) (show Hid (Sln V2w ab mb l) from OB9.out.sln (by omega))
  have CI := conv_n (k := k) (show Hid (Sln V2w sa n l) from G9.out.sl)
  have HB : Hid (w6.heap.size ≤ V2w.heap.size) := by
    exact HBZ.out
  have NE : Hid (∀ q off, F ≠ [] → af = some ⟨q, off, none⟩ → blkOf ab ≠ some q) := fun q off _ h1 h2 => by
    have h3 := ofq.out q (by rw [h1]; rfl)
    have h4 := (OB9.out.ge q h2).1
    omega
  go_wp2_with (go_at_call 17; refine (apart_own SF OB9 HB mb8 NE).mono ?_; rintro en wA ⟨rfl, HA⟩)
  go_ret
  exact ⟨rfl, G9.out.bel.grown HA.out G9.out.bel.size (fun j hj => Nat.le_trans HW6.out (OB9.out.ge j hj).1)⟩
/- FramePuts for every stamp and every list of bytes -/
theorem puts_n {w : World} {E : Nat → Addr} (a b c d e : Int) {sa : Option Addr} {n k : Nat} {l : List Nat} (hS : Hid (Sln w sa n l)) (hc : Hid (sa = none → k = 0)) (hnk : n ≤ k) (hE : Hid (Sent w 4 E)) (hM : Hid (Mst w)) (hK : Hid (Kst w)) :
    Calls Tryd.prog 3 #[.agg #[.int .i64 a, .int .i64 b, .int .i64 c, .int .i64 d, .int .i64 e], .slice sa n k] w fun en w' => en = .returned (.bool true) ∧ Hid (Below w.heap.size w w') := by
  cases h : okN [1, a, b, c, d, e, 0] with
  | false => exact puts_form a b c d e hS hc hE hM hK h
  | true =>
    by_cases hn : 1024 < n
    · exact puts_large a b c d e hS hc hE hM hK h hn
    · have h1 := (okN_iff _ _ _ _ _).1 h
      obtain ⟨a, rfl⟩ := Int.eq_ofNat_of_zero_le h1.1.1
      obtain ⟨b, rfl⟩ := Int.eq_ofNat_of_zero_le h1.2.1.1
      obtain ⟨c, rfl⟩ := Int.eq_ofNat_of_zero_le h1.2.2.1.1
      obtain ⟨d, rfl⟩ := Int.eq_ofNat_of_zero_le h1.2.2.2.1.1
      obtain ⟨e, rfl⟩ := Int.eq_ofNat_of_zero_le h1.2.2.2.2.1
      exact puts_ok a b c d e hS hc hnk hE hM hK h (by omega)
end Go.Proofs.YtmkknklkdgkbaaaDoor

/- Ic -/
/- An argument that is a stamp: five numbers. -/
namespace Go.Proofs.YtmkknklkdgkbaaaDoor
open Go.ChangeShapes Go.WideShapes Go.ChangeAt Go.RowKit
set_option maxRecDepth 20000
set_option linter.unusedVariables false
set_option linter.unusedSimpArgs false
theorem types25 : Tryd.prog.cellTypes Tryd.prog.depth 25 = some [3, 3, 3, 3, 3] := by kernel_rfl
theorem cells25 : Tryd.prog.cellsOf 25 = 5 := by kernel_rfl
theorem cell3 {W : World} {r : Reach} {base : Nat} {v : Value} (h : Cell.okWide Tryd.prog W r base 3 v) : ∃ x, v = .int .i64 x := by
  simp only [Tryd.underlying3, Cell.okWide] at h
  cases v <;> simp_all [Cell.ok]
theorem open25 {W : World} {r : Reach} {base : Nat} {v : Value} (h : Value.okWide Tryd.prog W r base 25 v) : ∃ a b c d e : Int, v = .agg #[.int .i64 a, .int .i64 b, .int .i64 c, .int .i64 d, .int .i64 e] := by
  simp only [Value.okWide, Tryd.underlying25] at h
  obtain ⟨cs, rfl, hn, ts, ht, _, hc⟩ := h
  rw [types25] at ht
  obtain rfl := Option.some.inj ht
  rw [cells25] at hn
  obtain ⟨l⟩ := cs
  have all : ∀ (i : Nat) (v : Value), l[i]? = some v → ∃ x, v = .int .i64 x := fun i v hv => by
    obtain ⟨u, hu, hk⟩ := hc i v (by simpa using hv)
    have hu3 : u = 3 := by
      have h5 : i % 5 < 5 := Nat.mod_lt _ (by omega)
      have hu' : ([3, 3, 3, 3, 3] : List Nat)[i % 5]? = some u := hu
      rcases (by omega : i % 5 = 0 ∨ i % 5 = 1 ∨ i % 5 = 2 ∨ i % 5 = 3 ∨ i % 5 = 4) with h | h | h | h | h <;> rw [h] at hu' <;> simpa using hu'.symm
    subst hu3
    exact cell3 hk
  match l, hn with
  | [c0, c1, c2, c3, c4], _ =>
    obtain ⟨a, rfl⟩ := all 0 c0 rfl
    obtain ⟨b, rfl⟩ := all 1 c1 rfl
    obtain ⟨c, rfl⟩ := all 2 c2 rfl
    obtain ⟨d, rfl⟩ := all 3 c3 rfl
    obtain ⟨e, rfl⟩ := all 4 c4 rfl
    exact ⟨a, b, c, d, e, rfl⟩
end Go.Proofs.YtmkknklkdgkbaaaDoor
