import Derived.Test.YtmkknklkdgkbaaaDoorMHb
/- Ia -/
/- FramePuts: where the stamp is not in form, and where the shard is too large. -/
namespace Go.Proofs.YtmkknklkdgkbaaaDoor
open Go.ChangeShapes Go.WideShapes Go.ChangeAt Go.RowKit
set_option maxRecDepth 20000
set_option linter.unusedVariables false
set_option linter.unusedSimpArgs false
theorem getS_there {a b c d e : Nat} {l : List Nat} (h : okN [1, (a : Int), b, c, d, e, 0] = true) (hn : l.length ≤ 1024) : getS (frameL [1, a, b, c, d, e, l.length] l) = ([a, b, c, d, e], l, 0) ∧ hdS (frameL [1, a, b, c, d, e, l.length] l) = ([a, b, c, d, e], l.length, 0) := by
  have e1 := hdF_there h hn (bodyL l)
  have e2 : frameL [1, a, b, c, d, e, l.length] l = headL [1, a, b, c, d, e, l.length] ++ bodyL l := rfl
  rw [← e2] at e1
  have e3 : (frameL [1, a, b, c, d, e, l.length] l).drop (headL [1, a, b, c, d, e, l.length]).length = bodyL l := by rw [e2, List.drop_left]
  have e4 : (frameL [1, a, b, c, d, e, l.length] l).length - (headL [1, a, b, c, d, e, l.length]).length = l.length + 32 * blks l.length := by
    rw [e2, List.length_append, bodyL_len]; omega
  constructor
  · unfold getS
    rw [if_neg (by rw [e1]; simp), if_neg (by rw [e1]; simp; exact e4), if_pos (by rw [e1]; dsimp only; rw [e3]; exact goodB_of (fun i hi => gdB_there (by simpa using hi))), e1]
    dsimp only
    rw [e3]
    have e5 := shK_all l
    simpa [five] using e5
  · unfold hdS
    rw [if_neg (by rw [e1]; simp), e1]
    rfl
/- a variable's five numbers -/
structure S5 (W : World) (g : Nat) (a b c d e : Int) : Prop where
  c0 : W.cell? ⟨g, 0, none⟩ = some (.int .i64 a)
  c1 : W.cell? ⟨g, 1, none⟩ = some (.int .i64 b)
  c2 : W.cell? ⟨g, 2, none⟩ = some (.int .i64 c)
  c3 : W.cell? ⟨g, 3, none⟩ = some (.int .i64 d)
  c4 : W.cell? ⟨g, 4, none⟩ = some (.int .i64 e)
theorem S5.below {W W' : World} {g B : Nat} {a b c d e : Int} (h : S5 W g a b c d e) (hb : Below B W W') (hg : g < B) : S5 W' g a b c d e :=
  ⟨(hb.cell (p := ⟨g, 0, none⟩) hg).trans h.c0, (hb.cell (p := ⟨g, 1, none⟩) hg).trans h.c1, (hb.cell (p := ⟨g, 2, none⟩) hg).trans h.c2, (hb.cell (p := ⟨g, 3, none⟩) hg).trans h.c3, (hb.cell (p := ⟨g, 4, none⟩) hg).trans h.c4⟩
theorem S5.lt {W : World} {g : Nat} {a b c d e : Int} (h : S5 W g a b c d e) : g < W.heap.size := cell_lt h.c0
/- while FramePuts runs -/
structure Pt (w W : World) (E : Nat → Addr) (a b c d e : Int) (gi : Nat) (sa : Option Addr) (n : Nat) (l : List Nat) : Prop where
  st : S5 W w.heap.size a b c d e
  sl : Sln W sa n l
  bi : Blk W gi (l ++ marks)
  se : Sent W 4 E
  ms : Mst W
  ks : Kst W
  bel : Below w.heap.size w W
theorem Pt.below {w W W' : World} {E : Nat → Addr} {a b c d e : Int} {gi : Nat} {sa : Option Addr} {n : Nat} {l : List Nat} (h : Pt w W E a b c d e gi sa n l) (hb : Below W.heap.size W W') : Pt w W' E a b c d e gi sa n l :=
  ⟨h.st.below hb h.st.lt, h.sl.below hb, h.bi.below hb h.bi.lt, h.se.below hb, h.ms.below hb h.ms.lt, h.ks.below hb (kst_pos h.ks), h.bel.trans (hb.mono h.bel.size)⟩
theorem Pt.begin {w W0 w1 w2 : World} {E : Nat → Addr} {a b c d e : Int} {gi n N : Nat} {sa : Option Addr} {l : List Nat} (h0 : W0 = w.alloc (.cells #[.int .i64 a, .int .i64 b, .int .i64 c, .int .i64 d, .int .i64 e] 25)) (b1 : Below W0.heap.size W0 w1) (h2 : N = n + 6 ∧ gi = w1.heap.size ∧ Blk w2 gi (l ++ marks) ∧ Below w1.heap.size w1 w2)
    (hS : Sln w sa n l) (hE : Sent w 4 E) (hM : Mst w) (hK : Kst w) : Pt w w2 E a b c d e gi sa n l := by
  have b0 : Below w.heap.size w W0 := by rw [h0]; exact (Below.refl _ w).alloc (Nat.le_refl _) _
  have z0 : w.heap.size < W0.heap.size := by rw [h0]; simp
  have s0 : S5 W0 w.heap.size a b c d e := by rw [h0]; constructor <;> simp [go_sem]
  have b2 : Below W0.heap.size W0 w2 := b1.trans (h2.2.2.2.mono b1.size)
  have bw : Below w.heap.size w w2 := b0.trans (b2.mono b0.size)
  exact ⟨s0.below b2 z0, hS.below bw, h2.2.2.1, hE.below bw, hM.below bw hM.lt, hK.below bw (kst_pos hK), bw⟩
set_option maxHeartbeats 2000000 in
theorem puts_form {w : World} {E : Nat → Addr} (a b c d e : Int) {sa : Option Addr} {n k : Nat} {l : List Nat} (hS : Hid (Sln w sa n l)) (hc : Hid (sa = none → k = 0)) (hE : Hid (Sent w 4 E)) (hM : Hid (Mst w)) (hK : Hid (Kst w)) (hok : okN [1, a, b, c, d, e, 0] = false) :
    Calls Tryd.prog 3 #[.agg #[.int .i64 a, .int .i64 b, .int .i64 c, .int .i64 d, .int .i64 e], .slice sa n k] w fun en w' => en = .returned (.bool true) ∧ Hid (Below w.heap.size w w') := by
  obtain ⟨W0, HW0⟩ : ∃ W0, Hid (w.alloc (.cells #[.int .i64 a, .int .i64 b, .int .i64 c, .int .i64 d, .int .i64 e] 25) = W0) := ⟨_, rfl⟩
  have b0 : Hid (Below w.heap.size w W0) := by rw [← HW0.out]; exact (Below.refl _ w).alloc (Nat.le_refl _) _
  have M0 : Hid (Mst W0) := hM.out.below b0.out hM.out.lt
  have K0 : Hid (Kst W0) := hK.out.below b0.out (kst_pos hK.out)
  have L0 : Hid (Sln W0 sa n l) := hS.out.below b0.out
  go_enter Tryd.func3, Tryd.ntmps3
  go_upto_region 3 with (go_at_call 9; rw [HW0.out]; refine (alive_n M0 K0).mono ?_; rintro en w1 ⟨rfl, H1⟩
                         have S1 : Hid (Sln w1 sa n l) := L0.out.below H1.out)
  go_upto_region 4 with (go_at_call 10; refine (bytes_n S1 hc).mono ?_; rintro en w2 ⟨gi, N, rfl, H2⟩)
  have G : Hid (Pt w w2 E a b c d e gi sa n l) := Pt.begin HW0.out.symm H1.out H2.out hS.out hE.out hM.out hK.out
  have HN : Hid (N = n + 6) := H2.out.1
  clear S1 H1 H2 b0 M0 K0 L0 HW0
  have q0 := G.out.st.c0
  have q1 := G.out.st.c1
  have q2 := G.out.st.c2
  have q3 := G.out.st.c3
  have q4 := G.out.st.c4
  have MS : Hid (Mst w2) := G.out.ms
  have SE : Hid (Sent w2 4 E) := G.out.se
  go_upto_region 5 with (go_at_call 11; refine (put_form a b c d e _ MS SE (by omega) hok).mono ?_; rintro en w3 ⟨rfl, H3⟩)
  have G3 : Hid (Pt w w3 E a b c d e gi sa n l) := G.out.below H3.out
  clear G q0 q1 q2 q3 q4 MS SE
  have KB : Hid (Blk w3 gi (l ++ marks)) := G3.out.bi
  have KS : Hid (Sln w3 sa n l) := G3.out.sl
  go_upto_region 7 with (go_at_call 12; refine (kept_n KB HN KS).mono ?_; rintro en w4 ⟨rfl, H4⟩)
  have G4 : Hid (Pt w w4 E a b c d e gi sa n l) := by
    obtain ⟨j, hj⟩ := H4.out
    exact G3.out.below (by rw [hj]; exact below_drewN (Below.refl _ _) j)
  clear G3 H4 KB KS
  have q0 := G4.out.st.c0
  have q1 := G4.out.st.c1
  have q2 := G4.out.st.c2
  have q3 := G4.out.st.c3
  have q4 := G4.out.st.c4
  go_upto_region 8 with (go_at_call 13; refine (refInForm_n a b c d e _).mono ?_; rintro en w5 ⟨rfl, H5⟩; rw [hok])
  have G5 : Hid (Pt w w5 E a b c d e gi sa n l) := G4.out.below H5.out
  clear G4 q0 q1 q2 q3 q4
  have ce := G5.out.se.c 0 (by omega)
  unfold er at ce
  have EQ := fun w => eql_same w (E 0)
  go_wp2
  go_ret
  exact ⟨rfl, G5.out.bel⟩
set_option maxHeartbeats 2000000 in
theorem puts_large {w : World} {E : Nat → Addr} (a b c d e : Int) {sa : Option Addr} {n k : Nat} {l : List Nat} (hS : Hid (Sln w sa n l)) (hc : Hid (sa = none → k = 0)) (hE : Hid (Sent w 4 E)) (hM : Hid (Mst w)) (hK : Hid (Kst w)) (hok : okN [1, a, b, c, d, e, 0] = true) (hn : 1024 < n) :
    Calls Tryd.prog 3 #[.agg #[.int .i64 a, .int .i64 b, .int .i64 c, .int .i64 d, .int .i64 e], .slice sa n k] w fun en w' => en = .returned (.bool true) ∧ Hid (Below w.heap.size w w') := by
  obtain ⟨W0, HW0⟩ : ∃ W0, Hid (w.alloc (.cells #[.int .i64 a, .int .i64 b, .int .i64 c, .int .i64 d, .int .i64 e] 25) = W0) := ⟨_, rfl⟩
  have b0 : Hid (Below w.heap.size w W0) := by rw [← HW0.out]; exact (Below.refl _ w).alloc (Nat.le_refl _) _
  have M0 : Hid (Mst W0) := hM.out.below b0.out hM.out.lt
  have K0 : Hid (Kst W0) := hK.out.below b0.out (kst_pos hK.out)
  have L0 : Hid (Sln W0 sa n l) := hS.out.below b0.out
  have i1 : (1024 : Int) < (n : Int) := by omega
  go_enter Tryd.func3, Tryd.ntmps3
  go_upto_region 3 with (go_at_call 9; rw [HW0.out]; refine (alive_n M0 K0).mono ?_; rintro en w1 ⟨rfl, H1⟩
                         have S1 : Hid (Sln w1 sa n l) := L0.out.below H1.out)
  go_upto_region 4 with (go_at_call 10; refine (bytes_n S1 hc).mono ?_; rintro en w2 ⟨gi, N, rfl, H2⟩)
  have G : Hid (Pt w w2 E a b c d e gi sa n l) := Pt.begin HW0.out.symm H1.out H2.out hS.out hE.out hM.out hK.out
  have HN : Hid (N = n + 6) := H2.out.1
  clear S1 H1 H2 b0 M0 K0 L0 HW0
  have q0 := G.out.st.c0
  have q1 := G.out.st.c1
  have q2 := G.out.st.c2
  have q3 := G.out.st.c3
  have q4 := G.out.st.c4
  have MS : Hid (Mst w2) := G.out.ms
  have SE : Hid (Sent w2 4 E) := G.out.se
  go_upto_region 5 with (go_at_call 11; refine (put_large a b c d e _ n _ MS SE (by omega) hok hn).mono ?_; rintro en w3 ⟨rfl, H3⟩)
  have G3 : Hid (Pt w w3 E a b c d e gi sa n l) := G.out.below H3.out
  clear G q0 q1 q2 q3 q4 MS SE
  have KB : Hid (Blk w3 gi (l ++ marks)) := G3.out.bi
  have KS : Hid (Sln w3 sa n l) := G3.out.sl
  go_upto_region 7 with (go_at_call 12; refine (kept_n KB HN KS).mono ?_; rintro en w4 ⟨rfl, H4⟩)
  have G4 : Hid (Pt w w4 E a b c d e gi sa n l) := by
    obtain ⟨j, hj⟩ := H4.out
    exact G3.out.below (by rw [hj]; exact below_drewN (Below.refl _ _) j)
  clear G3 H4 KB KS
  have q0 := G4.out.st.c0
  have q1 := G4.out.st.c1
  have q2 := G4.out.st.c2
  have q3 := G4.out.st.c3
  have q4 := G4.out.st.c4
  go_upto_region 9 with (go_at_call 13; refine (refInForm_n a b c d e _).mono ?_; rintro en w5 ⟨rfl, H5⟩; rw [hok])
  have G5 : Hid (Pt w w5 E a b c d e gi sa n l) := G4.out.below H5.out
  clear G4 q0 q1 q2 q3 q4
  have ce := G5.out.se.c 1 (by omega)
  unfold er at ce
  have EQ := fun w => eql_same w (E 1)
  go_wp2
  go_ret
  exact ⟨rfl, G5.out.bel⟩
end Go.Proofs.YtmkknklkdgkbaaaDoor

/- Ic -/
/- An argument that is a stamp: five numbers. -/
namespace Go.Proofs.YtmkknklkdgkbaaaDoor
open Go.ChangeShapes Go.WideShapes Go.ChangeAt Go.RowKit
set_option maxRecDepth 20000
set_option linter.unusedVariables false
set_option linter.unusedSimpArgs false
theorem types25 : Tryd.prog.cellTypes Tryd.prog.depth 25 = some [3, 3, 3, 3, 3] := by kernel_rfl
theorem cells25 : Tryd.prog.cellsOf 25 = 5 := by kernel_rfl
theorem cell3 {W : World} {r : Reach} {base : Nat} {v : Value} (h : Cell.okWide Tryd.prog W r base 3 v) : ∃ x, v = .int .i64 x := by
  simp only [Tryd.underlying3, Cell.okWide] at h
  cases v <;> simp_all [Cell.ok]
theorem open25 {W : World} {r : Reach} {base : Nat} {v : Value} (h : Value.okWide Tryd.prog W r base 25 v) : ∃ a b c d e : Int, v = .agg #[.int .i64 a, .int .i64 b, .int .i64 c, .int .i64 d, .int .i64 e] := by
  simp only [Value.okWide, Tryd.underlying25] at h
  obtain ⟨cs, rfl, hn, ts, ht, _, hc⟩ := h
  rw [types25] at ht
  obtain rfl := Option.some.inj ht
  rw [cells25] at hn
  obtain ⟨l⟩ := cs
  have all : ∀ (i : Nat) (v : Value), l[i]? = some v → ∃ x, v = .int .i64 x := fun i v hv => by
    obtain ⟨u, hu, hk⟩ := hc i v (by simpa using hv)
    have hu3 : u = 3 := by
      have h5 : i % 5 < 5 := Nat.mod_lt _ (by omega)
      have hu' : ([3, 3, 3, 3, 3] : List Nat)[i % 5]? = some u := hu
      rcases (by omega : i % 5 = 0 ∨ i % 5 = 1 ∨ i % 5 = 2 ∨ i % 5 = 3 ∨ i % 5 = 4) with h | h | h | h | h <;> rw [h] at hu' <;> simpa using hu'.symm
    subst hu3
    exact cell3 hk
  match l, hn with
  | [c0, c1, c2, c3, c4], _ =>
    obtain ⟨a, rfl⟩ := all 0 c0 rfl
    obtain ⟨b, rfl⟩ := all 1 c1 rfl
    obtain ⟨c, rfl⟩ := all 2 c2 rfl
    obtain ⟨d, rfl⟩ := all 3 c3 rfl
    obtain ⟨e, rfl⟩ := all 4 c4 rfl
    exact ⟨a, b, c, d, e, rfl⟩
end Go.Proofs.YtmkknklkdgkbaaaDoor
