import Derived.Test.YtmkknklkdgkbaaaDoorMIaIc
import Derived.Test.YtmkknklkdgkbaaaDoorMJaJbJcJe
/- Ka -/
/- A frame with a byte too many, and a frame cut short. -/
namespace Go.Proofs.YtmkknklkdgkbaaaDoor
open Go.ChangeShapes Go.WideShapes Go.ChangeAt Go.RowKit
set_option linter.unusedVariables false
set_option linter.unusedSimpArgs false
theorem hd_good {F : List Nat} {x0 x1 x2 x3 x4 x5 x6 p : Nat} (hb : ∀ x ∈ F, x < 256) (e : hdF F = (0, [x0, x1, x2, x3, x4, x5, x6], p)) : x0 = 1 ∧ okN [1, (x1 : Int), x2, x3, x4, x5, 0] = true ∧ x6 ≤ 1024 ∧ headL [x0, x1, x2, x3, x4, x5, x6] = F.take p := by
  have x6b := hdF_six e
  have hh := hdF_back hb e
  obtain ⟨_, _, h3, _⟩ := hdF_ok e
  have x01 : x0 = 1 := by
    unfold hdN at h3
    cases hk : rdS (opn (rdB F 0 256).1).1 mostL 7 with
    | none => rw [hk] at h3; cases h3
    | some r =>
      obtain ⟨ns', p'⟩ := r
      rw [hk] at h3
      dsimp only at h3
      split at h3
      · rename_i h5
        simp only [Option.some.injEq] at h3
        rw [h3] at h5
        exact h5.1
      · cases h3
  have bd := hdN_bound h3
  refine ⟨x01, ?_, by omega, hh⟩
  rw [okN_iff]
  have b1 := bd 1 (by omega)
  have b2 := bd 2 (by omega)
  have b3 := bd 3 (by omega)
  have b4 := bd 4 (by omega)
  have b5 := bd 5 (by omega)
  simp [mostL] at b1 b2 b3 b4 b5
  omega
section
variable {a b c d e n : Nat} {l : List Nat}
theorem long_get (y : Nat) (h : okN [1, (a : Int), b, c, d, e, 0] = true) (hn : n ≤ 1024) (hl : n = l.length) : getS (frameL [1, a, b, c, d, e, n] l ++ [y]) = (Z5, [], 5) ∧ hdS (frameL [1, a, b, c, d, e, n] l ++ [y]) = ([a, b, c, d, e], n, 0) := by
  have e2 : frameL [1, a, b, c, d, e, n] l ++ [y] = headL [1, a, b, c, d, e, n] ++ (bodyL l ++ [y]) := by unfold frameL; rw [List.append_assoc]
  have e1 := hdF_there h hn (bodyL l ++ [y])
  rw [← e2] at e1
  have e4 : (frameL [1, a, b, c, d, e, n] l ++ [y]).length - (headL [1, a, b, c, d, e, n]).length = n + 32 * blks n + 1 := by
    rw [e2, List.length_append, List.length_append, bodyL_len, ← hl]; simp
  constructor
  · unfold getS
    rw [if_neg (by rw [e1]; simp), if_pos]
    rw [e1]
    show (frameL [1, a, b, c, d, e, n] l ++ [y]).length - (headL [1, a, b, c, d, e, n]).length ≠ n + 32 * blks n
    omega
  · unfold hdS
    rw [if_neg (by rw [e1]; simp), e1]
    rfl
theorem frame_bytes (hb : ∀ x ∈ frameL [1, a, b, c, d, e, n] l, x < 256) (q : Nat) : ∀ x ∈ (frameL [1, a, b, c, d, e, n] l).take q, x < 256 := fun x hx => hb x (List.mem_of_mem_take hx)
/- a head that is read in the frame cut short is the frame's -/
theorem cut_hd (h : okN [1, (a : Int), b, c, d, e, 0] = true) (hn : n ≤ 1024) (hb : ∀ x ∈ frameL [1, a, b, c, d, e, n] l, x < 256) {q : Nat} (h0 : (hdF ((frameL [1, a, b, c, d, e, n] l).take q)).1 = 0) :
    hdF ((frameL [1, a, b, c, d, e, n] l).take q) = (0, [1, a, b, c, d, e, n], (headL [1, a, b, c, d, e, n]).length) ∧ (headL [1, a, b, c, d, e, n]).length ≤ ((frameL [1, a, b, c, d, e, n] l).take q).length := by
  obtain ⟨x0, x1, x2, x3, x4, x5, x6, p', e1⟩ := hdF_seven h0
  obtain ⟨rfl, g2, g3, g4⟩ := hd_good (frame_bytes hb q) e1
  have e2 := hdF_there h hn (bodyL l)
  have e3 : frameL [1, a, b, c, d, e, n] l = headL [1, x1, x2, x3, x4, x5, x6] ++ (((frameL [1, a, b, c, d, e, n] l).take q).drop p' ++ (frameL [1, a, b, c, d, e, n] l).drop q) := by
    rw [g4, ← List.append_assoc, List.take_append_drop, List.take_append_drop]
  have e4 := hdF_there g2 g3 (((frameL [1, a, b, c, d, e, n] l).take q).drop p' ++ (frameL [1, a, b, c, d, e, n] l).drop q)
  rw [← e3] at e4
  have e5 : hdF (frameL [1, a, b, c, d, e, n] l) = (0, [1, a, b, c, d, e, n], (headL [1, a, b, c, d, e, n]).length) := e2
  rw [e4] at e5
  simp only [Prod.mk.injEq, List.cons.injEq, true_and, and_true] at e5
  obtain ⟨⟨rfl, rfl, rfl, rfl, rfl, rfl⟩, _⟩ := e5
  have e6 := hdF_there h hn (((frameL [1, x1, x2, x3, x4, x5, x6] l).take q).drop p')
  have e7 : headL [1, x1, x2, x3, x4, x5, x6] ++ ((frameL [1, x1, x2, x3, x4, x5, x6] l).take q).drop p' = (frameL [1, x1, x2, x3, x4, x5, x6] l).take q := by rw [g4, List.take_append_drop]
  rw [e7] at e6
  refine ⟨e6, ?_⟩
  have e8 := congrArg List.length g4
  rw [List.length_take] at e8
  omega
theorem cut_get (h : okN [1, (a : Int), b, c, d, e, 0] = true) (hn : n ≤ 1024) (hl : n = l.length) (hb : ∀ x ∈ frameL [1, a, b, c, d, e, n] l, x < 256) {q : Nat} (hq : q < (frameL [1, a, b, c, d, e, n] l).length) : (getS ((frameL [1, a, b, c, d, e, n] l).take q)).2.2 ≠ 0 := by
  intro hg
  by_cases h0 : (hdF ((frameL [1, a, b, c, d, e, n] l).take q)).1 = 0
  · obtain ⟨e1, e2⟩ := cut_hd h hn hb h0
    unfold getS at hg
    rw [if_neg (by rw [e1]; simp), if_pos] at hg
    · cases hg
    · rw [e1]
      show ((frameL [1, a, b, c, d, e, n] l).take q).length - (headL [1, a, b, c, d, e, n]).length ≠ n + 32 * blks n
      have e3 : (frameL [1, a, b, c, d, e, n] l).length = (headL [1, a, b, c, d, e, n]).length + (n + 32 * blks n) := by
        unfold frameL
        rw [List.length_append, bodyL_len, ← hl]
      rw [List.length_take] at e2 ⊢
      omega
  · unfold getS at hg
    rw [if_pos h0] at hg
    exact h0 hg
theorem cut_head_no (h : okN [1, (a : Int), b, c, d, e, 0] = true) (hn : n ≤ 1024) (hb : ∀ x ∈ frameL [1, a, b, c, d, e, n] l, x < 256) {q : Nat} (hq : q < (headL [1, a, b, c, d, e, n]).length) : (hdS ((frameL [1, a, b, c, d, e, n] l).take q)).2.2 ≠ 0 := by
  intro hg
  by_cases h0 : (hdF ((frameL [1, a, b, c, d, e, n] l).take q)).1 = 0
  · obtain ⟨e1, e2⟩ := cut_hd h hn hb h0
    rw [List.length_take] at e2
    omega
  · unfold hdS at hg
    rw [if_pos h0] at hg
    exact h0 hg
theorem cut_head_yes (h : okN [1, (a : Int), b, c, d, e, 0] = true) (hn : n ≤ 1024) {q : Nat} (hq : (headL [1, a, b, c, d, e, n]).length ≤ q) : hdS ((frameL [1, a, b, c, d, e, n] l).take q) = ([a, b, c, d, e], n, 0) := by
  have e2 : (frameL [1, a, b, c, d, e, n] l).take q = headL [1, a, b, c, d, e, n] ++ (bodyL l).take (q - (headL [1, a, b, c, d, e, n]).length) := by
    unfold frameL
    rw [List.take_append, List.take_of_length_le hq]
  have e1 := hdF_there h hn ((bodyL l).take (q - (headL [1, a, b, c, d, e, n]).length))
  rw [← e2] at e1
  unfold hdS
  rw [if_neg (by rw [e1]; simp), e1]
  rfl
end
end Go.Proofs.YtmkknklkdgkbaaaDoor

/- Kb -/
/- FrameHeads: a frame with a byte too many, a frame cut short. -/
namespace Go.Proofs.YtmkknklkdgkbaaaDoor
open Go.ChangeShapes Go.WideShapes Go.ChangeAt Go.RowKit
set_option maxRecDepth 20000
set_option linter.unusedVariables false
set_option linter.unusedSimpArgs false
section
variable {P : Program} {ops : Array Oper} {Q : Exit → Act → World → Prop} {md : Region.Mode} {S : Array Bool → World → Prop}
/- a region that draws, with what stands behind it -/
theorem wp_region_R {id : Nat} {a : Act} {w : World} (hm : P.follows .mixedOrders = true) (R : Act → Act → World → Prop) (hR : ∀ a' w', R a a' w' → Q .normal a' w') (hw : S (Array.replicate ops.size false) w.drew)
    (h : S (Array.replicate ops.size false) w.drew → wpTill P .any ops (Exit.then (R a) (fun _ _ _ => False)) S ops.size (Array.replicate ops.size false) a w.drew) : (Code.region id ops true).wp P Q a w := by
  refine wp_mono (wp_region_till hm hw h) ?_
  intro e a' w' h
  cases e with
  | normal => exact hR a' w' h
  | _ => exact h.elim
/- two that may come up -/
theorem till_pair {i j : Nat} {oi oj : Oper} {f : Nat} {L : Array Bool} {a : Act} {w : World} (hr : Region.ready md ops L = [i, j]) (hi : ops[i]? = some oi) (hj : ops[j]? = some oj)
    (h1 : ∀ K' : Act → World → Prop, Shut (∀ a w, S (L.setIfInBounds i true) w → (S (L.setIfInBounds i true) w → wpTill P md ops Q S f (L.setIfInBounds i true) a w) → K' a w) → if Region.wanted oi (yielded ops a.tmps) = true then Oper.wp P oi a w K' Q else K' (a.put oi.dst undef) w)
    (h2 : ∀ K' : Act → World → Prop, Shut (∀ a w, S (L.setIfInBounds j true) w → (S (L.setIfInBounds j true) w → wpTill P md ops Q S f (L.setIfInBounds j true) a w) → K' a w) → if Region.wanted oj (yielded ops a.tmps) = true then Oper.wp P oj a w K' Q else K' (a.put oj.dst undef) w) :
    wpTill P md ops Q S (f + 1) L a w := by
  refine ⟨fun h0 => (by rw [hr] at h0; cases h0), fun m hm => ?_⟩
  rw [hr] at hm
  simp only [List.mem_cons, List.not_mem_nil, or_false] at hm
  rcases hm with rfl | rfl
  · exact wpOp_step hi (fun K' hK => h1 K' (fun a w hS hW => hK a w ⟨hS, hW hS⟩))
  · exact wpOp_step hj (fun K' hK => h2 K' (fun a w hS hW => hK a w ⟨hS, hW hS⟩))
end
/- while FrameHeads runs -/
structure Hp (w W : World) (E : Nat → Addr) (a b c d e : Int) (sa : Option Addr) (n k : Nat) (x : Int) (y : Nat) (l : List Nat) : Prop where
  st : S8 W w.heap.size a b c d e sa n k x y
  sl : Sln W sa n l
  se : Sent W 4 E
  ms : Mst W
  ks : Kst W
  bel : Below w.heap.size w W
theorem S8.lt {W : World} {g : Nat} {a b c d e : Int} {sa : Option Addr} {n k : Nat} {x : Int} {y : Nat} (h : S8 W g a b c d e sa n k x y) : g < W.heap.size := cell_lt h.c0
theorem Hp.below {w W W' : World} {E : Nat → Addr} {a b c d e : Int} {sa : Option Addr} {n k : Nat} {x : Int} {y : Nat} {l : List Nat} (h : Hp w W E a b c d e sa n k x y l) (hb : Below W.heap.size W W') : Hp w W' E a b c d e sa n k x y l :=
  ⟨h.st.below hb h.st.lt, h.sl.below hb, h.se.below hb, h.ms.below hb h.ms.lt, h.ks.below hb (kst_pos h.ks), h.bel.trans (hb.mono h.bel.size)⟩
/- what stands behind the region that makes the longer frame: its variables, the world -/
def R8 (W : World) (af : Option Addr) (Nf cf g : Nat) (y : Nat) (L : List Nat) (a a' : Act) (w' : World) : Prop := ∃ (v47 v49 v52 : Value) (al : Option Addr) (cl : Nat),
  a' = (((((((a.put (some 47) v47).put (some 48) (.slice af Nf cf)).put (some 49) v49).put (some 50) (.pointer (some ⟨g, 7, none⟩))).put (some 51) (.int .u8 (y : Int))).put (some 52) v52).put (some 53) (.slice al (Nf + 1) cl)).put (some 7) (.slice al (Nf + 1) cl) ∧ Hid (Own w' W.heap.size al (Nf + 1) cl L ∧ Below W.heap.size W w')
set_option maxHeartbeats 4000000 in
theorem heads_not {w : World} {E : Nat → Addr} (a b c d e : Int) {sa : Option Addr} {n k : Nat} {l : List Nat} (x : Int) (y : Nat) (cut : Int) (hS : Hid (Sln w sa n l)) (hc : Hid (sa = none → k = 0)) (hnk : n ≤ k) (hE : Hid (Sent w 4 E)) (hM : Hid (Mst w)) (hK : Hid (Kst w)) (hno : Hid (okN [1, a, b, c, d, e, 0] = false ∨ 1024 < n)) :
    Calls Tryd.prog 7 #[.agg #[.int .i64 a, .int .i64 b, .int .i64 c, .int .i64 d, .int .i64 e, .slice sa n k, .int .i64 x, .int .u8 (y : Int)], .int .i64 cut] w fun en w' => en = .returned (.bool true) ∧ Hid (Below w.heap.size w w') := by
  obtain ⟨W0, HW0⟩ : ∃ W0, Hid (w.alloc (.cells #[.int .i64 a, .int .i64 b, .int .i64 c, .int .i64 d, .int .i64 e, .slice sa n k, .int .i64 x, .int .u8 (y : Int)] 54) = W0) := ⟨_, rfl⟩
  have G0 : Hid (Hp w W0 E (a : Int) (b : Int) (c : Int) (d : Int) (e : Int) sa n k x y l) := by
    have b0 : Below w.heap.size w W0 := by rw [← HW0.out]; exact (Below.refl _ w).alloc (Nat.le_refl _) _
    exact ⟨by rw [← HW0.out]; exact S8.new w a b c d e sa n k x y, hS.out.below b0, hE.out.below b0, hM.out.below b0 hM.out.lt, hK.out.below b0 (kst_pos hK.out), b0⟩
  have M0 : Hid (Mst W0) := G0.out.ms
  have K0 : Hid (Kst W0) := G0.out.ks
  go_enter Tryd.func7, Tryd.ntmps7
  go_upto_region 3 with (go_at_call 9; rw [HW0.out]; refine (alive_n M0 K0).mono ?_; rintro en w1 ⟨rfl, H1⟩)
  have G1 : Hid (Hp w w1 E (a : Int) (b : Int) (c : Int) (d : Int) (e : Int) sa n k x y l) := G0.out.below H1.out
  clear G0 M0 K0 HW0 H1
  have q0 := G1.out.st.c0
  have q1 := G1.out.st.c1
  have q2 := G1.out.st.c2
  have q3 := G1.out.st.c3
  have q4 := G1.out.st.c4
  have q5 := G1.out.st.c5
  have q6 := G1.out.st.c6
  have q7 := G1.out.st.c7
  obtain ⟨ok, HOK⟩ : ∃ ok, Hid (okN [1, a, b, c, d, e, 0] = ok) := ⟨_, rfl⟩
  rw [HOK.out] at hno
  cases ok with
  | false =>
    go_wp2_with (go_at_call 13; refine (refInForm_n a b c d e _).mono ?_; rintro en w2 ⟨rfl, H2⟩; rw [HOK.out])
    go_ret
    exact ⟨rfl, (G1.out.below H2.out).bel⟩
  | true =>
    have hl : 1024 < n := by
      rcases hno.out with h | h
      · cases h
      · exact h
    have i1 : (1024 : Int) < (n : Int) := by omega
    go_wp2_with (go_at_call 13; refine (refInForm_n a b c d e _).mono ?_; rintro en w2 ⟨rfl, H2⟩; rw [HOK.out]
                 have z5 : w2.cell? ⟨w.heap.size, 5, none⟩ = some (.slice sa n k) := (G1.out.below H2.out).st.c5)
    go_ret
    exact ⟨rfl, (G1.out.below H2.out).bel⟩
theorem head_pos (a b c d e n : Nat) : 0 < (headL [1, a, b, c, d, e, n]).length := by
  rcases Nat.eq_zero_or_pos (headL [1, a, b, c, d, e, n]).length with h | h
  · exfalso
    unfold headL at h
    simp at h
    have h2 := congrArg List.length h.2
    simp [sealL, be4] at h2
  · exact h
theorem app1 {U0 U : World} {g : Nat} {af : Option Addr} {Nf cf : Nat} {F : List Nat} (bk : Blk U g []) (hg : U0.heap.size ≤ g) (b : Below U0.heap.size U0 U) (hF : Sln U0 af Nf F) (hc : af = none → cf = 0) (hN : Nf ≤ 4000) :
    ∃ a2 c2 U2, Hid ((Builtin.append_ #[26, 26] 26 #[.slice (some ⟨g, 0, none⟩) 0 0, .slice af Nf cf]).run Tryd.prog U = .ok (.slice a2 Nf c2) U2) ∧ Own U2 U0.heap.size a2 Nf c2 F ∧ Below U0.heap.size U0 U2 ∧ U.grownBy U2 (some g) := by
  have o : Own U U0.heap.size (some ⟨g, 0, none⟩) 0 0 [] := bk.own hg rfl (by simp) (by omega)
  obtain ⟨a2, c2, U2, h1, h2, h3, h4⟩ := app_any (c2 := cf) o (hF.below b) hc (by omega) b.size
  rw [Nat.zero_add] at h1 h2
  exact ⟨a2, c2, U2, h1, by simpa using h2, b.grown h3 b.size (fun j hj => (o.ge j hj).1), h3⟩
theorem app2 {U0 U : World} {g5 y : Nat} {a2 : Option Addr} {Nf c2 : Nat} {F : List Nat} (o : Own U U0.heap.size a2 Nf c2 F) (b : Below U0.heap.size U0 U) (bk : Blk U g5 [y]) (hy : y < 256) (hN : Nf ≤ 4000) :
    ∃ a6 c6 U4, Hid ((Builtin.append_ #[26, 26] 26 #[.slice a2 Nf c2, .slice (some ⟨g5, 0, none⟩) 1 1]).run Tryd.prog U = .ok (.slice a6 (Nf + 1) c6) U4) ∧ Own U4 U0.heap.size a6 (Nf + 1) c6 (F ++ [y]) ∧ Below U0.heap.size U0 U4 := by
  have o5 : Own U 0 (some ⟨g5, 0, none⟩) 1 1 [y] := bk.own (Nat.zero_le _) rfl (by simp; exact hy) (by omega)
  obtain ⟨a6, c6, U4, h1, h2, h3, h4⟩ := app_any (c2 := 1) o (o5.sln (by omega)) (by simp) (by omega) b.size
  exact ⟨a6, c6, U4, h1, h2, b.grown h3 b.size (fun j hj => (o.ge j hj).1)⟩
theorem blk_new (U : World) (l : List Nat) : Blk (U.alloc (.cells (l.map bv).toArray 5)) U.heap.size l := heap_alloc_new U _
theorem below_new {U0 U : World} (b : Below U0.heap.size U0 U) (o : Obj) : Below U0.heap.size U0 (U.alloc o) := b.alloc b.size o
theorem blk_alloc {U : World} {g : Nat} {l : List Nat} (h : Blk U g l) (o : Obj) : Blk (U.alloc o) g l := h.below ((Below.refl U.heap.size U).alloc (Nat.le_refl _) o) h.lt
set_option maxHeartbeats 8000000 in
theorem heads_ok {w : World} {E : Nat → Addr} (a b c d e : Nat) {sa : Option Addr} {n k : Nat} {l : List Nat} (x : Int) (y : Nat) (cut : Int) (hS : Hid (Sln w sa n l)) (hc : Hid (sa = none → k = 0)) (hnk : n ≤ k) (hE : Hid (Sent w 4 E)) (hM : Hid (Mst w)) (hK : Hid (Kst w)) (hy : y < 256) (hok : okN [1, (a : Int), b, c, d, e, 0] = true) (hn : n ≤ 1024) :
    Calls Tryd.prog 7 #[.agg #[.int .i64 a, .int .i64 b, .int .i64 c, .int .i64 d, .int .i64 e, .slice sa n k, .int .i64 x, .int .u8 (y : Int)], .int .i64 cut] w fun en w' => en = .returned (.bool true) ∧ Hid (Below w.heap.size w w') := by
  obtain ⟨F, HF⟩ : ∃ F, Hid (frameL [1, a, b, c, d, e, n] l = F) := ⟨_, rfl⟩
  obtain ⟨p, HPp⟩ : ∃ p, Hid ((headL [1, a, b, c, d, e, n]).length = p) := ⟨_, rfl⟩
  have nl : Hid (n = l.length) := hS.out.len
  have FB : Hid (p ≤ F.length ∧ 0 < F.length) := by
    rw [← HF.out, ← HPp.out]
    unfold frameL
    rw [List.length_append]
    have h1 := head_pos a b c d e n
    exact ⟨by omega, by omega⟩
  have HD : Hid (hdF F = (0, [1, a, b, c, d, e, n], p)) := by
    rw [← HF.out, ← HPp.out]
    exact hdF_there hok hn (bodyL l)
  have LG : Hid (getS (F ++ [y]) = (Z5, [], 5) ∧ hdS (F ++ [y]) = ([a, b, c, d, e], n, 0)) := by rw [← HF.out]; exact long_get y hok hn nl.out
  have i1 : ¬ (1024 : Int) < (n : Int) := by omega
  obtain ⟨W0, HW0⟩ : ∃ W0, Hid (w.alloc (.cells #[.int .i64 a, .int .i64 b, .int .i64 c, .int .i64 d, .int .i64 e, .slice sa n k, .int .i64 x, .int .u8 (y : Int)] 54) = W0) := ⟨_, rfl⟩
  have G0 : Hid (Hp w W0 E (a : Int) (b : Int) (c : Int) (d : Int) (e : Int) sa n k x y l) := by
    have b0 : Below w.heap.size w W0 := by rw [← HW0.out]; exact (Below.refl _ w).alloc (Nat.le_refl _) _
    exact ⟨by rw [← HW0.out]; exact S8.new w a b c d e sa n k x y, hS.out.below b0, hE.out.below b0, hM.out.below b0 hM.out.lt, hK.out.below b0 (kst_pos hK.out), b0⟩
  have M0 : Hid (Mst W0) := G0.out.ms
  have K0 : Hid (Kst W0) := G0.out.ks
  go_enter Tryd.func7, Tryd.ntmps7
  go_upto_region 3 with (go_at_call 9; rw [HW0.out]; refine (alive_n M0 K0).mono ?_; rintro en w1 ⟨rfl, H1⟩)
  have G1 : Hid (Hp w w1 E (a : Int) (b : Int) (c : Int) (d : Int) (e : Int) sa n k x y l) := G0.out.below H1.out
  clear G0 M0 K0 HW0 H1
  have q0 := G1.out.st.c0
  have q1 := G1.out.st.c1
  have q2 := G1.out.st.c2
  have q3 := G1.out.st.c3
  have q4 := G1.out.st.c4
  have q5 := G1.out.st.c5
  have q6 := G1.out.st.c6
  have q7 := G1.out.st.c7
  go_upto_region 5 with (go_at_call 13; refine (refInForm_n (a : Int) (b : Int) (c : Int) (d : Int) (e : Int) _).mono ?_; rintro en w2 ⟨rfl, H2⟩; rw [hok]
                         have z5 : w2.cell? ⟨w.heap.size, 5, none⟩ = some (.slice sa n k) := (G1.out.below H2.out).st.c5)
  have G2 : Hid (Hp w w2 E (a : Int) (b : Int) (c : Int) (d : Int) (e : Int) sa n k x y l) := G1.out.below H2.out
  clear G1 q0 q1 q2 q3 q4 q5 q6 q7 z5 H2
  have q0 := G2.out.st.c0
  have q1 := G2.out.st.c1
  have q2 := G2.out.st.c2
  have q3 := G2.out.st.c3
  have q4 := G2.out.st.c4
  have q5 := G2.out.st.c5
  have q6 := G2.out.st.c6
  have q7 := G2.out.st.c7
  have MS : Hid (Mst w2) := G2.out.ms
  have KS : Hid (Kst w2) := G2.out.ks
  have SL : Hid (Sln w2 sa n l) := G2.out.sl
  go_upto_region 6 with (go_at_call 11; refine (put_ok a b c d e n k sa l MS KS SL hc hok hn).mono ?_; rintro en w3 ⟨af, Nf, cf, rfl, H3⟩)
  have G3 : Hid (Hp w w3 E (a : Int) (b : Int) (c : Int) (d : Int) (e : Int) sa n k x y l) := G2.out.below H3.out.2.2
  have O3 : Hid (Own w3 w2.heap.size af Nf cf F) := by rw [← HF.out]; exact H3.out.1
  have N3 : Nf ≤ 4000 := H3.out.2.1
  have Z2 : Hid (w.heap.size ≤ w2.heap.size) := G2.out.bel.size
  clear G2 q0 q1 q2 q3 q4 q5 q6 q7 MS KS SL H3
  go_upto_region 8 with (fail)
  have GD : Hid (Hp w w3.drew E (a : Int) (b : Int) (c : Int) (d : Int) (e : Int) sa n k x y l) := G3.out.below (Below.refl _ _).drew
  have OD : Hid (Own w3.drew w2.heap.size af Nf cf F) := O3.out.below (Below.refl _ _).drew
  clear G3 O3
  have FS : Sln w3.drew af Nf F := OD.out.sln (by omega)
  have FZ : Hid (af = none → cf = 0) := OD.out.cap0
  have FC : Nf ≤ cf := OD.out.cap
  refine wp_region_R (S := fun L W => S8 W w.heap.size (a : Int) (b : Int) (c : Int) (d : Int) (e : Int) sa n k x y) (by kernel_rfl) (R8 w3.drew af Nf cf w.heap.size y (F ++ [y])) ?hR GD.out.st (fun hS => ?h)
  case h =>
    refine till_take (i := 1) (v := .slice af Nf cf) rfl (by kernel_rfl) (by kernel_rfl) (by kernel_rfl) (fun _ _ _ h => h) (fun L w => Iff.rfl) (Or.inl ⟨by rfl, fun w => by go_simp⟩) hS (fun hSb => ?_)
    simp only [List.getElem_toArray, List.getElem_cons_zero, List.getElem_cons_succ, Act.put, List.setIfInBounds_toArray, List.set_cons_zero, List.set_cons_succ]
    clear hS
    refine till_take (i := 3) (v := .pointer (some ⟨w.heap.size, 7, none⟩)) rfl (by kernel_rfl) (by kernel_rfl) (by kernel_rfl) (fun _ _ _ h => h) (fun L w => Iff.rfl) (Or.inl ⟨by rfl, fun w => by go_simp⟩) hSb (fun hS => ?_)
    simp only [List.getElem_toArray, List.getElem_cons_zero, List.getElem_cons_succ, Act.put, List.setIfInBounds_toArray, List.set_cons_zero, List.set_cons_succ]
    clear hSb
    refine till_read (i := 4) (c := 5) (v := .int .u8 (y : Int)) (T := fun W => S8 W w.heap.size (a : Int) (b : Int) (c : Int) (d : Int) (e : Int) sa n k x y) rfl rfl (by kernel_rfl) (by kernel_rfl) (by kernel_rfl) (by kernel_rfl) (by kernel_rfl) (fun _ _ _ h => h) (fun L w => Iff.rfl) (fun L w h1 h2 => h2) (Or.inl ⟨by rfl, fun w h => by have q7 := h.c7; go_simp⟩) hS (fun hSb => ?_)
    simp only [List.getElem_toArray, List.getElem_cons_zero, List.getElem_cons_succ, Act.put, List.setIfInBounds_toArray, List.set_cons_zero, List.set_cons_succ]
    clear hS
    refine till_pair (i := 0) (j := 5) (by kernel_rfl) rfl rfl (fun K hK => ?_) (fun K hK => ?_)
    · simp only [List.getElem_toArray, List.getElem_cons_zero, List.getElem_cons_succ]
      rw [if_pos (by rfl)]
      have kE0 := blk_new w3.drew []
      obtain ⟨U1, HU1⟩ : ∃ U, Hid ((w3.alloc (.cells #[] 5)).drew = U) := ⟨_, rfl⟩
      go_simp
      rw [HU1.out]
      have b1 : Below w3.drew.heap.size w3.drew U1 := by rw [← HU1.out]; exact below_new (Below.refl _ w3.drew) (.cells #[] 5)
      have kE : Blk U1 w3.heap.size [] := by rw [← HU1.out]; exact kE0
      refine hK.out _ _ (GD.out.st.below b1 GD.out.st.lt) (fun hS1 => ?_)
      clear hK K
      try simp only [List.getElem_toArray, List.getElem_cons_zero, List.getElem_cons_succ, Act.put, List.setIfInBounds_toArray, List.set_cons_zero, List.set_cons_succ]
      refine till_pair (i := 2) (j := 5) (by kernel_rfl) rfl rfl (fun K hK => ?_) (fun K hK => ?_)
      · simp only [List.getElem_toArray, List.getElem_cons_zero, List.getElem_cons_succ]
        rw [if_pos (by rfl)]
        obtain ⟨a2, c2, U2, AP1, o2, b2, g2⟩ := app1 (U0 := w3.drew) kE (Nat.le_refl _) b1 FS FZ.out N3
        refine op_app (.tmp 47) (.tmp 48) (by rfl) (by rfl) (by rfl) (by rfl) AP1 ?_
        refine hK.out _ _ (GD.out.st.below b2 GD.out.st.lt) (fun hS2 => ?_)
        clear hK K
        try simp only [List.getElem_toArray, List.getElem_cons_zero, List.getElem_cons_succ, Act.put, List.setIfInBounds_toArray, List.set_cons_zero, List.set_cons_succ]
        refine till_one (i := 5) (by kernel_rfl) rfl (fun K hK => ?_)
        simp only [List.getElem_toArray, List.getElem_cons_zero, List.getElem_cons_succ]
        rw [if_pos (by rfl)]
        obtain ⟨U3, HU3⟩ : ∃ U, Hid (U2.alloc (.cells #[.int .u8 (y : Int)] 5) = U) := ⟨_, rfl⟩
        go_simp
        rw [HU3.out]
        have bP : Below w3.drew.heap.size w3.drew U3 := by rw [← HU3.out]; exact below_new b2 (.cells #[.int .u8 (y : Int)] 5)
        have kY : Blk U3 U2.heap.size [y] := by rw [← HU3.out]; exact blk_new U2 [y]
        have oP : Own U3 w3.drew.heap.size a2 Nf c2 F := by rw [← HU3.out]; exact o2.below ((Below.refl _ U2).alloc (Nat.le_refl _) _)
        refine hK.out _ _ (GD.out.st.below bP GD.out.st.lt) (fun hS3 => ?_)
        clear hK K
        try simp only [List.getElem_toArray, List.getElem_cons_zero, List.getElem_cons_succ, Act.put, List.setIfInBounds_toArray, List.set_cons_zero, List.set_cons_succ]
        refine till_one (i := 6) (by kernel_rfl) rfl (fun K hK => ?_)
        simp only [List.getElem_toArray, List.getElem_cons_zero, List.getElem_cons_succ]
        rw [if_pos (by rfl)]
        obtain ⟨a6, c6, U4, AP2, O6, b6⟩ := app2 oP bP kY hy N3
        refine op_app (.tmp 49) (.tmp 52) (by rfl) (by rfl) (by rfl) (by rfl) AP2 ?_
        refine hK.out _ _ (GD.out.st.below b6 GD.out.st.lt) (fun hS6 => ?_)
        clear hK K
        try simp only [List.getElem_toArray, List.getElem_cons_zero, List.getElem_cons_succ, Act.put, List.setIfInBounds_toArray, List.set_cons_zero, List.set_cons_succ]
        refine till_one (i := 7) (by kernel_rfl) rfl (fun K hK => ?_)
        simp only [List.getElem_toArray, List.getElem_cons_zero, List.getElem_cons_succ]
        rw [if_pos (by rfl)]
        go_simp
        refine hK.out _ _ (hS6) (fun hS7 => ?_)
        clear hK K
        try simp only [List.getElem_toArray, List.getElem_cons_zero, List.getElem_cons_succ, Act.put, List.setIfInBounds_toArray, List.set_cons_zero, List.set_cons_succ]
        refine till_done (by kernel_rfl) ?_ _
        exact ⟨.slice (some ⟨w3.heap.size, 0, none⟩) 0 0, .slice a2 Nf c2, .slice (some ⟨U2.heap.size, 0, none⟩) 1 1, a6, c6, by simp only [Act.put, List.setIfInBounds_toArray, List.set_cons_zero, List.set_cons_succ], O6, b6⟩
      · simp only [List.getElem_toArray, List.getElem_cons_zero, List.getElem_cons_succ]
        rw [if_pos (by rfl)]
        obtain ⟨U2, HU2⟩ : ∃ U, Hid (U1.alloc (.cells #[.int .u8 (y : Int)] 5) = U) := ⟨_, rfl⟩
        go_simp
        rw [HU2.out]
        have b2 : Below w3.drew.heap.size w3.drew U2 := by rw [← HU2.out]; exact below_new b1 (.cells #[.int .u8 (y : Int)] 5)
        have kY2 : Blk U2 U1.heap.size [y] := by rw [← HU2.out]; exact blk_new U1 [y]
        have kE2 : Blk U2 w3.heap.size [] := by rw [← HU2.out]; exact blk_alloc kE _
        have ne5 : U1.heap.size ≠ w3.heap.size := by have := kE.lt; omega
        refine hK.out _ _ (GD.out.st.below b2 GD.out.st.lt) (fun hS2 => ?_)
        clear hK K
        try simp only [List.getElem_toArray, List.getElem_cons_zero, List.getElem_cons_succ, Act.put, List.setIfInBounds_toArray, List.set_cons_zero, List.set_cons_succ]
        refine till_one (i := 2) (by kernel_rfl) rfl (fun K hK => ?_)
        simp only [List.getElem_toArray, List.getElem_cons_zero, List.getElem_cons_succ]
        rw [if_pos (by rfl)]
        obtain ⟨a2, c2, U3, AP1, oP, bP, g2⟩ := app1 (U0 := w3.drew) kE2 (Nat.le_refl _) b2 FS FZ.out N3
        have kY : Blk U3 U1.heap.size [y] := (g2.block _ kY2.lt (fun h => ne5 (Option.some.inj h))).trans kY2
        refine op_app (.tmp 47) (.tmp 48) (by rfl) (by rfl) (by rfl) (by rfl) AP1 ?_
        refine hK.out _ _ (GD.out.st.below bP GD.out.st.lt) (fun hS3 => ?_)
        clear hK K
        try simp only [List.getElem_toArray, List.getElem_cons_zero, List.getElem_cons_succ, Act.put, List.setIfInBounds_toArray, List.set_cons_zero, List.set_cons_succ]
        refine till_one (i := 6) (by kernel_rfl) rfl (fun K hK => ?_)
        simp only [List.getElem_toArray, List.getElem_cons_zero, List.getElem_cons_succ]
        rw [if_pos (by rfl)]
        obtain ⟨a6, c6, U4, AP2, O6, b6⟩ := app2 oP bP kY hy N3
        refine op_app (.tmp 49) (.tmp 52) (by rfl) (by rfl) (by rfl) (by rfl) AP2 ?_
        refine hK.out _ _ (GD.out.st.below b6 GD.out.st.lt) (fun hS6 => ?_)
        clear hK K
        try simp only [List.getElem_toArray, List.getElem_cons_zero, List.getElem_cons_succ, Act.put, List.setIfInBounds_toArray, List.set_cons_zero, List.set_cons_succ]
        refine till_one (i := 7) (by kernel_rfl) rfl (fun K hK => ?_)
        simp only [List.getElem_toArray, List.getElem_cons_zero, List.getElem_cons_succ]
        rw [if_pos (by rfl)]
        go_simp
        refine hK.out _ _ (hS6) (fun hS7 => ?_)
        clear hK K
        try simp only [List.getElem_toArray, List.getElem_cons_zero, List.getElem_cons_succ, Act.put, List.setIfInBounds_toArray, List.set_cons_zero, List.set_cons_succ]
        refine till_done (by kernel_rfl) ?_ _
        exact ⟨.slice (some ⟨w3.heap.size, 0, none⟩) 0 0, .slice a2 Nf c2, .slice (some ⟨U1.heap.size, 0, none⟩) 1 1, a6, c6, by simp only [Act.put, List.setIfInBounds_toArray, List.set_cons_zero, List.set_cons_succ], O6, b6⟩
    · simp only [List.getElem_toArray, List.getElem_cons_zero, List.getElem_cons_succ]
      rw [if_pos (by rfl)]
      obtain ⟨U1, HU1⟩ : ∃ U, Hid ((w3.alloc (.cells #[.int .u8 (y : Int)] 5)).drew = U) := ⟨_, rfl⟩
      go_simp
      rw [HU1.out]
      have b1 : Below w3.drew.heap.size w3.drew U1 := by rw [← HU1.out]; exact below_new (Below.refl _ w3.drew) (.cells #[.int .u8 (y : Int)] 5)
      have kY1 : Blk U1 w3.heap.size [y] := by rw [← HU1.out]; exact blk_new w3.drew [y]
      refine hK.out _ _ (GD.out.st.below b1 GD.out.st.lt) (fun hS1 => ?_)
      clear hK K
      try simp only [List.getElem_toArray, List.getElem_cons_zero, List.getElem_cons_succ, Act.put, List.setIfInBounds_toArray, List.set_cons_zero, List.set_cons_succ]
      refine till_one (i := 0) (by kernel_rfl) rfl (fun K hK => ?_)
      simp only [List.getElem_toArray, List.getElem_cons_zero, List.getElem_cons_succ]
      rw [if_pos (by rfl)]
      obtain ⟨U2, HU2⟩ : ∃ U, Hid (U1.alloc (.cells #[] 5) = U) := ⟨_, rfl⟩
      go_simp
      rw [HU2.out]
      have b2 : Below w3.drew.heap.size w3.drew U2 := by rw [← HU2.out]; exact below_new b1 (.cells #[] 5)
      have kE2 : Blk U2 U1.heap.size [] := by rw [← HU2.out]; exact blk_new U1 []
      have kY2 : Blk U2 w3.heap.size [y] := by rw [← HU2.out]; exact blk_alloc kY1 _
      have ne5 : w3.heap.size ≠ U1.heap.size := by have := kY1.lt; omega
      refine hK.out _ _ (GD.out.st.below b2 GD.out.st.lt) (fun hS2 => ?_)
      clear hK K
      try simp only [List.getElem_toArray, List.getElem_cons_zero, List.getElem_cons_succ, Act.put, List.setIfInBounds_toArray, List.set_cons_zero, List.set_cons_succ]
      refine till_one (i := 2) (by kernel_rfl) rfl (fun K hK => ?_)
      simp only [List.getElem_toArray, List.getElem_cons_zero, List.getElem_cons_succ]
      rw [if_pos (by rfl)]
      obtain ⟨a2, c2, U3, AP1, oP, bP, g2⟩ := app1 (U0 := w3.drew) kE2 b1.size b2 FS FZ.out N3
      have kY : Blk U3 w3.heap.size [y] := (g2.block _ kY2.lt (fun h => ne5 (Option.some.inj h))).trans kY2
      refine op_app (.tmp 47) (.tmp 48) (by rfl) (by rfl) (by rfl) (by rfl) AP1 ?_
      refine hK.out _ _ (GD.out.st.below bP GD.out.st.lt) (fun hS3 => ?_)
      clear hK K
      try simp only [List.getElem_toArray, List.getElem_cons_zero, List.getElem_cons_succ, Act.put, List.setIfInBounds_toArray, List.set_cons_zero, List.set_cons_succ]
      refine till_one (i := 6) (by kernel_rfl) rfl (fun K hK => ?_)
      simp only [List.getElem_toArray, List.getElem_cons_zero, List.getElem_cons_succ]
      rw [if_pos (by rfl)]
      obtain ⟨a6, c6, U4, AP2, O6, b6⟩ := app2 oP bP kY hy N3
      refine op_app (.tmp 49) (.tmp 52) (by rfl) (by rfl) (by rfl) (by rfl) AP2 ?_
      refine hK.out _ _ (GD.out.st.below b6 GD.out.st.lt) (fun hS6 => ?_)
      clear hK K
      try simp only [List.getElem_toArray, List.getElem_cons_zero, List.getElem_cons_succ, Act.put, List.setIfInBounds_toArray, List.set_cons_zero, List.set_cons_succ]
      refine till_one (i := 7) (by kernel_rfl) rfl (fun K hK => ?_)
      simp only [List.getElem_toArray, List.getElem_cons_zero, List.getElem_cons_succ]
      rw [if_pos (by rfl)]
      go_simp
      refine hK.out _ _ (hS6) (fun hS7 => ?_)
      clear hK K
      try simp only [List.getElem_toArray, List.getElem_cons_zero, List.getElem_cons_succ, Act.put, List.setIfInBounds_toArray, List.set_cons_zero, List.set_cons_succ]
      refine till_done (by kernel_rfl) ?_ _
      exact ⟨.slice (some ⟨U1.heap.size, 0, none⟩) 0 0, .slice a2 Nf c2, .slice (some ⟨w3.heap.size, 0, none⟩) 1 1, a6, c6, by simp only [Act.put, List.setIfInBounds_toArray, List.set_cons_zero, List.set_cons_succ], O6, b6⟩
  case hR =>
    rintro a' w4 ⟨v47, v49, v52, al, cl, rfl, H4⟩
    simp only [List.getElem_toArray, List.getElem_cons_zero, List.getElem_cons_succ, Act.put, List.setIfInBounds_toArray, List.set_cons_zero, List.set_cons_succ]
    have G4 : Hid (Hp w w4 E (a : Int) (b : Int) (c : Int) (d : Int) (e : Int) sa n k x y l) := GD.out.below H4.out.2
    have O4 : Hid (Own w4 w2.heap.size af Nf cf F) := OD.out.below H4.out.2
    have OL : Hid (Own w4 w3.drew.heap.size al (Nf + 1) cl (F ++ [y])) := H4.out.1
    have NF : Hid (Nf = F.length) := OD.out.len
    clear GD OD H4 FS
    have SLg : Hid (Sln w4 al (Nf + 1) (F ++ [y])) := OL.out.sln (by omega)
    have ZLg : Hid (al = none → cl = 0) := OL.out.cap0
    have CLg : Nf + 1 ≤ cl := OL.out.cap
    have MS : Hid (Mst w4) := G4.out.ms
    have KS : Hid (Kst w4) := G4.out.ks
    have SE : Hid (Sent w4 4 E) := G4.out.se
    go_upto_region 10 with (first
      | (go_at_call 15; refine (get_all SLg ZLg CLg MS SE (by omega) KS).mono ?_; rintro en w5 ⟨ab, mb, cb, v1, rfl, H5⟩
         rw [LG.out.1]
         have V1 : Hid (v1 = er (E 3)) := by have h := H5.out.1; rw [LG.out.1] at h; exact h
         obtain rfl := V1.out
         have bG : Hid (Below w4.heap.size w4 w5) := H5.out.2.2
         clear H5 V1
         have A1 : Hid (Arr .i64 25 (w5.alloc (.cells (cs .i64 Z5) 25)) w5.heap.size Z5) := Arr.new _ _ _ _
         obtain ⟨U5, HV1⟩ : ∃ V, Hid ((w5.alloc (.cells (cs .i64 Z5) 25)).setRow w5.heap.size (cs .i64 Z5) = V) := ⟨_, rfl⟩
         have b1 : Hid (Below w5.heap.size w5 U5) := by rw [← HV1.out]; exact below_arr w5 _ _ _ _
         have D1 : Hid (Arr .i64 25 U5 w5.heap.size Z5) := by rw [← HV1.out]; exact A1.out.setRow _)
      | (refine wpList_st0 (k := .i64) (t := 25) (l := Z5) (l2 := Z5) (by rfl) (by rfl) 25 (.tmp 8) (.tmp 57) (by rfl) (by rfl) (by rfl) A1 sz25s (by rfl) ?_; refine (show _ = U5 from HV1.out) ▸ ?_))
    have G5 : Hid (Hp w U5 E (a : Int) (b : Int) (c : Int) (d : Int) (e : Int) sa n k x y l) := (G4.out.below bG.out).below b1.out
    have O5 : Hid (Own U5 w2.heap.size af Nf cf F) := (O4.out.below bG.out).below b1.out
    have OL5 : Hid (Own U5 w3.drew.heap.size al (Nf + 1) cl (F ++ [y])) := (OL.out.below bG.out).below b1.out
    clear G4 O4 OL bG b1 HV1 A1 D1 SLg MS KS SE
    have SLg : Hid (Sln U5 al (Nf + 1) (F ++ [y])) := OL5.out.sln (by omega)
    have MS : Hid (Mst U5) := G5.out.ms
    have SE : Hid (Sent U5 4 E) := G5.out.se
    go_upto_region 11 with (first
      | (go_at_call 16; refine (head_all SLg ZLg CLg MS SE (by omega)).mono ?_; rintro en w6 ⟨v2, rfl, H6⟩
         rw [LG.out.2]
         have V2 : Hid (v2 = .nilIface) := by have h := H6.out.1; rw [LG.out.2] at h; exact h
         obtain rfl := V2.out
         have bG : Hid (Below U5.heap.size U5 w6) := H6.out.2
         clear H6 V2
         have A2 : Hid (Arr .i64 25 (w6.alloc (.cells (cs .i64 Z5) 25)) w6.heap.size Z5) := Arr.new _ _ _ _
         obtain ⟨U6, HV2⟩ : ∃ V, Hid ((w6.alloc (.cells (cs .i64 Z5) 25)).setRow w6.heap.size (cs .i64 [a, b, c, d, e]) = V) := ⟨_, rfl⟩
         have b2 : Hid (Below w6.heap.size w6 U6) := by rw [← HV2.out]; exact below_arr w6 _ _ _ _
         have D2 : Hid (Arr .i64 25 U6 w6.heap.size [a, b, c, d, e]) := by rw [← HV2.out]; exact A2.out.setRow _)
      | (refine wpList_st0 (k := .i64) (t := 25) (l := Z5) (l2 := [a, b, c, d, e]) (by rfl) (by rfl) 25 (.tmp 11) (.tmp 63) (by rfl) (by rfl) (by rfl) A2 sz25s (by rfl) ?_; refine (show _ = U6 from HV2.out) ▸ ?_))
    have G6 : Hid (Hp w U6 E (a : Int) (b : Int) (c : Int) (d : Int) (e : Int) sa n k x y l) := (G5.out.below bG.out).below b2.out
    have O6 : Hid (Own U6 w2.heap.size af Nf cf F) := (O5.out.below bG.out).below b2.out
    clear G5 O5 OL5 bG b2 HV2 A2 SLg MS SE
    have SF : Hid (Sln U6 af Nf F) := O6.out.sln (by omega)
    go_upto_region 12 with (first
      | (go_at_call 19; refine (refhead_ok SF FZ FC HD).mono ?_; rintro en w7 ⟨rfl, H7⟩
         have bG : Hid (Below U6.heap.size U6 w7) := H7.out
         clear H7
         have A3 : Hid (Arr .i64 25 (w7.alloc (.cells (cs .i64 Z5) 25)) w7.heap.size Z5) := Arr.new _ _ _ _
         obtain ⟨U7, HV3⟩ : ∃ V, Hid ((w7.alloc (.cells (cs .i64 Z5) 25)).setRow w7.heap.size (cs .i64 [a, b, c, d, e]) = V) := ⟨_, rfl⟩
         have b3 : Hid (Below w7.heap.size w7 U7) := by rw [← HV3.out]; exact below_arr w7 _ _ _ _
         have D3 : Hid (Arr .i64 25 U7 w7.heap.size [a, b, c, d, e]) := by rw [← HV3.out]; exact A3.out.setRow _)
      | (refine wpList_st0 (k := .i64) (t := 25) (l := Z5) (l2 := [a, b, c, d, e]) (by rfl) (by rfl) 25 (.tmp 14) (.tmp 69) (by rfl) (by rfl) (by rfl) A3 sz25s (by rfl) ?_; refine (show _ = U7 from HV3.out) ▸ ?_))
    have G7 : Hid (Hp w U7 E (a : Int) (b : Int) (c : Int) (d : Int) (e : Int) sa n k x y l) := (G6.out.below bG.out).below b3.out
    have O7 : Hid (Own U7 w2.heap.size af Nf cf F) := (O6.out.below bG.out).below b3.out
    have D7 : Hid (Arr .i64 25 U7 w6.heap.size [a, b, c, d, e]) := (D2.out.below bG.out D2.out.lt).below b3.out (Nat.lt_of_lt_of_le D2.out.lt bG.out.size)
    clear G6 O6 bG b3 HV3 A3 D3 D2 SF
    have EQ := fun w' => eq25 (a : Int) b c d e w'
    have NQ := fun w' => neq_same w' (E 3)
    have ce := G7.out.se.c 3 (by omega)
    unfold er at ce ⊢
    have u0 : U7.cell? ⟨w6.heap.size, 0, none⟩ = some (.int .i64 (a : Int)) := D7.out.cell (i := 0) (by simp)
    have u1 : U7.cell? ⟨w6.heap.size, 1, none⟩ = some (.int .i64 (b : Int)) := D7.out.cell (i := 1) (by simp)
    have u2 : U7.cell? ⟨w6.heap.size, 2, none⟩ = some (.int .i64 (c : Int)) := D7.out.cell (i := 2) (by simp)
    have u3 : U7.cell? ⟨w6.heap.size, 3, none⟩ = some (.int .i64 (d : Int)) := D7.out.cell (i := 3) (by simp)
    have u4 : U7.cell? ⟨w6.heap.size, 4, none⟩ = some (.int .i64 (e : Int)) := D7.out.cell (i := 4) (by simp)
    have q0 := G7.out.st.c0
    have q1 := G7.out.st.c1
    have q2 := G7.out.st.c2
    have q3 := G7.out.st.c3
    have q4 := G7.out.st.c4
    have q5 := G7.out.st.c5
    have q6 := G7.out.st.c6
    have q7 := G7.out.st.c7
    go_upto_region 14 with (fail)
    clear u0 u1 u2 u3 u4 q0 q1 q2 q3 q4 q5 q6 q7 D7 ce NQ
    have nf0 : 0 < Nf := by rw [NF.out]; exact FB.out.2
    obtain ⟨r, sI, qI, hrr⟩ := slip_at cut Nf nf0
    obtain ⟨hr1, hr2, hr3, hr4, hr5, hr6⟩ := hrr
    have eZ : ¬ ((Nf : Int) = 0) := by omega
    have eZ' : ¬ (Nf = 0) := by omega
    go_upto_region 15 with (fail)
    clear hr1 hr2 hr3 hr4 hr5 eZ eZ'
    obtain ⟨gf, hgf, hgB, _, _⟩ := O7.out.cell nf0
    obtain rfl := hgf
    have CG0 : Hid (∀ q, q < F.length → (getS (F.take q)).2.2 ≠ 0) := fun q hq => by
      have hb := O7.out.lt
      rw [← HF.out] at hq hb ⊢
      exact cut_get hok hn nl.out hb hq
    have CN0 : Hid (∀ q, q < p → (hdS (F.take q)).2.2 ≠ 0) := fun q hq => by
      have hb := O7.out.lt
      rw [← HPp.out] at hq
      rw [← HF.out] at hb ⊢
      exact cut_head_no hok hn hb hq
    have CY0 : Hid (∀ q, p ≤ q → hdS (F.take q) = ([a, b, c, d, e], n, 0)) := fun q hq => by
      rw [← HPp.out] at hq
      rw [← HF.out]
      exact cut_head_yes hok hn hq
    have CG : Hid ((getS (F.take qI)).2.2 ≠ 0) := CG0.out qI (by rw [← NF.out]; exact hr6)
    have qc : qI ≤ cf := by omega
    have SQ : Hid (Sln U7 (some ⟨gf, 0, none⟩) qI (F.take qI)) := (O7.out.sln (by omega)).take (by omega)
    have ZQ : Hid ((some (⟨gf, 0, none⟩ : Addr)) = none → qI = 0) := fun h => by cases h
    by_cases hp : qI < p
    · have ip : (qI : Int) < (p : Int) := by omega
      have CH : Hid ((hdS (F.take qI)).2.2 ≠ 0) := CN0.out qI hp
      obtain ⟨s1, s2, s3, s4, s5, hs⟩ := getS_five (F.take qI)
      obtain ⟨k3, HK3⟩ : ∃ k3, Hid ((getS (F.take qI)).2.2 = k3) := ⟨_, rfl⟩
      have HS3 : Hid ((getS (F.take qI)).1 = [s1, s2, s3, s4, s5]) := hs
      have k30 : Hid (k3 ≠ 0) := by rw [← HK3.out]; exact CG.out
      have E3 : Hid ((getS (F.take qI)).2.1 = []) := getS_nil CG.out
      clear hs
      have MS : Hid (Mst U7) := G7.out.ms
      have KS : Hid (Kst U7) := G7.out.ks
      have SE : Hid (Sent U7 4 E) := G7.out.se
      go_upto_region 16 with (first
        | (go_at_call 15; refine (get_all SQ ZQ (Nat.le_refl _) MS SE (by omega) KS).mono ?_; rintro en w8 ⟨ab, mb, cb, v1, rfl, H8⟩
           rw [HS3.out]
           have V1 : Hid (v1 = .iface 130 (.pointer (some (E (era k3))))) := by have h := H8.out.1; rw [HK3.out, erv_pos k30.out] at h; exact h
           obtain rfl := V1.out
           have mb0 : Hid (mb = 0) := by have h := H8.out.2.1.len; rw [E3.out] at h; exact h
           obtain rfl := mb0.out
           have bG : Hid (Below U7.heap.size U7 w8) := H8.out.2.2
           clear H8 V1
           have A4 : Hid (Arr .i64 25 (w8.alloc (.cells (cs .i64 Z5) 25)) w8.heap.size Z5) := Arr.new _ _ _ _
           obtain ⟨U8, HV4⟩ : ∃ V, Hid ((w8.alloc (.cells (cs .i64 Z5) 25)).setRow w8.heap.size (cs .i64 [s1, s2, s3, s4, s5]) = V) := ⟨_, rfl⟩
           have b4 : Hid (Below w8.heap.size w8 U8) := by rw [← HV4.out]; exact below_arr w8 _ _ _ _
           have D4 : Hid (Arr .i64 25 U8 w8.heap.size [s1, s2, s3, s4, s5]) := by rw [← HV4.out]; exact A4.out.setRow _)
        | (refine wpList_st0 (k := .i64) (t := 25) (l := Z5) (l2 := [s1, s2, s3, s4, s5]) (by rfl) (by rfl) 25 (.tmp 19) (.tmp 113) (by rfl) (by rfl) (by rfl) A4 sz25s (by rfl) ?_; refine (show _ = U8 from HV4.out) ▸ ?_))
      have G8 : Hid (Hp w U8 E (a : Int) (b : Int) (c : Int) (d : Int) (e : Int) sa n k x y l) := (G7.out.below bG.out).below b4.out
      have SQ8 : Hid (Sln U8 (some ⟨gf, 0, none⟩) qI (F.take qI)) := (SQ.out.below bG.out).below b4.out
      clear G7 O7 bG b4 HV4 A4 D4 SQ MS KS SE
      have MS : Hid (Mst U8) := G8.out.ms
      have SE : Hid (Sent U8 4 E) := G8.out.se
      obtain ⟨t1, t2, t3, t4, t5, ht⟩ := hdS_five (F.take qI)
      obtain ⟨k4, HK4⟩ : ∃ k4, Hid ((hdS (F.take qI)).2.2 = k4) := ⟨_, rfl⟩
      obtain ⟨n4, HN4⟩ : ∃ n4, Hid ((hdS (F.take qI)).2.1 = n4) := ⟨_, rfl⟩
      have HT4 : Hid ((hdS (F.take qI)).1 = [t1, t2, t3, t4, t5]) := ht
      have k40 : Hid (k4 ≠ 0) := by rw [← HK4.out]; exact CH.out
      clear ht
      go_upto_region 17 with (first
        | (go_at_call 16; refine (head_all SQ8 ZQ (Nat.le_refl _) MS SE (by omega)).mono ?_; rintro en w9 ⟨v2, rfl, H9⟩
           rw [HT4.out, HN4.out]
           have V2 : Hid (v2 = .iface 130 (.pointer (some (E (era k4))))) := by have h := H9.out.1; rw [HK4.out, erv_pos k40.out] at h; exact h
           obtain rfl := V2.out
           have bG : Hid (Below U8.heap.size U8 w9) := H9.out.2
           clear H9 V2
           have A5 : Hid (Arr .i64 25 (w9.alloc (.cells (cs .i64 Z5) 25)) w9.heap.size Z5) := Arr.new _ _ _ _
           obtain ⟨U9, HV5⟩ : ∃ V, Hid ((w9.alloc (.cells (cs .i64 Z5) 25)).setRow w9.heap.size (cs .i64 [t1, t2, t3, t4, t5]) = V) := ⟨_, rfl⟩
           have b5 : Hid (Below w9.heap.size w9 U9) := by rw [← HV5.out]; exact below_arr w9 _ _ _ _
           have D5 : Hid (Arr .i64 25 U9 w9.heap.size [t1, t2, t3, t4, t5]) := by rw [← HV5.out]; exact A5.out.setRow _)
        | (refine wpList_st0 (k := .i64) (t := 25) (l := Z5) (l2 := [t1, t2, t3, t4, t5]) (by rfl) (by rfl) 25 (.tmp 22) (.tmp 122) (by rfl) (by rfl) (by rfl) A5 sz25s (by rfl) ?_; refine (show _ = U9 from HV5.out) ▸ ?_))
      have G9 : Hid (Hp w U9 E (a : Int) (b : Int) (c : Int) (d : Int) (e : Int) sa n k x y l) := (G8.out.below bG.out).below b5.out
      have q0 := G9.out.st.c0
      have q1 := G9.out.st.c1
      have q2 := G9.out.st.c2
      have q3 := G9.out.st.c3
      have q4 := G9.out.st.c4
      have q5 := G9.out.st.c5
      have q6 := G9.out.st.c6
      have q7 := G9.out.st.c7
      clear G8 SQ8 bG b5 HV5 A5 MS SE
      go_wp2
      go_ret
      exact ⟨rfl, G9.out.bel⟩
    · have ip : ¬ ((qI : Int) < (p : Int)) := by omega
      have ip2 : (p : Int) ≤ (qI : Int) := by omega
      have CH : Hid (hdS (F.take qI) = ([a, b, c, d, e], n, 0)) := CY0.out qI (by omega)
      obtain ⟨s1, s2, s3, s4, s5, hs⟩ := getS_five (F.take qI)
      obtain ⟨k3, HK3⟩ : ∃ k3, Hid ((getS (F.take qI)).2.2 = k3) := ⟨_, rfl⟩
      have HS3 : Hid ((getS (F.take qI)).1 = [s1, s2, s3, s4, s5]) := hs
      have k30 : Hid (k3 ≠ 0) := by rw [← HK3.out]; exact CG.out
      have E3 : Hid ((getS (F.take qI)).2.1 = []) := getS_nil CG.out
      clear hs
      have MS : Hid (Mst U7) := G7.out.ms
      have KS : Hid (Kst U7) := G7.out.ks
      have SE : Hid (Sent U7 4 E) := G7.out.se
      go_upto_region 16 with (first
        | (go_at_call 15; refine (get_all SQ ZQ (Nat.le_refl _) MS SE (by omega) KS).mono ?_; rintro en w8 ⟨ab, mb, cb, v1, rfl, H8⟩
           rw [HS3.out]
           have V1 : Hid (v1 = .iface 130 (.pointer (some (E (era k3))))) := by have h := H8.out.1; rw [HK3.out, erv_pos k30.out] at h; exact h
           obtain rfl := V1.out
           have mb0 : Hid (mb = 0) := by have h := H8.out.2.1.len; rw [E3.out] at h; exact h
           obtain rfl := mb0.out
           have bG : Hid (Below U7.heap.size U7 w8) := H8.out.2.2
           clear H8 V1
           have A4 : Hid (Arr .i64 25 (w8.alloc (.cells (cs .i64 Z5) 25)) w8.heap.size Z5) := Arr.new _ _ _ _
           obtain ⟨U8, HV4⟩ : ∃ V, Hid ((w8.alloc (.cells (cs .i64 Z5) 25)).setRow w8.heap.size (cs .i64 [s1, s2, s3, s4, s5]) = V) := ⟨_, rfl⟩
           have b4 : Hid (Below w8.heap.size w8 U8) := by rw [← HV4.out]; exact below_arr w8 _ _ _ _
           have D4 : Hid (Arr .i64 25 U8 w8.heap.size [s1, s2, s3, s4, s5]) := by rw [← HV4.out]; exact A4.out.setRow _)
        | (refine wpList_st0 (k := .i64) (t := 25) (l := Z5) (l2 := [s1, s2, s3, s4, s5]) (by rfl) (by rfl) 25 (.tmp 19) (.tmp 113) (by rfl) (by rfl) (by rfl) A4 sz25s (by rfl) ?_; refine (show _ = U8 from HV4.out) ▸ ?_))
      have G8 : Hid (Hp w U8 E (a : Int) (b : Int) (c : Int) (d : Int) (e : Int) sa n k x y l) := (G7.out.below bG.out).below b4.out
      have SQ8 : Hid (Sln U8 (some ⟨gf, 0, none⟩) qI (F.take qI)) := (SQ.out.below bG.out).below b4.out
      clear G7 O7 bG b4 HV4 A4 D4 SQ MS KS SE
      have MS : Hid (Mst U8) := G8.out.ms
      have SE : Hid (Sent U8 4 E) := G8.out.se
      go_upto_region 17 with (first
        | (go_at_call 16; refine (head_all SQ8 ZQ (Nat.le_refl _) MS SE (by omega)).mono ?_; rintro en w9 ⟨v2, rfl, H9⟩
           rw [CH.out]
           have V2 : Hid (v2 = .nilIface) := by have h := H9.out.1; rw [CH.out] at h; exact h
           obtain rfl := V2.out
           have bG : Hid (Below U8.heap.size U8 w9) := H9.out.2
           clear H9 V2
           have A5 : Hid (Arr .i64 25 (w9.alloc (.cells (cs .i64 Z5) 25)) w9.heap.size Z5) := Arr.new _ _ _ _
           obtain ⟨U9, HV5⟩ : ∃ V, Hid ((w9.alloc (.cells (cs .i64 Z5) 25)).setRow w9.heap.size (cs .i64 [a, b, c, d, e]) = V) := ⟨_, rfl⟩
           have b5 : Hid (Below w9.heap.size w9 U9) := by rw [← HV5.out]; exact below_arr w9 _ _ _ _
           have D5 : Hid (Arr .i64 25 U9 w9.heap.size [a, b, c, d, e]) := by rw [← HV5.out]; exact A5.out.setRow _)
        | (refine wpList_st0 (k := .i64) (t := 25) (l := Z5) (l2 := [a, b, c, d, e]) (by rfl) (by rfl) 25 (.tmp 22) (.tmp 122) (by rfl) (by rfl) (by rfl) A5 sz25s (by rfl) ?_; refine (show _ = U9 from HV5.out) ▸ ?_))
      have G9 : Hid (Hp w U9 E (a : Int) (b : Int) (c : Int) (d : Int) (e : Int) sa n k x y l) := (G8.out.below bG.out).below b5.out
      have u0 : U9.cell? ⟨w9.heap.size, 0, none⟩ = some (.int .i64 (a : Int)) := D5.out.cell (i := 0) (by simp)
      have u1 : U9.cell? ⟨w9.heap.size, 1, none⟩ = some (.int .i64 (b : Int)) := D5.out.cell (i := 1) (by simp)
      have u2 : U9.cell? ⟨w9.heap.size, 2, none⟩ = some (.int .i64 (c : Int)) := D5.out.cell (i := 2) (by simp)
      have u3 : U9.cell? ⟨w9.heap.size, 3, none⟩ = some (.int .i64 (d : Int)) := D5.out.cell (i := 3) (by simp)
      have u4 : U9.cell? ⟨w9.heap.size, 4, none⟩ = some (.int .i64 (e : Int)) := D5.out.cell (i := 4) (by simp)
      have q0 := G9.out.st.c0
      have q1 := G9.out.st.c1
      have q2 := G9.out.st.c2
      have q3 := G9.out.st.c3
      have q4 := G9.out.st.c4
      have q5 := G9.out.st.c5
      have q6 := G9.out.st.c6
      have q7 := G9.out.st.c7
      clear G8 SQ8 bG b5 HV5 A5 MS SE
      go_wp2
      go_ret
      exact ⟨rfl, G9.out.bel⟩
end Go.Proofs.YtmkknklkdgkbaaaDoor

/- Kc -/
/- FrameHeads for every slip and every number. -/
namespace Go.Proofs.YtmkknklkdgkbaaaDoor
open Go.ChangeShapes Go.WideShapes Go.ChangeAt Go.RowKit
set_option linter.unusedVariables false
theorem heads_n {w : World} {E : Nat → Addr} (a b c d e : Int) {sa : Option Addr} {n k : Nat} {l : List Nat} (x : Int) (y : Nat) (cut : Int) (hS : Hid (Sln w sa n l)) (hc : Hid (sa = none → k = 0)) (hnk : n ≤ k) (hE : Hid (Sent w 4 E)) (hM : Hid (Mst w)) (hK : Hid (Kst w)) (hy : y < 256) :
    Calls Tryd.prog 7 #[.agg #[.int .i64 a, .int .i64 b, .int .i64 c, .int .i64 d, .int .i64 e, .slice sa n k, .int .i64 x, .int .u8 (y : Int)], .int .i64 cut] w fun en w' => en = .returned (.bool true) ∧ Hid (Below w.heap.size w w') := by
  cases h : okN [1, a, b, c, d, e, 0] with
  | false => exact heads_not a b c d e x y cut hS hc hnk hE hM hK (.inl h)
  | true =>
    by_cases hn : 1024 < n
    · exact heads_not a b c d e x y cut hS hc hnk hE hM hK (.inr hn)
    · have h1 := (okN_iff _ _ _ _ _).1 h
      obtain ⟨a, rfl⟩ := Int.eq_ofNat_of_zero_le h1.1.1
      obtain ⟨b, rfl⟩ := Int.eq_ofNat_of_zero_le h1.2.1.1
      obtain ⟨c, rfl⟩ := Int.eq_ofNat_of_zero_le h1.2.2.1.1
      obtain ⟨d, rfl⟩ := Int.eq_ofNat_of_zero_le h1.2.2.2.1.1
      obtain ⟨e, rfl⟩ := Int.eq_ofNat_of_zero_le h1.2.2.2.2.1
      exact heads_ok a b c d e x y cut hS hc hnk hE hM hK hy h (by omega)
end Go.Proofs.YtmkknklkdgkbaaaDoor
