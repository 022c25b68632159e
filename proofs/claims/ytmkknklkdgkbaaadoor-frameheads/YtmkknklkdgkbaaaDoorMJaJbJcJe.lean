import Derived.Test.YtmkknklkdgkbaaaDoorMIaIc
/- Ja -/
/- One byte of a body changed: where it is still taken, two pieces have one sum. -/
namespace Go.Proofs.YtmkknklkdgkbaaaDoor
open Go.ChangeShapes Go.WideShapes Go.ChangeAt Go.RowKit
set_option linter.unusedVariables false
set_option linter.unusedSimpArgs false
theorem pb_set_ne (X : List Nat) (j t i : Nat) (h : i ≠ j / 64) : pb (X.set j t) i = pb X i := by
  unfold pb
  apply List.ext_getElem?
  intro r
  by_cases hr : r < 64
  · rw [List.getElem?_take_of_lt hr, List.getElem?_take_of_lt hr, List.getElem?_drop, List.getElem?_drop, List.getElem?_set_ne (by omega)]
  · rw [List.getElem?_eq_none (by simp; omega), List.getElem?_eq_none (by simp; omega)]
theorem pb_set_eq (X : List Nat) (j t : Nat) : pb (X.set j t) (j / 64) = (pb X (j / 64)).set (j % 64) t := by
  unfold pb
  have h : j = 64 * (j / 64) + j % 64 := by omega
  have h1 : (X.set j t).drop (64 * (j / 64)) = (X.drop (64 * (j / 64))).set (j % 64) t := by
    rw [List.drop_set, if_neg (by omega)]
    congr 1
    omega
  rw [h1, List.take_set]
theorem set_self_ne {l : List Nat} {i t : Nat} (h : i < l.length) (hne : l.getD i 0 ≠ t) : l.set i t ≠ l := by
  intro h1
  apply hne
  have h2 : (l.set i t).getD i 0 = l.getD i 0 := by rw [h1]
  rw [← h2]
  simp [List.getD, h]
/- two pieces that differ, of one sum -/
def hit (a b : List Nat) (i : Nat) : Bool := decide (pc a i ≠ pc b i ∧ Gs.sum (pc a i) = Gs.sum (pc b i))
theorem slip_hit {l : List Nat} {j t : Nat} (hj : j < (bodyL l).length) (hne : (bodyL l).getD j 0 ≠ t) (hg : goodB ((bodyL l).set j t) (blks l.length) = true) :
    (shK ((bodyL l).set j t) (blks l.length)).length = l.length ∧ ∃ m, m < blks l.length ∧ hit (shK ((bodyL l).set j t) (blks l.length)) l m = true := by
  have hl : ((bodyL l).set j t).length = l.length + 32 * blks l.length := by rw [List.length_set, bodyL_len]
  have gg := goodB_t hg
  have bk := bodyL_back hl gg
  have jl := hj
  rw [bodyL_len] at jl
  have hm : j / 64 < blks l.length := by unfold blks at jl ⊢; omega
  refine ⟨bk.2, j / 64, hm, ?_⟩
  have e1 := pbk_there hm
  have e2 := pbd_there hm
  have g1 := gg _ hm
  unfold gdB at g1
  rw [decide_eq_true_eq] at g1
  have pl : (pb ((bodyL l).set j t) (j / 64)).length = (pb (bodyL l) (j / 64)).length := by rw [pb_set_eq, List.length_set]
  have rl : j % 64 < (pb (bodyL l) (j / 64)).length := by
    unfold pb
    rw [List.length_take, List.length_drop]
    have := hj
    omega
  have rv : (pb (bodyL l) (j / 64)).getD (j % 64) 0 ≠ t := by
    unfold pb
    rw [List.getD, List.getElem?_take_of_lt (by omega), List.getElem?_drop, show 64 * (j / 64) + j % 64 = j by omega]
    exact hne
  by_cases hr : j % 64 < (pb (bodyL l) (j / 64)).length - 32
  · have f1 : pbk ((bodyL l).set j t) (j / 64) = (pbk (bodyL l) (j / 64)).set (j % 64) t := by
      unfold pbk
      rw [pl, pb_set_eq, List.take_set]
    have f2 : pbd ((bodyL l).set j t) (j / 64) = pbd (bodyL l) (j / 64) := by
      unfold pbd
      rw [pl, pb_set_eq, List.drop_set, if_pos hr]
    have f3 : pbk ((bodyL l).set j t) (j / 64) ≠ pbk (bodyL l) (j / 64) := by
      rw [f1]
      refine set_self_ne (by unfold pbk; rw [List.length_take]; omega) ?_
      unfold pbk
      rw [List.getD, List.getElem?_take_of_lt hr]
      exact rv
    unfold hit
    rw [decide_eq_true_eq, pc_back hl hm]
    rw [e1] at f3
    rw [f2, e2] at g1
    exact ⟨f3, g1⟩
  · exfalso
    have f1 : pbk ((bodyL l).set j t) (j / 64) = pbk (bodyL l) (j / 64) := by
      unfold pbk
      rw [pl, pb_set_eq, List.take_set, List.set_eq_of_length_le (by rw [List.length_take]; omega)]
    have f2 : pbd ((bodyL l).set j t) (j / 64) = (pbd (bodyL l) (j / 64)).set (j % 64 - ((pb (bodyL l) (j / 64)).length - 32)) t := by
      unfold pbd
      rw [pl, pb_set_eq, List.drop_set, if_neg hr]
    rw [f1, e1, f2] at g1
    rw [e2] at g1
    have f4 : (Gs.sum (pc l (j / 64))).set (j % 64 - ((pb (bodyL l) (j / 64)).length - 32)) t ≠ Gs.sum (pc l (j / 64)) := by
      rw [← e2]
      refine set_self_ne (by unfold pbd; rw [List.length_drop]; omega) ?_
      unfold pbd
      rw [List.getD, List.getElem?_drop, show (pb (bodyL l) (j / 64)).length - 32 + (j % 64 - ((pb (bodyL l) (j / 64)).length - 32)) = j % 64 by omega]
      exact rv
    exact f4 g1.symm
/- what Get answers of a frame whose body has turned -/
theorem getS_body {a b c d e : Nat} {l X : List Nat} (h : okN [1, (a : Int), b, c, d, e, 0] = true) (hn : l.length ≤ 1024) (hX : X.length = (bodyL l).length) :
    getS (headL [1, a, b, c, d, e, l.length] ++ X) = if goodB X (blks l.length) = true then ([a, b, c, d, e], shK X (blks l.length), 0) else (Z5, [], 6) := by
  have e1 := hdF_there h hn X
  have e3 : (headL [1, a, b, c, d, e, l.length] ++ X).drop (headL [1, a, b, c, d, e, l.length]).length = X := by rw [List.drop_left]
  have e4 : (headL [1, a, b, c, d, e, l.length] ++ X).length - (headL [1, a, b, c, d, e, l.length]).length = l.length + 32 * blks l.length := by
    rw [List.length_append, hX, bodyL_len]; omega
  unfold getS
  rw [if_neg (by rw [e1]; simp), if_neg (by rw [e1]; exact fun h => h e4), e1]
  dsimp only
  rw [e3]
  rfl
end Go.Proofs.YtmkknklkdgkbaaaDoor

/- Jb -/
/- met: two rows of bytes that have somewhere two pieces that differ, of one sum. -/
namespace Go.Proofs.YtmkknklkdgkbaaaDoor
open Go.ChangeShapes Go.WideShapes Go.ChangeAt Go.RowKit
set_option maxRecDepth 20000
set_option linter.unusedVariables false
set_option linter.unusedSimpArgs false
/- a row of rows: the pieces of l -/
def PcS (W : World) (g k : Nat) (l : List Nat) : Prop := ∀ i, i < k → ∃ a e c, W.cell? ⟨g, i, none⟩ = some (.slice a e c) ∧ Sln W a e (pc l i) ∧ (a = none → c = 0)
theorem PcS.below {W W' : World} {g k : Nat} {l : List Nat} (h : PcS W g k l) (hb : Below W.heap.size W W') : PcS W' g k l := fun i hi => by
  obtain ⟨a, e, c, h1, h2, h3⟩ := h i hi
  exact ⟨a, e, c, (hb.cell (p := ⟨g, i, none⟩) (cell_lt h1)).trans h1, h2.below hb, h3⟩
theorem Bls.pcs {W : World} {B g k cap : Nat} {l : List Nat} {vs : List Value} (h : Bls W B g k cap l vs) : PcS W g k l := fun i hi => by
  obtain ⟨a, e, c, h1, h2⟩ := h.cell hi
  exact ⟨a, e, c, h1, h2.sln (by rw [h2.len, pc_len]; omega), h2.cap0⟩
structure Mt (w W : World) (g1 k1 : Nat) (la : List Nat) (g2 k2 : Nat) (lb : List Nat) : Prop where
  p1 : PcS W g1 k1 la
  p2 : PcS W g2 k2 lb
  bel : Below w.heap.size w W
theorem Mt.below {w W W' : World} {g1 k1 g2 k2 : Nat} {la lb : List Nat} (h : Mt w W g1 k1 la g2 k2 lb) (hb : Below W.heap.size W W') : Mt w W' g1 k1 la g2 k2 lb := ⟨h.p1.below hb, h.p2.below hb, h.bel.trans (hb.mono h.bel.size)⟩
/- two pieces -/
structure Pq (W : World) (g1 g2 j : Nat) (a1 : Option Addr) (e1 c1 : Nat) (a2 : Option Addr) (e2 c2 : Nat) (P1 P2 : List Nat) : Prop where
  p1 : W.cell? ⟨g1, j, none⟩ = some (.slice a1 e1 c1)
  p2 : W.cell? ⟨g2, j, none⟩ = some (.slice a2 e2 c2)
  s1 : Sln W a1 e1 P1
  s2 : Sln W a2 e2 P2
section
variable {W W' : World} {g1 g2 j e1 c1 e2 c2 : Nat} {a1 a2 : Option Addr} {P1 P2 : List Nat}
theorem Pq.v1 (h : Pq W g1 g2 j a1 e1 c1 a2 e2 c2 P1 P2) : (convert 26 9 (.slice a1 e1 c1)).run Tryd.prog W = .ok (.string (spell P1)) W := conv_n (show Hid (Sln W a1 e1 P1) from h.s1)
theorem Pq.v2 (h : Pq W g1 g2 j a1 e1 c1 a2 e2 c2 P1 P2) : (convert 26 9 (.slice a2 e2 c2)).run Tryd.prog W = .ok (.string (spell P2)) W := conv_n (show Hid (Sln W a2 e2 P2) from h.s2)
theorem Pq.below (h : Pq W g1 g2 j a1 e1 c1 a2 e2 c2 P1 P2) (hb : Below W.heap.size W W') : Pq W' g1 g2 j a1 e1 c1 a2 e2 c2 P1 P2 :=
  ⟨(hb.cell (p := ⟨g1, j, none⟩) (cell_lt h.p1)).trans h.p1, (hb.cell (p := ⟨g2, j, none⟩) (cell_lt h.p2)).trans h.p2, h.s1.below hb, h.s2.below hb⟩
end
set_option maxHeartbeats 4000000 in
theorem met_n {w : World} {a b : Option Addr} {n c n2 c2' : Nat} {la lb : List Nat} (hA : Hid (Sln w a n la)) (zA : Hid (a = none → c = 0)) (cA : n ≤ c) (hB : Hid (Sln w b n2 lb)) (zB : Hid (b = none → c2' = 0)) (cB : n2 ≤ c2') {m : Nat} (hm1 : m < blks n) (hm2 : m < blks n2) (hit0 : Hid (hit la lb m = true)) :
    Calls Tryd.prog 23 #[.slice a n c, .slice b n2 c2'] w fun en w' => en = .returned (.bool true) ∧ Hid (Below w.heap.size w w') := by
  go_enter Tryd.func23, Tryd.ntmps23
  have BA : Hid (∀ x ∈ la, x < 256) := hA.out.lt
  have BB : Hid (∀ x ∈ lb, x < 256) := hB.out.lt
  go_wp2_with (first
    | (go_at_call 21; refine (refBlocks_n hB1 zB cB).mono ?_; rintro en w2 ⟨g2, cp2, rfl, H2⟩)
    | (go_at_call 21; refine (refBlocks_n hA zA cA).mono ?_; rintro en w1 ⟨g1, cp1, rfl, H1⟩
       have hB1 : Hid (Sln w1 b n2 lb) := by obtain ⟨vs, _, hb⟩ := H1.out; exact hB.out.below hb))
  obtain ⟨k1, HK1⟩ : ∃ k, Hid (blks n = k) := ⟨_, rfl⟩
  obtain ⟨k2, HK2⟩ : ∃ k, Hid (blks n2 = k) := ⟨_, rfl⟩
  have G : Hid (Mt w w2 g1 k1 la g2 k2 lb) := by
    obtain ⟨v1, p1, b1⟩ := H1.out
    obtain ⟨v2, p2, b2⟩ := H2.out
    rw [HK1.out] at p1
    rw [HK2.out] at p2
    exact ⟨p1.pcs.below b2, p2.pcs, b1.trans (b2.mono b1.size)⟩
  rw [HK1.out] at hm1 ⊢
  rw [HK2.out] at hm2 ⊢
  have KB : Hid (k1 ≤ 4398046511104 ∧ k2 ≤ 4398046511104) := by
    have h1 := hA.out.sli.2.1
    have h2 := hB.out.sli.2.1
    have h3 := hA.out.len
    have h4 := hB.out.len
    rw [← HK1.out, ← HK2.out]
    unfold blks
    exact ⟨by omega, by omega⟩
  clear H1 H2 hB1 HK1 HK2 hA hB
  have kb := KB.out
  go_loopw [7] (fun i wr => ∃ j : Nat, j ≤ m ∧ i = .int .i64 j ∧ Hid (Mt w wr g1 k1 la g2 k2 lb)) (fun i _ => m - (intOf i).toNat)
  case atStart => exact ⟨0, by omega, rfl, G.out⟩
  case round =>
    clear G
    obtain ⟨j, hj, rfl, HJ⟩ := hrel
    have i1 : (j : Int) < (k1 : Int) := by omega
    have i2 : (j : Int) < (k2 : Int) := by omega
    obtain ⟨a1, e1, c1, q1, s1, z1⟩ := HJ.out.p1 j (by omega)
    obtain ⟨a2, e2, c2, q2, s2, z2⟩ := HJ.out.p2 j (by omega)
    have Z1 : Hid (a1 = none → c1 = 0) := z1
    have Z2 : Hid (a2 = none → c2 = 0) := z2
    have PJ : Hid (Pq wr g1 g2 j a1 e1 c1 a2 e2 c2 (pc la j) (pc lb j)) := ⟨q1, q2, s1, s2⟩
    have HT : Hid (j = m → pc la j ≠ pc lb j ∧ Gs.sum (pc la j) = Gs.sum (pc lb j)) := fun h => by
      have h1 := hit0.out
      unfold hit at h1
      rw [decide_eq_true_eq] at h1
      rw [h]
      exact h1
    have B1 : Hid (∀ x ∈ pc la j, x < 256) := pc_bytes BA.out j
    have B2 : Hid (∀ x ∈ pc lb j, x < 256) := pc_bytes BB.out j
    obtain ⟨P1, HP1⟩ : ∃ P, Hid (pc la j = P) := ⟨_, rfl⟩
    obtain ⟨P2, HP2⟩ : ∃ P, Hid (pc lb j = P) := ⟨_, rfl⟩
    rw [HP1.out] at PJ HT B1
    rw [HP2.out] at PJ HT B2
    clear HP1 HP2 q1 q2 s1 s2 z1 z2
    go_upto_region 5 with (fail)
    have bd : Below wr.heap.size wr wr.drew := (Below.refl _ _).drew
    have PD : Hid (Pq wr.drew g1 g2 j a1 e1 c1 a2 e2 c2 P1 P2) := PJ.out.below bd
    have MD : Hid (Mt w wr.drew g1 k1 la g2 k2 lb) := HJ.out.below bd
    have SD1 : Hid (Sln wr.drew a1 e1 P1) := PD.out.s1
    clear bd PJ HJ
    by_cases hP : P1 = P2
    · have BE : ((spell P1).toList == (spell P2).toList) = true := by rw [spell_beq B1.out B2.out]; simp [hP]
      have JM : Hid (j ≠ m) := fun h => (HT.out h).1 hP
      clear hP
      refine wp_region_till (S := fun L W => Pq W g1 g2 j a1 e1 c1 a2 e2 c2 P1 P2) (by kernel_rfl) PD.out (fun hS => ?_)
      refine till_take (i := 0) (v := .slice (some ⟨g1, 0, none⟩) k1 cp1) rfl (by kernel_rfl) (by kernel_rfl) (by kernel_rfl) (fun _ _ _ h => h) (fun L w => Iff.rfl) (Or.inl ⟨by rfl, fun w => by go_simp⟩) hS (fun hSb => ?_)
      simp only [List.getElem_toArray, List.getElem_cons_zero, List.getElem_cons_succ, Act.put, List.setIfInBounds_toArray, List.set_cons_zero, List.set_cons_succ]
      clear hS
      refine till_take (i := 1) (v := .int .i64 (j : Int)) rfl (by kernel_rfl) (by kernel_rfl) (by kernel_rfl) (fun _ _ _ h => h) (fun L w => Iff.rfl) (Or.inl ⟨by rfl, fun w => by go_simp⟩) hSb (fun hS => ?_)
      simp only [List.getElem_toArray, List.getElem_cons_zero, List.getElem_cons_succ, Act.put, List.setIfInBounds_toArray, List.set_cons_zero, List.set_cons_succ]
      clear hSb
      refine till_take (i := 2) (v := .pointer (some ⟨g1, j, none⟩)) rfl (by kernel_rfl) (by kernel_rfl) (by kernel_rfl) (fun _ _ _ h => h) (fun L w => Iff.rfl) (Or.inl ⟨by rfl, fun w => by go_simp⟩) hS (fun hSb => ?_)
      simp only [List.getElem_toArray, List.getElem_cons_zero, List.getElem_cons_succ, Act.put, List.setIfInBounds_toArray, List.set_cons_zero, List.set_cons_succ]
      clear hS
      refine till_read (i := 3) (c := 4) (v := .slice a1 e1 c1) (T := fun W => Pq W g1 g2 j a1 e1 c1 a2 e2 c2 P1 P2) rfl rfl (by kernel_rfl) (by kernel_rfl) (by kernel_rfl) (by kernel_rfl) (by kernel_rfl) (fun _ _ _ h => h) (fun L w => Iff.rfl) (fun L w h1 h2 => h2) (Or.inl ⟨by rfl, fun w h => by have q := h.p1; go_simp⟩) hSb (fun hS => ?_)
      simp only [List.getElem_toArray, List.getElem_cons_zero, List.getElem_cons_succ, Act.put, List.setIfInBounds_toArray, List.set_cons_zero, List.set_cons_succ]
      clear hSb
      refine till_read (i := 4) (c := 10) (v := .string (spell P1)) (T := fun W => Pq W g1 g2 j a1 e1 c1 a2 e2 c2 P1 P2) rfl rfl (by kernel_rfl) (by kernel_rfl) (by kernel_rfl) (by kernel_rfl) (by kernel_rfl) (fun _ _ _ h => h) (fun L w => Iff.rfl) (fun L w h1 h2 => h2) (Or.inl ⟨by rfl, fun w h => by have q := h.v1; go_simp⟩) hS (fun hSb => ?_)
      simp only [List.getElem_toArray, List.getElem_cons_zero, List.getElem_cons_succ, Act.put, List.setIfInBounds_toArray, List.set_cons_zero, List.set_cons_succ]
      clear hS
      refine till_take (i := 5) (v := .slice (some ⟨g2, 0, none⟩) k2 cp2) rfl (by kernel_rfl) (by kernel_rfl) (by kernel_rfl) (fun _ _ _ h => h) (fun L w => Iff.rfl) (Or.inl ⟨by rfl, fun w => by go_simp⟩) hSb (fun hS => ?_)
      simp only [List.getElem_toArray, List.getElem_cons_zero, List.getElem_cons_succ, Act.put, List.setIfInBounds_toArray, List.set_cons_zero, List.set_cons_succ]
      clear hSb
      refine till_take (i := 6) (v := .int .i64 (j : Int)) rfl (by kernel_rfl) (by kernel_rfl) (by kernel_rfl) (fun _ _ _ h => h) (fun L w => Iff.rfl) (Or.inl ⟨by rfl, fun w => by go_simp⟩) hS (fun hSb => ?_)
      simp only [List.getElem_toArray, List.getElem_cons_zero, List.getElem_cons_succ, Act.put, List.setIfInBounds_toArray, List.set_cons_zero, List.set_cons_succ]
      clear hS
      refine till_take (i := 7) (v := .pointer (some ⟨g2, j, none⟩)) rfl (by kernel_rfl) (by kernel_rfl) (by kernel_rfl) (fun _ _ _ h => h) (fun L w => Iff.rfl) (Or.inl ⟨by rfl, fun w => by go_simp⟩) hSb (fun hS => ?_)
      simp only [List.getElem_toArray, List.getElem_cons_zero, List.getElem_cons_succ, Act.put, List.setIfInBounds_toArray, List.set_cons_zero, List.set_cons_succ]
      clear hSb
      refine till_read (i := 8) (c := 9) (v := .slice a2 e2 c2) (T := fun W => Pq W g1 g2 j a1 e1 c1 a2 e2 c2 P1 P2) rfl rfl (by kernel_rfl) (by kernel_rfl) (by kernel_rfl) (by kernel_rfl) (by kernel_rfl) (fun _ _ _ h => h) (fun L w => Iff.rfl) (fun L w h1 h2 => h2) (Or.inl ⟨by rfl, fun w h => by have q := h.p2; go_simp⟩) hS (fun hSb => ?_)
      simp only [List.getElem_toArray, List.getElem_cons_zero, List.getElem_cons_succ, Act.put, List.setIfInBounds_toArray, List.set_cons_zero, List.set_cons_succ]
      clear hS
      refine till_read (i := 9) (c := 10) (v := .string (spell P2)) (T := fun W => Pq W g1 g2 j a1 e1 c1 a2 e2 c2 P1 P2) rfl rfl (by kernel_rfl) (by kernel_rfl) (by kernel_rfl) (by kernel_rfl) (by kernel_rfl) (fun _ _ _ h => h) (fun L w => Iff.rfl) (fun L w h1 h2 => h2) (Or.inl ⟨by rfl, fun w h => by have q := h.v2; go_simp⟩) hSb (fun hS => ?_)
      simp only [List.getElem_toArray, List.getElem_cons_zero, List.getElem_cons_succ, Act.put, List.setIfInBounds_toArray, List.set_cons_zero, List.set_cons_succ]
      clear hSb
      refine till_take (i := 10) (v := .bool false) rfl (by kernel_rfl) (by kernel_rfl) (by kernel_rfl) (fun _ _ _ h => h) (fun L w => Iff.rfl) (Or.inl ⟨by rfl, fun w => by go_simp⟩) hS (fun hSb => ?_)
      simp only [List.getElem_toArray, List.getElem_cons_zero, List.getElem_cons_succ, Act.put, List.setIfInBounds_toArray, List.set_cons_zero, List.set_cons_succ]
      clear hS
      refine till_take (i := 11) (v := .bool false) rfl (by kernel_rfl) (by kernel_rfl) (by kernel_rfl) (fun _ _ _ h => h) (fun L w => Iff.rfl) (Or.inl ⟨by rfl, fun w => by go_simp⟩) hSb (fun hS => ?_)
      simp only [List.getElem_toArray, List.getElem_cons_zero, List.getElem_cons_succ, Act.put, List.setIfInBounds_toArray, List.set_cons_zero, List.set_cons_succ]
      clear hSb
      refine till_take (i := 12) (v := undef) rfl (by kernel_rfl) (by kernel_rfl) (by kernel_rfl) (fun _ _ _ h => h) (fun L w => Iff.rfl) (Or.inr ⟨by rfl, rfl⟩) hS (fun hSb => ?_)
      simp only [List.getElem_toArray, List.getElem_cons_zero, List.getElem_cons_succ, Act.put, List.setIfInBounds_toArray, List.set_cons_zero, List.set_cons_succ]
      clear hS
      refine till_take (i := 13) (v := undef) rfl (by kernel_rfl) (by kernel_rfl) (by kernel_rfl) (fun _ _ _ h => h) (fun L w => Iff.rfl) (Or.inr ⟨by rfl, rfl⟩) hSb (fun hS => ?_)
      simp only [List.getElem_toArray, List.getElem_cons_zero, List.getElem_cons_succ, Act.put, List.setIfInBounds_toArray, List.set_cons_zero, List.set_cons_succ]
      clear hSb
      refine till_take (i := 14) (v := undef) rfl (by kernel_rfl) (by kernel_rfl) (by kernel_rfl) (fun _ _ _ h => h) (fun L w => Iff.rfl) (Or.inr ⟨by rfl, rfl⟩) hS (fun hSb => ?_)
      simp only [List.getElem_toArray, List.getElem_cons_zero, List.getElem_cons_succ, Act.put, List.setIfInBounds_toArray, List.set_cons_zero, List.set_cons_succ]
      clear hS
      refine till_take (i := 15) (v := undef) rfl (by kernel_rfl) (by kernel_rfl) (by kernel_rfl) (fun _ _ _ h => h) (fun L w => Iff.rfl) (Or.inr ⟨by rfl, rfl⟩) hSb (fun hS => ?_)
      simp only [List.getElem_toArray, List.getElem_cons_zero, List.getElem_cons_succ, Act.put, List.setIfInBounds_toArray, List.set_cons_zero, List.set_cons_succ]
      clear hSb
      refine till_take (i := 17) (v := undef) rfl (by kernel_rfl) (by kernel_rfl) (by kernel_rfl) (fun _ _ _ h => h) (fun L w => Iff.rfl) (Or.inr ⟨by rfl, rfl⟩) hS (fun hSb => ?_)
      simp only [List.getElem_toArray, List.getElem_cons_zero, List.getElem_cons_succ, Act.put, List.setIfInBounds_toArray, List.set_cons_zero, List.set_cons_succ]
      clear hS
      refine till_take (i := 18) (v := undef) rfl (by kernel_rfl) (by kernel_rfl) (by kernel_rfl) (fun _ _ _ h => h) (fun L w => Iff.rfl) (Or.inr ⟨by rfl, rfl⟩) hSb (fun hS => ?_)
      simp only [List.getElem_toArray, List.getElem_cons_zero, List.getElem_cons_succ, Act.put, List.setIfInBounds_toArray, List.set_cons_zero, List.set_cons_succ]
      clear hSb
      refine till_take (i := 19) (v := undef) rfl (by kernel_rfl) (by kernel_rfl) (by kernel_rfl) (fun _ _ _ h => h) (fun L w => Iff.rfl) (Or.inr ⟨by rfl, rfl⟩) hS (fun hSb => ?_)
      simp only [List.getElem_toArray, List.getElem_cons_zero, List.getElem_cons_succ, Act.put, List.setIfInBounds_toArray, List.set_cons_zero, List.set_cons_succ]
      clear hS
      refine till_take (i := 20) (v := undef) rfl (by kernel_rfl) (by kernel_rfl) (by kernel_rfl) (fun _ _ _ h => h) (fun L w => Iff.rfl) (Or.inr ⟨by rfl, rfl⟩) hSb (fun hS => ?_)
      simp only [List.getElem_toArray, List.getElem_cons_zero, List.getElem_cons_succ, Act.put, List.setIfInBounds_toArray, List.set_cons_zero, List.set_cons_succ]
      clear hSb
      refine till_one (i := 16) (by kernel_rfl) rfl (fun K hK => ?_)
      simp only [List.getElem_toArray, List.getElem_cons_zero, List.getElem_cons_succ]
      rw [if_neg (Bool.eq_false_iff.mp (by rfl))]
      refine hK.out _ _ hS (fun hSb => ?_)
      clear hK K
      try simp only [List.getElem_toArray, List.getElem_cons_zero, List.getElem_cons_succ, Act.put, List.setIfInBounds_toArray, List.set_cons_zero, List.set_cons_succ]
      clear hS
      refine till_one (i := 21) (by kernel_rfl) rfl (fun K hK => ?_)
      simp only [List.getElem_toArray, List.getElem_cons_zero, List.getElem_cons_succ]
      rw [if_neg (Bool.eq_false_iff.mp (by rfl))]
      refine hK.out _ _ hSb (fun hS => ?_)
      clear hK K
      try simp only [List.getElem_toArray, List.getElem_cons_zero, List.getElem_cons_succ, Act.put, List.setIfInBounds_toArray, List.set_cons_zero, List.set_cons_succ]
      clear hSb
      refine till_one (i := 22) (by kernel_rfl) rfl (fun K hK => ?_)
      simp only [List.getElem_toArray, List.getElem_cons_zero, List.getElem_cons_succ]
      rw [if_neg (Bool.eq_false_iff.mp (by rfl))]
      refine hK.out _ _ hS (fun hSb => ?_)
      clear hK K
      try simp only [List.getElem_toArray, List.getElem_cons_zero, List.getElem_cons_succ, Act.put, List.setIfInBounds_toArray, List.set_cons_zero, List.set_cons_succ]
      clear hS
      refine till_one (i := 23) (by kernel_rfl) rfl (fun K hK => ?_)
      simp only [List.getElem_toArray, List.getElem_cons_zero, List.getElem_cons_succ]
      rw [if_pos (by rfl)]
      go_simp
      refine hK.out _ _ (hSb) (fun hS => ?_)
      clear hK K
      try simp only [List.getElem_toArray, List.getElem_cons_zero, List.getElem_cons_succ, Act.put, List.setIfInBounds_toArray, List.set_cons_zero, List.set_cons_succ]
      clear hSb
      refine till_done (by kernel_rfl) ?_ _
      clear hS
      go_wp2
      go_roundw
      case rel => exact ⟨j + 1, by have := JM.out; omega, by go_num, MD.out⟩
      case measure => simp [intOf]; have := JM.out; omega
    · have BE : ((spell P1).toList == (spell P2).toList) = false := by rw [spell_beq B1.out B2.out]; simp [hP]
      obtain ⟨eb, HEB⟩ : ∃ eb, Hid (decide (Gs.sum P1 = Gs.sum P2) = eb) := ⟨_, rfl⟩
      clear hP
      refine wp_region_till (S := fun L W => Pq W g1 g2 j a1 e1 c1 a2 e2 c2 P1 P2) (by kernel_rfl) PD.out (fun hS => ?_)
      refine till_take (i := 0) (v := .slice (some ⟨g1, 0, none⟩) k1 cp1) rfl (by kernel_rfl) (by kernel_rfl) (by kernel_rfl) (fun _ _ _ h => h) (fun L w => Iff.rfl) (Or.inl ⟨by rfl, fun w => by go_simp⟩) hS (fun hSb => ?_)
      simp only [List.getElem_toArray, List.getElem_cons_zero, List.getElem_cons_succ, Act.put, List.setIfInBounds_toArray, List.set_cons_zero, List.set_cons_succ]
      clear hS
      refine till_take (i := 1) (v := .int .i64 (j : Int)) rfl (by kernel_rfl) (by kernel_rfl) (by kernel_rfl) (fun _ _ _ h => h) (fun L w => Iff.rfl) (Or.inl ⟨by rfl, fun w => by go_simp⟩) hSb (fun hS => ?_)
      simp only [List.getElem_toArray, List.getElem_cons_zero, List.getElem_cons_succ, Act.put, List.setIfInBounds_toArray, List.set_cons_zero, List.set_cons_succ]
      clear hSb
      refine till_take (i := 2) (v := .pointer (some ⟨g1, j, none⟩)) rfl (by kernel_rfl) (by kernel_rfl) (by kernel_rfl) (fun _ _ _ h => h) (fun L w => Iff.rfl) (Or.inl ⟨by rfl, fun w => by go_simp⟩) hS (fun hSb => ?_)
      simp only [List.getElem_toArray, List.getElem_cons_zero, List.getElem_cons_succ, Act.put, List.setIfInBounds_toArray, List.set_cons_zero, List.set_cons_succ]
      clear hS
      refine till_read (i := 3) (c := 4) (v := .slice a1 e1 c1) (T := fun W => Pq W g1 g2 j a1 e1 c1 a2 e2 c2 P1 P2) rfl rfl (by kernel_rfl) (by kernel_rfl) (by kernel_rfl) (by kernel_rfl) (by kernel_rfl) (fun _ _ _ h => h) (fun L w => Iff.rfl) (fun L w h1 h2 => h2) (Or.inl ⟨by rfl, fun w h => by have q := h.p1; go_simp⟩) hSb (fun hS => ?_)
      simp only [List.getElem_toArray, List.getElem_cons_zero, List.getElem_cons_succ, Act.put, List.setIfInBounds_toArray, List.set_cons_zero, List.set_cons_succ]
      clear hSb
      refine till_read (i := 4) (c := 10) (v := .string (spell P1)) (T := fun W => Pq W g1 g2 j a1 e1 c1 a2 e2 c2 P1 P2) rfl rfl (by kernel_rfl) (by kernel_rfl) (by kernel_rfl) (by kernel_rfl) (by kernel_rfl) (fun _ _ _ h => h) (fun L w => Iff.rfl) (fun L w h1 h2 => h2) (Or.inl ⟨by rfl, fun w h => by have q := h.v1; go_simp⟩) hS (fun hSb => ?_)
      simp only [List.getElem_toArray, List.getElem_cons_zero, List.getElem_cons_succ, Act.put, List.setIfInBounds_toArray, List.set_cons_zero, List.set_cons_succ]
      clear hS
      refine till_take (i := 5) (v := .slice (some ⟨g2, 0, none⟩) k2 cp2) rfl (by kernel_rfl) (by kernel_rfl) (by kernel_rfl) (fun _ _ _ h => h) (fun L w => Iff.rfl) (Or.inl ⟨by rfl, fun w => by go_simp⟩) hSb (fun hS => ?_)
      simp only [List.getElem_toArray, List.getElem_cons_zero, List.getElem_cons_succ, Act.put, List.setIfInBounds_toArray, List.set_cons_zero, List.set_cons_succ]
      clear hSb
      refine till_take (i := 6) (v := .int .i64 (j : Int)) rfl (by kernel_rfl) (by kernel_rfl) (by kernel_rfl) (fun _ _ _ h => h) (fun L w => Iff.rfl) (Or.inl ⟨by rfl, fun w => by go_simp⟩) hS (fun hSb => ?_)
      simp only [List.getElem_toArray, List.getElem_cons_zero, List.getElem_cons_succ, Act.put, List.setIfInBounds_toArray, List.set_cons_zero, List.set_cons_succ]
      clear hS
      refine till_take (i := 7) (v := .pointer (some ⟨g2, j, none⟩)) rfl (by kernel_rfl) (by kernel_rfl) (by kernel_rfl) (fun _ _ _ h => h) (fun L w => Iff.rfl) (Or.inl ⟨by rfl, fun w => by go_simp⟩) hSb (fun hS => ?_)
      simp only [List.getElem_toArray, List.getElem_cons_zero, List.getElem_cons_succ, Act.put, List.setIfInBounds_toArray, List.set_cons_zero, List.set_cons_succ]
      clear hSb
      refine till_read (i := 8) (c := 9) (v := .slice a2 e2 c2) (T := fun W => Pq W g1 g2 j a1 e1 c1 a2 e2 c2 P1 P2) rfl rfl (by kernel_rfl) (by kernel_rfl) (by kernel_rfl) (by kernel_rfl) (by kernel_rfl) (fun _ _ _ h => h) (fun L w => Iff.rfl) (fun L w h1 h2 => h2) (Or.inl ⟨by rfl, fun w h => by have q := h.p2; go_simp⟩) hS (fun hSb => ?_)
      simp only [List.getElem_toArray, List.getElem_cons_zero, List.getElem_cons_succ, Act.put, List.setIfInBounds_toArray, List.set_cons_zero, List.set_cons_succ]
      clear hS
      refine till_read (i := 9) (c := 10) (v := .string (spell P2)) (T := fun W => Pq W g1 g2 j a1 e1 c1 a2 e2 c2 P1 P2) rfl rfl (by kernel_rfl) (by kernel_rfl) (by kernel_rfl) (by kernel_rfl) (by kernel_rfl) (fun _ _ _ h => h) (fun L w => Iff.rfl) (fun L w h1 h2 => h2) (Or.inl ⟨by rfl, fun w h => by have q := h.v2; go_simp⟩) hSb (fun hS => ?_)
      simp only [List.getElem_toArray, List.getElem_cons_zero, List.getElem_cons_succ, Act.put, List.setIfInBounds_toArray, List.set_cons_zero, List.set_cons_succ]
      clear hSb
      refine till_take (i := 10) (v := .bool true) rfl (by kernel_rfl) (by kernel_rfl) (by kernel_rfl) (fun _ _ _ h => h) (fun L w => Iff.rfl) (Or.inl ⟨by rfl, fun w => by go_simp⟩) hS (fun hSb => ?_)
      simp only [List.getElem_toArray, List.getElem_cons_zero, List.getElem_cons_succ, Act.put, List.setIfInBounds_toArray, List.set_cons_zero, List.set_cons_succ]
      clear hS
      refine till_take (i := 11) (v := .bool true) rfl (by kernel_rfl) (by kernel_rfl) (by kernel_rfl) (fun _ _ _ h => h) (fun L w => Iff.rfl) (Or.inl ⟨by rfl, fun w => by go_simp⟩) hSb (fun hS => ?_)
      simp only [List.getElem_toArray, List.getElem_cons_zero, List.getElem_cons_succ, Act.put, List.setIfInBounds_toArray, List.set_cons_zero, List.set_cons_succ]
      clear hSb
      refine till_take (i := 12) (v := .slice (some ⟨g1, 0, none⟩) k1 cp1) rfl (by kernel_rfl) (by kernel_rfl) (by kernel_rfl) (fun _ _ _ h => h) (fun L w => Iff.rfl) (Or.inl ⟨by rfl, fun w => by go_simp⟩) hS (fun hSb => ?_)
      simp only [List.getElem_toArray, List.getElem_cons_zero, List.getElem_cons_succ, Act.put, List.setIfInBounds_toArray, List.set_cons_zero, List.set_cons_succ]
      clear hS
      refine till_take (i := 13) (v := .int .i64 (j : Int)) rfl (by kernel_rfl) (by kernel_rfl) (by kernel_rfl) (fun _ _ _ h => h) (fun L w => Iff.rfl) (Or.inl ⟨by rfl, fun w => by go_simp⟩) hSb (fun hS => ?_)
      simp only [List.getElem_toArray, List.getElem_cons_zero, List.getElem_cons_succ, Act.put, List.setIfInBounds_toArray, List.set_cons_zero, List.set_cons_succ]
      clear hSb
      refine till_take (i := 14) (v := .pointer (some ⟨g1, j, none⟩)) rfl (by kernel_rfl) (by kernel_rfl) (by kernel_rfl) (fun _ _ _ h => h) (fun L w => Iff.rfl) (Or.inl ⟨by rfl, fun w => by go_simp⟩) hS (fun hSb => ?_)
      simp only [List.getElem_toArray, List.getElem_cons_zero, List.getElem_cons_succ, Act.put, List.setIfInBounds_toArray, List.set_cons_zero, List.set_cons_succ]
      clear hS
      refine till_read (i := 15) (c := 16) (v := .slice a1 e1 c1) (T := fun W => Pq W g1 g2 j a1 e1 c1 a2 e2 c2 P1 P2) rfl rfl (by kernel_rfl) (by kernel_rfl) (by kernel_rfl) (by kernel_rfl) (by kernel_rfl) (fun _ _ _ h => h) (fun L w => Iff.rfl) (fun L w h1 h2 => h2) (Or.inl ⟨by rfl, fun w h => by have q := h.p1; go_simp⟩) hSb (fun hS => ?_)
      simp only [List.getElem_toArray, List.getElem_cons_zero, List.getElem_cons_succ, Act.put, List.setIfInBounds_toArray, List.set_cons_zero, List.set_cons_succ]
      clear hSb
      refine till_take (i := 17) (v := .slice (some ⟨g2, 0, none⟩) k2 cp2) rfl (by kernel_rfl) (by kernel_rfl) (by kernel_rfl) (fun _ _ _ h => h) (fun L w => Iff.rfl) (Or.inl ⟨by rfl, fun w => by go_simp⟩) hS (fun hSb => ?_)
      simp only [List.getElem_toArray, List.getElem_cons_zero, List.getElem_cons_succ, Act.put, List.setIfInBounds_toArray, List.set_cons_zero, List.set_cons_succ]
      clear hS
      refine till_take (i := 18) (v := .int .i64 (j : Int)) rfl (by kernel_rfl) (by kernel_rfl) (by kernel_rfl) (fun _ _ _ h => h) (fun L w => Iff.rfl) (Or.inl ⟨by rfl, fun w => by go_simp⟩) hSb (fun hS => ?_)
      simp only [List.getElem_toArray, List.getElem_cons_zero, List.getElem_cons_succ, Act.put, List.setIfInBounds_toArray, List.set_cons_zero, List.set_cons_succ]
      clear hSb
      refine till_take (i := 19) (v := .pointer (some ⟨g2, j, none⟩)) rfl (by kernel_rfl) (by kernel_rfl) (by kernel_rfl) (fun _ _ _ h => h) (fun L w => Iff.rfl) (Or.inl ⟨by rfl, fun w => by go_simp⟩) hS (fun hSb => ?_)
      simp only [List.getElem_toArray, List.getElem_cons_zero, List.getElem_cons_succ, Act.put, List.setIfInBounds_toArray, List.set_cons_zero, List.set_cons_succ]
      clear hS
      refine till_read (i := 20) (c := 21) (v := .slice a2 e2 c2) (T := fun W => Pq W g1 g2 j a1 e1 c1 a2 e2 c2 P1 P2) rfl rfl (by kernel_rfl) (by kernel_rfl) (by kernel_rfl) (by kernel_rfl) (by kernel_rfl) (fun _ _ _ h => h) (fun L w => Iff.rfl) (fun L w h1 h2 => h2) (Or.inl ⟨by rfl, fun w h => by have q := h.p2; go_simp⟩) hSb (fun hS => ?_)
      simp only [List.getElem_toArray, List.getElem_cons_zero, List.getElem_cons_succ, Act.put, List.setIfInBounds_toArray, List.set_cons_zero, List.set_cons_succ]
      clear hSb
      refine till_one (i := 16) (by kernel_rfl) rfl (fun K hK => ?_)
      simp only [List.getElem_toArray, List.getElem_cons_zero, List.getElem_cons_succ]
      rw [if_pos (by rfl)]
      go_simp
      go_wp2_with (go_at_call 32; refine (shrefsum_n _ a1 e1 c1 P1 SD1 Z1).mono ?_; rintro en w1 ⟨d1, rfl, H1⟩)
      have PW : Hid (Pq w1 g1 g2 j a1 e1 c1 a2 e2 c2 P1 P2) := PD.out.below H1.out.2
      have SD2 : Hid (Sln w1 a2 e2 P2) := PW.out.s2
      have M1 : Hid (Mt w w1 g1 k1 la g2 k2 lb) := MD.out.below H1.out.2
      refine hK.out _ _ (PW.out) (fun hSb => ?_)
      clear hK K
      try simp only [List.getElem_toArray, List.getElem_cons_zero, List.getElem_cons_succ, Act.put, List.setIfInBounds_toArray, List.set_cons_zero, List.set_cons_succ]
      clear hS
      refine till_one (i := 21) (by kernel_rfl) rfl (fun K hK => ?_)
      simp only [List.getElem_toArray, List.getElem_cons_zero, List.getElem_cons_succ]
      rw [if_pos (by rfl)]
      go_simp
      go_wp2_with (go_at_call 32; refine (shrefsum_n _ a2 e2 c2 P2 SD2 Z2).mono ?_; rintro en w2 ⟨d2, rfl, H2⟩)
      have PV : Hid (Pq w2 g1 g2 j a1 e1 c1 a2 e2 c2 P1 P2) := PW.out.below H2.out.2
      have M2 : Hid (Mt w w2 g1 k1 la g2 k2 lb) := M1.out.below H2.out.2
      have EQ : ∀ w', (Op.equalIn 10000 61 (.agg (cs .u8 d1)) (.agg (cs .u8 d2))).run Tryd.prog w' = .ok (decide (d1 = d2)) w' := eq_arr d1 d2 (by rw [H1.out.1]; exact sum_len _) (by rw [H2.out.1]; exact sum_len _)
      have EB : Hid (decide (d1 = d2) = eb) := by rw [H1.out.1, H2.out.1]; exact HEB.out
      rw [EB.out] at EQ
      refine hK.out _ _ (PV.out) (fun hS => ?_)
      clear hK K
      try simp only [List.getElem_toArray, List.getElem_cons_zero, List.getElem_cons_succ, Act.put, List.setIfInBounds_toArray, List.set_cons_zero, List.set_cons_succ]
      clear hSb
      refine till_one (i := 22) (by kernel_rfl) rfl (fun K hK => ?_)
      simp only [List.getElem_toArray, List.getElem_cons_zero, List.getElem_cons_succ]
      rw [if_pos (by rfl)]
      go_simp
      refine hK.out _ _ (hS) (fun hSb => ?_)
      clear hK K
      try simp only [List.getElem_toArray, List.getElem_cons_zero, List.getElem_cons_succ, Act.put, List.setIfInBounds_toArray, List.set_cons_zero, List.set_cons_succ]
      clear hS
      refine till_one (i := 23) (by kernel_rfl) rfl (fun K hK => ?_)
      simp only [List.getElem_toArray, List.getElem_cons_zero, List.getElem_cons_succ]
      rw [if_pos (by rfl)]
      go_simp
      refine hK.out _ _ (hSb) (fun hS => ?_)
      clear hK K
      try simp only [List.getElem_toArray, List.getElem_cons_zero, List.getElem_cons_succ, Act.put, List.setIfInBounds_toArray, List.set_cons_zero, List.set_cons_succ]
      clear hSb
      refine till_done (by kernel_rfl) ?_ _
      clear hS
      cases eb with
      | true =>
        go_wp2
        go_ret
        exact ⟨rfl, M2.out.bel⟩
      | false =>
        have JM : Hid (j ≠ m) := fun h => by
          have h1 := HEB.out
          rw [decide_eq_false_iff_not] at h1
          exact h1 (HT.out h).2
        go_wp2
        go_roundw
        case rel => exact ⟨j + 1, by have := JM.out; omega, by go_num, M2.out⟩
        case measure => simp [intOf]; have := JM.out; omega
end Go.Proofs.YtmkknklkdgkbaaaDoor

/- Jc -/
/- FrameSlips: a frame one byte of whose body is changed. -/
namespace Go.Proofs.YtmkknklkdgkbaaaDoor
open Go.ChangeShapes Go.WideShapes Go.ChangeAt Go.RowKit
set_option maxRecDepth 20000
set_option linter.unusedVariables false
set_option linter.unusedSimpArgs false
/- a variable's eight cells -/
structure S8 (W : World) (g : Nat) (a b c d e : Int) (sa : Option Addr) (n k : Nat) (x : Int) (y : Nat) : Prop where
  c0 : W.cell? ⟨g, 0, none⟩ = some (.int .i64 a)
  c1 : W.cell? ⟨g, 1, none⟩ = some (.int .i64 b)
  c2 : W.cell? ⟨g, 2, none⟩ = some (.int .i64 c)
  c3 : W.cell? ⟨g, 3, none⟩ = some (.int .i64 d)
  c4 : W.cell? ⟨g, 4, none⟩ = some (.int .i64 e)
  c5 : W.cell? ⟨g, 5, none⟩ = some (.slice sa n k)
  c6 : W.cell? ⟨g, 6, none⟩ = some (.int .i64 x)
  c7 : W.cell? ⟨g, 7, none⟩ = some (.int .u8 (y : Int))
theorem S8.below {W W' : World} {g B : Nat} {a b c d e : Int} {sa : Option Addr} {n k : Nat} {x : Int} {y : Nat} (h : S8 W g a b c d e sa n k x y) (hb : Below B W W') (hg : g < B) : S8 W' g a b c d e sa n k x y :=
  ⟨(hb.cell (p := ⟨g, 0, none⟩) hg).trans h.c0, (hb.cell (p := ⟨g, 1, none⟩) hg).trans h.c1, (hb.cell (p := ⟨g, 2, none⟩) hg).trans h.c2, (hb.cell (p := ⟨g, 3, none⟩) hg).trans h.c3, (hb.cell (p := ⟨g, 4, none⟩) hg).trans h.c4, (hb.cell (p := ⟨g, 5, none⟩) hg).trans h.c5, (hb.cell (p := ⟨g, 6, none⟩) hg).trans h.c6, (hb.cell (p := ⟨g, 7, none⟩) hg).trans h.c7⟩
theorem S8.new (w : World) (a b c d e : Int) (sa : Option Addr) (n k : Nat) (x : Int) (y : Nat) : S8 (w.alloc (.cells #[.int .i64 a, .int .i64 b, .int .i64 c, .int .i64 d, .int .i64 e, .slice sa n k, .int .i64 x, .int .u8 (y : Int)] 54)) w.heap.size a b c d e sa n k x y := by
  constructor <;> simp [go_sem]
/- while FrameSlips runs -/
structure Sp (w W : World) (E : Nat → Addr) (a b c d e : Int) (g : Nat) (sa : Option Addr) (n : Nat) (l : List Nat) : Prop where
  st : S5 W g a b c d e
  sl : Sln W sa n l
  se : Sent W 4 E
  ms : Mst W
  ks : Kst W
  bel : Below w.heap.size w W
theorem Sp.below {w W W' : World} {E : Nat → Addr} {a b c d e : Int} {g : Nat} {sa : Option Addr} {n : Nat} {l : List Nat} (h : Sp w W E a b c d e g sa n l) (hb : Below W.heap.size W W') : Sp w W' E a b c d e g sa n l :=
  ⟨h.st.below hb h.st.lt, h.sl.below hb, h.se.below hb, h.ms.below hb h.ms.lt, h.ks.below hb (kst_pos h.ks), h.bel.trans (hb.mono h.bel.size)⟩
/- the place that is changed -/
theorem slip_at (x : Int) (L : Nat) (hL : 0 < L) : ∃ (r : Int) (s q : Nat), x.tmod (L : Int) = r ∧ -(L : Int) < r ∧ r < (L : Int) ∧ r + (L : Int) = (s : Int) ∧ (s : Int).tmod (L : Int) = (q : Int) ∧ q < L := by
  have h1 := Int.tmod_lt_of_pos x (show (0 : Int) < (L : Int) by omega)
  have h2 := Int.lt_tmod_of_pos x (show (0 : Int) < (L : Int) by omega)
  refine ⟨x.tmod (L : Int), (x.tmod (L : Int) + (L : Int)).toNat, (x.tmod (L : Int) + (L : Int)).toNat % L, rfl, h2, h1, by omega, ?_, Nat.mod_lt _ hL⟩
  exact (Int.ofNat_tmod _ _).symm
theorem s5_of {W : World} {g : Nat} {a b c d e : Int} (h : W.heap[g]? = some (.cells #[.int .i64 a, .int .i64 b, .int .i64 c, .int .i64 d, .int .i64 e] 25 (0, 0))) : S5 W g a b c d e := by
  constructor <;> simp [World.cell?, h]
set_option maxHeartbeats 4000000 in
theorem slips_not {w : World} {E : Nat → Addr} (a b c d e : Int) {sa : Option Addr} {n k : Nat} {l : List Nat} (x : Int) (y : Nat) (hS : Hid (Sln w sa n l)) (hc : Hid (sa = none → k = 0)) (hnk : n ≤ k) (hE : Hid (Sent w 4 E)) (hM : Hid (Mst w)) (hK : Hid (Kst w)) (hno : Hid (okN [1, a, b, c, d, e, 0] = false ∨ 1024 < n ∨ n = 0)) :
    Calls Tryd.prog 6 #[.agg #[.int .i64 a, .int .i64 b, .int .i64 c, .int .i64 d, .int .i64 e, .slice sa n k, .int .i64 x, .int .u8 (y : Int)]] w fun en w' => en = .returned (.bool true) ∧ Hid (Below w.heap.size w w') := by
  obtain ⟨W0, HW0⟩ : ∃ W0, Hid (w.alloc (.cells #[.int .i64 a, .int .i64 b, .int .i64 c, .int .i64 d, .int .i64 e, .slice sa n k, .int .i64 x, .int .u8 (y : Int)] 54) = W0) := ⟨_, rfl⟩
  have b0 : Hid (Below w.heap.size w W0.drew) := by rw [← HW0.out]; exact ((Below.refl _ w).alloc (Nat.le_refl _) _).drew
  have z0 : Hid (w.heap.size < W0.heap.size) := by rw [← HW0.out]; show w.heap.size < (w.alloc _).heap.size; simp
  have Q0 : Hid (S8 W0.drew w.heap.size a b c d e sa n k x y) := by rw [← HW0.out]; exact (S8.new w a b c d e sa n k x y).below (Below.refl (w.heap.size + 1) _).drew (Nat.lt_succ_self _)
  obtain ⟨WA, HWA⟩ : ∃ WA, Hid ((W0.alloc (.cells #[.int .i64 0, .int .i64 0, .int .i64 0, .int .i64 0, .int .i64 0] 25)).drew = WA) := ⟨_, rfl⟩
  have RA : Hid (WA.heap[W0.heap.size]? = some (.cells (cs .i64 Z5) 25 (0, 0))) := by rw [← HWA.out]; exact Arr.new W0.drew .i64 25 Z5
  have bA : Hid (Below W0.heap.size W0.drew WA) := by rw [← HWA.out]; exact ((Below.refl _ W0.drew).alloc (Nat.le_refl _) (.cells (cs .i64 Z5) 25))
  have QA : Hid (S8 WA w.heap.size a b c d e sa n k x y) := Q0.out.below bA.out z0.out
  obtain ⟨WB, HWB⟩ : ∃ WB, Hid (WA.setRow W0.heap.size #[.int .i64 a, .int .i64 b, .int .i64 c, .int .i64 d, .int .i64 e] = WB) := ⟨_, rfl⟩
  have RB : Hid (WB.heap[W0.heap.size]? = some (.cells #[.int .i64 a, .int .i64 b, .int .i64 c, .int .i64 d, .int .i64 e] 25 (0, 0))) := by rw [← HWB.out]; exact setRow_heap _ _ _ _ 25 (0, 0) RA.out
  have bB : Hid (Below W0.heap.size W0.drew WB) := by rw [← HWB.out, ← HWA.out]; exact below_arr W0.drew .i64 25 Z5 _
  have QB : Hid (S8 WB w.heap.size a b c d e sa n k x y) := Q0.out.below bB.out z0.out
  have GB : Hid (Sp w WB E a b c d e W0.heap.size sa n l) := by
    have bw := b0.out.trans (bB.out.mono b0.out.size)
    exact ⟨s5_of RB.out, hS.out.below bw, hE.out.below bw, hM.out.below bw hM.out.lt, hK.out.below bw (kst_pos hK.out), bw⟩
  go_enter Tryd.func6, Tryd.ntmps6
  go_upto_region 1 with (fail)
  rw [HW0.out]
  refine wp_region_till (S := fun L W => S8 W w.heap.size a b c d e sa n k x y) (by kernel_rfl) Q0.out (fun hS => ?_)
  refine till_take (i := 0) (v := .pointer (some ⟨w.heap.size, 0, none⟩)) rfl (by kernel_rfl) (by kernel_rfl) (by kernel_rfl) (fun _ _ _ h => h) (fun L w => Iff.rfl) (Or.inl ⟨by rfl, fun w => by go_simp⟩) hS (fun hSb => ?_)
  simp only [List.getElem_toArray, List.getElem_cons_zero, List.getElem_cons_succ, Act.put, List.setIfInBounds_toArray, List.set_cons_zero, List.set_cons_succ]
  clear hS
  refine till_read (i := 1) (c := 9) (v := .agg #[.int .i64 a, .int .i64 b, .int .i64 c, .int .i64 d, .int .i64 e]) (T := fun W => S8 W w.heap.size a b c d e sa n k x y) rfl rfl (by kernel_rfl) (by kernel_rfl) (by kernel_rfl) (by kernel_rfl) (by kernel_rfl) (fun _ _ _ h => h) (fun L w => Iff.rfl) (fun L w h1 h2 => h2) (Or.inl ⟨by rfl, fun w h => by have q0 := h.c0; have q1 := h.c1; have q2 := h.c2; have q3 := h.c3; have q4 := h.c4; go_simp⟩) hSb (fun hS => ?_)
  simp only [List.getElem_toArray, List.getElem_cons_zero, List.getElem_cons_succ, Act.put, List.setIfInBounds_toArray, List.set_cons_zero, List.set_cons_succ]
  clear hSb
  refine till_take (i := 2) (v := .pointer (some ⟨w.heap.size, 5, none⟩)) rfl (by kernel_rfl) (by kernel_rfl) (by kernel_rfl) (fun _ _ _ h => h) (fun L w => Iff.rfl) (Or.inl ⟨by rfl, fun w => by go_simp⟩) hS (fun hSb => ?_)
  simp only [List.getElem_toArray, List.getElem_cons_zero, List.getElem_cons_succ, Act.put, List.setIfInBounds_toArray, List.set_cons_zero, List.set_cons_succ]
  clear hS
  refine till_read (i := 3) (c := 10) (v := .slice sa n k) (T := fun W => S8 W w.heap.size a b c d e sa n k x y) rfl rfl (by kernel_rfl) (by kernel_rfl) (by kernel_rfl) (by kernel_rfl) (by kernel_rfl) (fun _ _ _ h => h) (fun L w => Iff.rfl) (fun L w h1 h2 => h2) (Or.inl ⟨by rfl, fun w h => by have q5 := h.c5; go_simp⟩) hSb (fun hS => ?_)
  simp only [List.getElem_toArray, List.getElem_cons_zero, List.getElem_cons_succ, Act.put, List.setIfInBounds_toArray, List.set_cons_zero, List.set_cons_succ]
  clear hSb
  refine till_take (i := 4) (v := .pointer (some ⟨w.heap.size, 6, none⟩)) rfl (by kernel_rfl) (by kernel_rfl) (by kernel_rfl) (fun _ _ _ h => h) (fun L w => Iff.rfl) (Or.inl ⟨by rfl, fun w => by go_simp⟩) hS (fun hSb => ?_)
  simp only [List.getElem_toArray, List.getElem_cons_zero, List.getElem_cons_succ, Act.put, List.setIfInBounds_toArray, List.set_cons_zero, List.set_cons_succ]
  clear hS
  refine till_read (i := 5) (c := 11) (v := .int .i64 x) (T := fun W => S8 W w.heap.size a b c d e sa n k x y) rfl rfl (by kernel_rfl) (by kernel_rfl) (by kernel_rfl) (by kernel_rfl) (by kernel_rfl) (fun _ _ _ h => h) (fun L w => Iff.rfl) (fun L w h1 h2 => h2) (Or.inl ⟨by rfl, fun w h => by have q6 := h.c6; go_simp⟩) hSb (fun hS => ?_)
  simp only [List.getElem_toArray, List.getElem_cons_zero, List.getElem_cons_succ, Act.put, List.setIfInBounds_toArray, List.set_cons_zero, List.set_cons_succ]
  clear hSb
  refine till_take (i := 6) (v := .pointer (some ⟨w.heap.size, 7, none⟩)) rfl (by kernel_rfl) (by kernel_rfl) (by kernel_rfl) (fun _ _ _ h => h) (fun L w => Iff.rfl) (Or.inl ⟨by rfl, fun w => by go_simp⟩) hS (fun hSb => ?_)
  simp only [List.getElem_toArray, List.getElem_cons_zero, List.getElem_cons_succ, Act.put, List.setIfInBounds_toArray, List.set_cons_zero, List.set_cons_succ]
  clear hS
  refine till_read (i := 7) (c := 12) (v := .int .u8 (y : Int)) (T := fun W => S8 W w.heap.size a b c d e sa n k x y) rfl rfl (by kernel_rfl) (by kernel_rfl) (by kernel_rfl) (by kernel_rfl) (by kernel_rfl) (fun _ _ _ h => h) (fun L w => Iff.rfl) (fun L w h1 h2 => h2) (Or.inl ⟨by rfl, fun w h => by have q7 := h.c7; go_simp⟩) hSb (fun hS => ?_)
  simp only [List.getElem_toArray, List.getElem_cons_zero, List.getElem_cons_succ, Act.put, List.setIfInBounds_toArray, List.set_cons_zero, List.set_cons_succ]
  clear hSb
  refine till_one (i := 8) (by kernel_rfl) rfl (fun K hK => ?_)
  simp only [List.getElem_toArray, List.getElem_cons_zero, List.getElem_cons_succ]
  rw [if_pos (by rfl)]
  go_simp
  rw [HWA.out]
  refine hK.out _ _ (QA.out) (fun hSb => ?_)
  clear hK K
  try simp only [List.getElem_toArray, List.getElem_cons_zero, List.getElem_cons_succ, Act.put, List.setIfInBounds_toArray, List.set_cons_zero, List.set_cons_succ]
  clear hS
  refine till_one (i := 9) (by kernel_rfl) rfl (fun K hK => ?_)
  simp only [List.getElem_toArray, List.getElem_cons_zero, List.getElem_cons_succ]
  rw [if_pos (by rfl)]
  refine wp_store_row 25 (.tmp 3) (.tmp 17) (by rfl) W0.heap.size #[.int .i64 a, .int .i64 b, .int .i64 c, .int .i64 d, .int .i64 e] (by rfl) (by rfl) 25 (cs .i64 Z5) RA.out (by kernel_rfl) (by rfl) (by simp [Value.oneCell']) ?_
  refine (show _ = WB from HWB.out) ▸ ?_
  refine hK.out _ _ (QB.out) (fun hS => ?_)
  clear hK K
  try simp only [List.getElem_toArray, List.getElem_cons_zero, List.getElem_cons_succ, Act.put, List.setIfInBounds_toArray, List.set_cons_zero, List.set_cons_succ]
  clear hSb
  refine till_one (i := 10) (by kernel_rfl) rfl (fun K hK => ?_)
  simp only [List.getElem_toArray, List.getElem_cons_zero, List.getElem_cons_succ]
  rw [if_pos (by rfl)]
  go_simp
  refine hK.out _ _ (hS) (fun hSb => ?_)
  clear hK K
  try simp only [List.getElem_toArray, List.getElem_cons_zero, List.getElem_cons_succ, Act.put, List.setIfInBounds_toArray, List.set_cons_zero, List.set_cons_succ]
  clear hS
  refine till_one (i := 11) (by kernel_rfl) rfl (fun K hK => ?_)
  simp only [List.getElem_toArray, List.getElem_cons_zero, List.getElem_cons_succ]
  rw [if_pos (by rfl)]
  go_simp
  refine hK.out _ _ (hSb) (fun hS => ?_)
  clear hK K
  try simp only [List.getElem_toArray, List.getElem_cons_zero, List.getElem_cons_succ, Act.put, List.setIfInBounds_toArray, List.set_cons_zero, List.set_cons_succ]
  clear hSb
  refine till_one (i := 12) (by kernel_rfl) rfl (fun K hK => ?_)
  simp only [List.getElem_toArray, List.getElem_cons_zero, List.getElem_cons_succ]
  rw [if_pos (by rfl)]
  go_simp
  refine hK.out _ _ (hS) (fun hSb => ?_)
  clear hK K
  try simp only [List.getElem_toArray, List.getElem_cons_zero, List.getElem_cons_succ, Act.put, List.setIfInBounds_toArray, List.set_cons_zero, List.set_cons_succ]
  clear hS
  refine till_done (by kernel_rfl) ?_ _
  clear hSb
  obtain ⟨g3, HG3⟩ : ∃ g, Hid (W0.heap.size = g) := ⟨_, rfl⟩
  rw [HG3.out] at GB ⊢
  clear HG3 RA RB bA bB QA QB Q0 HWA HWB HW0 b0 z0
  have MS : Hid (Mst WB) := GB.out.ms
  have KS : Hid (Kst WB) := GB.out.ks
  go_upto_region 4 with (go_at_call 9; refine (alive_n MS KS).mono ?_; rintro en w1 ⟨rfl, H1⟩)
  have G1 : Hid (Sp w w1 E a b c d e g3 sa n l) := GB.out.below H1.out
  have q0 := G1.out.st.c0
  have q1 := G1.out.st.c1
  have q2 := G1.out.st.c2
  have q3 := G1.out.st.c3
  have q4 := G1.out.st.c4
  clear GB MS KS H1
  obtain ⟨ok, HOK⟩ : ∃ ok, Hid (okN [1, a, b, c, d, e, 0] = ok) := ⟨_, rfl⟩
  rw [HOK.out] at hno
  cases ok with
  | false =>
    go_wp2_with (go_at_call 13; refine (refInForm_n a b c d e _).mono ?_; rintro en w2 ⟨rfl, H2⟩; rw [HOK.out])
    go_ret
    exact ⟨rfl, (G1.out.below H2.out).bel⟩
  | true =>
    by_cases hl : 1024 < n
    · have i1 : (1024 : Int) < (n : Int) := by omega
      go_wp2_with (go_at_call 13; refine (refInForm_n a b c d e _).mono ?_; rintro en w2 ⟨rfl, H2⟩; rw [HOK.out])
      go_ret
      exact ⟨rfl, (G1.out.below H2.out).bel⟩
    · have i1 : ¬ (1024 : Int) < (n : Int) := by omega
      have n0 : n = 0 := by
        rcases hno.out with h | h | h
        · cases h
        · omega
        · exact h
      subst n0
      go_wp2_with (go_at_call 13; refine (refInForm_n a b c d e _).mono ?_; rintro en w2 ⟨rfl, H2⟩; rw [HOK.out])
      go_ret
      exact ⟨rfl, (G1.out.below H2.out).bel⟩
theorem slip_frame {a b c d e n q y : Nat} {l : List Nat} (h : okN [1, (a : Int), b, c, d, e, 0] = true) (hn : n ≤ 1024) (hl : n = l.length) (hq : q < (bodyL l).length)
    (hne : (frameL [1, a, b, c, d, e, n] l).getD ((headL [1, a, b, c, d, e, n]).length + q) 0 ≠ y) :
    (∃ b', getS ((frameL [1, a, b, c, d, e, n] l).set ((headL [1, a, b, c, d, e, n]).length + q) y) = ([a, b, c, d, e], b', 0) ∧ b'.length = n ∧ ∃ m, m < blks n ∧ hit b' l m = true) ∨
    getS ((frameL [1, a, b, c, d, e, n] l).set ((headL [1, a, b, c, d, e, n]).length + q) y) = (Z5, [], 6) := by
  subst hl
  have e1 : (frameL [1, a, b, c, d, e, l.length] l).set ((headL [1, a, b, c, d, e, l.length]).length + q) y = headL [1, a, b, c, d, e, l.length] ++ (bodyL l).set q y := by
    unfold frameL
    rw [List.set_append_right _ _ (by omega)]
    congr 2
    omega
  have e2 : (frameL [1, a, b, c, d, e, l.length] l).getD ((headL [1, a, b, c, d, e, l.length]).length + q) 0 = (bodyL l).getD q 0 := by
    unfold frameL
    rw [List.getD, List.getElem?_append_right (by omega), List.getD]
    congr 2
    omega
  rw [e2] at hne
  rw [e1, getS_body h hn (by rw [List.length_set])]
  by_cases hg : goodB ((bodyL l).set q y) (blks l.length) = true
  · rw [if_pos hg]
    have h1 := slip_hit hq hne hg
    exact .inl ⟨_, rfl, h1.1, h1.2⟩
  · rw [if_neg hg]
    exact .inr rfl
end Go.Proofs.YtmkknklkdgkbaaaDoor

/- Je -/
/- An argument that is a slip: a stamp, a row of bytes, a number, a byte. -/
namespace Go.Proofs.YtmkknklkdgkbaaaDoor
open Go.ChangeShapes Go.WideShapes Go.ChangeAt Go.RowKit
set_option maxRecDepth 20000
set_option linter.unusedVariables false
set_option linter.unusedSimpArgs false
theorem types54 : Tryd.prog.cellTypes Tryd.prog.depth 54 = some [3, 3, 3, 3, 3, 26, 3, 5] := by kernel_rfl
theorem cells54 : Tryd.prog.cellsOf 54 = 8 := by kernel_rfl
theorem cells26 : Tryd.prog.cellsOf 26 = 1 := by kernel_rfl
theorem cell5 {W : World} {r : Reach} {base : Nat} {v : Value} (h : Cell.okWide Tryd.prog W r base 5 v) : ∃ y : Nat, v = .int .u8 (y : Int) ∧ y < 256 := by
  simp only [Tryd.underlying5, Cell.okWide] at h
  cases v <;> simp_all [Cell.ok]
  rename_i k n
  obtain ⟨rfl, h1⟩ := h
  have h2 : (0 : Int) ≤ n ∧ n ≤ 255 := h1
  exact ⟨n.toNat, by simp; omega, by omega⟩
theorem open54 {H : Type} {enc : TypeId × Value → H} {W : World} {b0 : Nat} {v : Value} {d : DataW H} {p : List MemPlace} (hv : Value.okWide Tryd.prog W .any b0 54 v) (h : DataW.Trod enc Tryd.prog W 0 (fun _ => true) true 54 v d p) (hsz : ∀ n ∈ d.weights Tryd.prog 54, n ≤ reachBytes) :
    ∃ (a b c d e : Int) (sa : Option Addr) (n k : Nat) (l : List Nat) (x : Int) (y : Nat), v = .agg #[.int .i64 a, .int .i64 b, .int .i64 c, .int .i64 d, .int .i64 e, .slice sa n k, .int .i64 x, .int .u8 (y : Int)] ∧ Hid (Sln W sa n l) ∧ n ≤ k ∧ k ≤ 140737488351232 ∧ Hid (sa = none → k = 0) ∧ y < 256 := by
  simp only [Value.okWide, Tryd.underlying54] at hv
  obtain ⟨cs, rfl, hn, ts, ht, _, hc⟩ := hv
  rw [types54] at ht
  obtain rfl := Option.some.inj ht
  rw [cells54] at hn
  obtain ⟨l⟩ := cs
  match l, hn with
  | [c0, c1, c2, c3, c4, c5, c6, c7], _ =>
    have g3 : ∀ (i : Nat) (v : Value), #[c0, c1, c2, c3, c4, c5, c6, c7][i]? = some v → ([3, 3, 3, 3, 3, 26, 3, 5] : List Nat)[i % 8]? = some 3 → ∃ x, v = .int .i64 x := fun i v hv h3 => by
      obtain ⟨u, hu, hk⟩ := hc i v hv
      have hu' : ([3, 3, 3, 3, 3, 26, 3, 5] : List Nat)[i % 8]? = some u := hu
      rw [h3] at hu'
      obtain rfl := Option.some.inj hu'
      exact cell3 hk
    obtain ⟨a, rfl⟩ := g3 0 c0 rfl rfl
    obtain ⟨b, rfl⟩ := g3 1 c1 rfl rfl
    obtain ⟨c, rfl⟩ := g3 2 c2 rfl rfl
    obtain ⟨d', rfl⟩ := g3 3 c3 rfl rfl
    obtain ⟨e, rfl⟩ := g3 4 c4 rfl rfl
    obtain ⟨x, rfl⟩ := g3 6 c6 rfl rfl
    obtain ⟨u, hu, hk⟩ := hc 7 c7 rfl
    have hu' : ([3, 3, 3, 3, 3, 26, 3, 5] : List Nat)[7]? = some u := hu
    obtain rfl : 5 = u := by simpa using hu'
    obtain ⟨y, rfl, hy⟩ := cell5 hk
    obtain ⟨fuel, hf⟩ := h
    obtain ⟨xs, m, _, hx, _, hl, hall⟩ := DataW.trod_struct Tryd.underlying54 hf
    have h1 := hall 1 _ rfl
    match xs, hl with
    | [y0, y1, y2, y3], _ =>
      simp [Value.cells, cells26] at h1
      simp only [Prod.mk.injEq] at hx
      have hd : d = .agg [y0.1, y1.1, y2.1, y3.1] := by simpa using hx.1
      have w1 : ∀ n ∈ y1.1.weights Tryd.prog 26, n ≤ reachBytes := fun n hn => hsz n (by rw [hd]; simp only [DataW.weights, Tryd.underlying54]; simp [DataW.weightsEach, hn])
      obtain ⟨sa, n, k, l, rfl, S0, hk0, hm0⟩ := open_bytes h1 w1
      exact ⟨a, b, c, d', e, sa, n, k, l, x, y, rfl, S0, hk0, hm0, nil_cap27 h1, hy⟩
end Go.Proofs.YtmkknklkdgkbaaaDoor
