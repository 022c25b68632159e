/- BallotRises' walk. -/
import Derived.Test.YtdfnjcjpblkmcaaDoorAk
import Derived.Test.YtdfnjcjpblkmcaaDoorAl
import Derived.Test.YtdfnjcjpblkmcaaDoorAo
namespace Go.Proofs.YtdfnjcjpblkmcaaDoor
open Go.ChangeShapes Go.WideShapes Go.ChangeAt Go.RowKit
set_option maxRecDepth 20000
set_option linter.unusedVariables false
set_option linter.unusedSimpArgs false
/- what holds of an acceptor at all times -/
structure Okk (s : As) : Prop where
  p0 : 0 ≤ s.pR
  p1 : s.pR ≤ 1099511627776
  c0 : 0 ≤ s.cl
  c1 : s.cl ≤ 1099511627776
  ap : abv s.aR s.aN s.pR s.pN = false
theorem okk_s0 (n : Int) : Okk (s0 n) := ⟨Int.le_refl 0, by show (0 : Int) ≤ _; decide, Int.le_refl 0, by show (0 : Int) ≤ _; decide, decide_eq_false (by show ¬ ((0 : Int) > 0 ∨ (0 : Int) = 0 ∧ (0 : Int) > 0); omega)⟩
def Rise (s t : As) : Prop := abv s.pR s.pN t.pR t.pN = false ∧ abv s.aR s.aN t.aR t.aN = false ∧ abv t.aR t.aN t.pR t.pN = false
theorem abv_refl (r n : Int) : abv r n r n = false := decide_eq_false (by omega)
theorem abv_trans {a b c d e f : Int} (h : abv a b c d = false) (k : abv c d e f = false) : abv a b e f = false := by
  have h1 := of_decide_eq_false h
  have h2 := of_decide_eq_false k
  exact decide_eq_false (by omega)
theorem Okk.refl {s : As} (h : Okk s) : Rise s s := ⟨abv_refl _ _, abv_refl _ _, h.ap⟩
theorem prk_zero {s : As} {r n : Int} (h : prk s r n = 0) : lgl r n = true ∧ abv s.pR s.pN r n = false := by
  unfold prk at h
  by_cases h1 : lgl r n = false
  · rw [if_pos h1] at h; cases h
  · rw [if_neg h1] at h
    by_cases h2 : abv s.pR s.pN r n = true
    · rw [if_pos h2] at h; cases h
    · exact ⟨by simpa using h1, by simpa using h2⟩
theorem lgl_out {r n : Int} (h : lgl r n = true) : 1 ≤ r ∧ r ≤ 1099511627776 ∧ 0 ≤ n ∧ n < 16 := of_decide_eq_true h
theorem okk_pr {s : As} (h : Okk s) (r n : Int) : Okk (prS s r n) ∧ Rise s (prS s r n) ∧ (prS s r n).cl = s.cl ∧ (prS s r n).node = s.node := by
  by_cases hk : prk s r n = 0
  · rw [prS_ok hk]
    obtain ⟨h1, h2⟩ := prk_zero hk
    have h3 := lgl_out h1
    exact ⟨⟨by show 0 ≤ r; omega, by show r ≤ _; omega, h.c0, h.c1, abv_trans h.ap h2⟩, ⟨h2, abv_refl _ _, abv_trans h.ap h2⟩, rfl, rfl⟩
  · rw [prS_no hk]
    exact ⟨h, h.refl, rfl, rfl⟩
theorem okk_ac {s : As} (h : Okk s) (r n : Int) (L : List Cm) : Okk (acS s r n L) ∧ Rise s (acS s r n L) ∧ (acS s r n L).cl = s.cl ∧ (acS s r n L).node = s.node := by
  by_cases hk : prk s r n = 0
  · have e : acS s r n L = { s with pR := r, pN := n, aR := r, aN := n, L := L } := by simp [acS, hk]
    rw [e]
    obtain ⟨h1, h2⟩ := prk_zero hk
    have h3 := lgl_out h1
    exact ⟨⟨by show 0 ≤ r; omega, by show r ≤ _; omega, h.c0, h.c1, abv_refl _ _⟩, ⟨h2, abv_trans h.ap h2, abv_refl _ _⟩, rfl, rfl⟩
  · have e : acS s r n L = s := by simp [acS, hk]
    rw [e]
    exact ⟨h, h.refl, rfl, rfl⟩
theorem clT_cl (s : As) (r : Int) : s.cl ≤ clT s r := by unfold clT; split <;> omega
theorem okk_cl {s : As} (h : Okk s) (r : Int) : Okk (clS s r) ∧ Rise s (clS s r) ∧ s.cl ≤ (clS s r).cl ∧ (clS s r).node = s.node := by
  by_cases hk : clk s r = 0
  · have e : clS s r = { s with cl := clT s r + 1 } := by unfold clS; rw [hk]; rfl
    rw [e]
    have h1 : ¬ (1099511627776 ≤ clT s r) := fun h => by unfold clk at hk; rw [if_pos h] at hk; cases hk
    have h2 := clT_ge s r
    have h3 := clT_cl s r
    have h4 := h.p0
    exact ⟨⟨h.p0, h.p1, by show 0 ≤ clT s r + 1; omega, by show clT s r + 1 ≤ _; omega, h.ap⟩, h.refl, by show s.cl ≤ clT s r + 1; omega, rfl⟩
  · have e : clS s r = s := by unfold clS; rw [if_neg hk]
    rw [e]
    exact ⟨h, h.refl, by omega, rfl⟩
/- the law's own state -/
structure RS (w wr : World) (G g g8 g9 : Nat) (node : Int) (s : As) (last : Int) (a : Option Addr) (m c : Nat) (X : List Cx) : Prop where
  bel : Below w.heap.size w wr
  acc : Acc wr 84 G g s a m c X
  k8 : wr.heap[g8]? = some (.cells #[.int .i64 s.pR, .int .i64 s.pN] 34 (0, 0))
  k9 : wr.heap[g9]? = some (.cells #[.int .i64 s.aR, .int .i64 s.aN] 34 (0, 0))
  ok : Okk s ∧ last ≤ s.cl ∧ s.node = node
structure Sq (W : World) (g8 g9 g14 g15 : Nat) (p q r n p' q' r' n' : Int) : Prop where
  k8 : W.heap[g8]? = some (.cells #[.int .i64 p, .int .i64 q] 34 (0, 0))
  k9 : W.heap[g9]? = some (.cells #[.int .i64 r, .int .i64 n] 34 (0, 0))
  k14 : W.heap[g14]? = some (.cells #[.int .i64 p', .int .i64 q'] 34 (0, 0))
  k15 : W.heap[g15]? = some (.cells #[.int .i64 r', .int .i64 n'] 34 (0, 0))
section
variable {W W' : World} {g8 g9 g14 g15 : Nat} {p q r n p' q' r' n' : Int}
theorem Sq.x0 (h : Sq W g8 g9 g14 g15 p q r n p' q' r' n') : W.cell? ⟨g8, 0, none⟩ = some (.int .i64 p) := by simp [World.cell?, h.k8]
theorem Sq.x1 (h : Sq W g8 g9 g14 g15 p q r n p' q' r' n') : W.cell? ⟨g8, 1, none⟩ = some (.int .i64 q) := by simp [World.cell?, h.k8]
theorem Sq.x4 (h : Sq W g8 g9 g14 g15 p q r n p' q' r' n') : W.cell? ⟨g9, 0, none⟩ = some (.int .i64 r) := by simp [World.cell?, h.k9]
theorem Sq.x5 (h : Sq W g8 g9 g14 g15 p q r n p' q' r' n') : W.cell? ⟨g9, 1, none⟩ = some (.int .i64 n) := by simp [World.cell?, h.k9]
theorem Sq.x2 (h : Sq W g8 g9 g14 g15 p q r n p' q' r' n') : W.cell? ⟨g14, 0, none⟩ = some (.int .i64 p') := by simp [World.cell?, h.k14]
theorem Sq.x3 (h : Sq W g8 g9 g14 g15 p q r n p' q' r' n') : W.cell? ⟨g14, 1, none⟩ = some (.int .i64 q') := by simp [World.cell?, h.k14]
theorem Sq.x6 (h : Sq W g8 g9 g14 g15 p q r n p' q' r' n') : W.cell? ⟨g15, 0, none⟩ = some (.int .i64 r') := by simp [World.cell?, h.k15]
theorem Sq.x7 (h : Sq W g8 g9 g14 g15 p q r n p' q' r' n') : W.cell? ⟨g15, 1, none⟩ = some (.int .i64 n') := by simp [World.cell?, h.k15]
theorem Sq.below (h : Sq W g8 g9 g14 g15 p q r n p' q' r' n') (hb : Below W.heap.size W W') : Sq W' g8 g9 g14 g15 p q r n p' q' r' n' :=
  ⟨(hb.block _ (Array.getElem?_eq_some_iff.1 h.k8).1).trans h.k8, (hb.block _ (Array.getElem?_eq_some_iff.1 h.k9).1).trans h.k9, (hb.block _ (Array.getElem?_eq_some_iff.1 h.k14).1).trans h.k14, (hb.block _ (Array.getElem?_eq_some_iff.1 h.k15).1).trans h.k15⟩
end
structure Rq (W : World) (g14 g15 : Nat) (p q r n : Int) : Prop where
  a0 : W.cell? ⟨g14, 0, none⟩ = some (.int .i64 p)
  a1 : W.cell? ⟨g14, 1, none⟩ = some (.int .i64 q)
  b0 : W.cell? ⟨g15, 0, none⟩ = some (.int .i64 r)
  b1 : W.cell? ⟨g15, 1, none⟩ = some (.int .i64 n)
theorem Rq.ch {W W' : World} {g14 g15 k : Nat} {p q r n : Int} (h : Rq W g14 g15 p q r n) (hc : Ch W W' (fun j => j = k)) (h1 : g14 ≠ k) (h2 : g15 ≠ k) : Rq W' g14 g15 p q r n :=
  ⟨(hc.cell (p := ⟨g14, 0, none⟩) (cell_lt h.a0) h1).trans h.a0, (hc.cell (p := ⟨g14, 1, none⟩) (cell_lt h.a1) h1).trans h.a1, (hc.cell (p := ⟨g15, 0, none⟩) (cell_lt h.b0) h2).trans h.b0, (hc.cell (p := ⟨g15, 1, none⟩) (cell_lt h.b1) h2).trans h.b1⟩
/- behind the questions -/
structure Tl (w v w7 : World) (G g g8 g9 g14 g15 : Nat) (s t : As) (a : Option Addr) (m c : Nat) (X : List Cx) : Prop where
  s : Sq w7 g8 g9 g14 g15 s.pR s.pN s.aR s.aN t.pR t.pN t.aR t.aN
  acc : Acc w7 84 G g t a m c X
  bel : Below w.heap.size w w7
  l14 : v.heap.size ≤ g14
  l15 : v.heap.size ≤ g15
  lt8 : g8 < v.heap.size
  lt9 : g9 < v.heap.size
theorem tl_of {w v w5 w6 w7 : World} {G g g8 g9 g14 g15 : Nat} {s t : As} {a : Option Addr} {m c : Nat} {X : List Cx} (HA : Acc v 84 G g t a m c X) (BV : Below w.heap.size w v) (K8 : v.heap[g8]? = some (.cells #[.int .i64 s.pR, .int .i64 s.pN] 34 (0, 0))) (K9 : v.heap[g9]? = some (.cells #[.int .i64 s.aR, .int .i64 s.aN] 34 (0, 0)))
    (H5 : Below v.heap.size v w5) (B6 : Below (w5.alloc (.cells #[.int .i64 t.pR, .int .i64 t.pN] 34)).heap.size (w5.alloc (.cells #[.int .i64 t.pR, .int .i64 t.pN] 34)) w6) (Hg14 : w5.heap.size = g14) (Hg15 : w6.heap.size = g15) (Hw7 : w6.alloc (.cells #[.int .i64 t.aR, .int .i64 t.aN] 34) = w7) : Tl w v w7 G g g8 g9 g14 g15 s t a m c X := by
  have h1 := H5.trans ((alloc1 w5 (.cells #[.int .i64 t.pR, .int .i64 t.pN] 34)).mono H5.size)
  have h2 := h1.trans (B6.mono h1.size)
  have B7 : Below v.heap.size v w7 := by rw [← Hw7]; exact h2.trans ((alloc1 w6 _).mono h2.size)
  have e5 : w5.heap.size < (w5.alloc (.cells #[.int .i64 t.pR, .int .i64 t.pN] 34)).heap.size := by simp
  have k14 : w7.heap[g14]? = some (.cells #[.int .i64 t.pR, .int .i64 t.pN] 34 (0, 0)) := by
    rw [← Hw7, ← Hg14]
    exact ((alloc1 w6 _).block _ (Nat.lt_of_lt_of_le e5 B6.size)).trans ((B6.block _ e5).trans (heap_alloc_new w5 _))
  have k15 : w7.heap[g15]? = some (.cells #[.int .i64 t.aR, .int .i64 t.aN] 34 (0, 0)) := by rw [← Hw7, ← Hg15]; exact heap_alloc_new w6 _
  exact ⟨⟨(B7.block g8 (Array.getElem?_eq_some_iff.1 K8).1).trans K8, (B7.block g9 (Array.getElem?_eq_some_iff.1 K9).1).trans K9, k14, k15⟩, HA.below B7, BV.trans (B7.mono BV.size), by have := H5.size; omega, by have := h2.size; omega, (Array.getElem?_eq_some_iff.1 K8).1, (Array.getElem?_eq_some_iff.1 K9).1⟩
theorem tl_end {w v w7 w9 w10 V1 V2 : World} {G g g8 g9 g14 g15 : Nat} {s t : As} {a : Option Addr} {m c : Nat} {X : List Cx} {nd last : Int} (h : Tl w v w7 G g g8 g9 g14 g15 s t a m c X) (BX : Below w7.heap.size w7 w9) (Hw10 : w9.drew = w10)
    (HV1 : (w10.setCell ⟨g8, 0, none⟩ (.int .i64 t.pR)).setCell ⟨g8, 1, none⟩ (.int .i64 t.pN) = V1) (HV2 : (V1.setCell ⟨g9, 0, none⟩ (.int .i64 t.aR)).setCell ⟨g9, 1, none⟩ (.int .i64 t.aN) = V2) (GE : w.heap.size ≤ g ∧ g < g8 ∧ g8 < g9 ∧ G = g9 + 1) (hl : Okk t ∧ last ≤ t.cl ∧ t.node = nd) :
    Rq w10 g14 g15 t.pR t.pN t.aR t.aN ∧ Rq V1 g14 g15 t.pR t.pN t.aR t.aN ∧ Rq V2 g14 g15 t.pR t.pN t.aR t.aN ∧ w10.cell? ⟨g8, 0, none⟩ = some (.int .i64 s.pR) ∧ w10.cell? ⟨g8, 1, none⟩ = some (.int .i64 s.pN) ∧ (∀ i, w10.frozen? ⟨g8, i, none⟩ = false) ∧ V1.cell? ⟨g9, 0, none⟩ = some (.int .i64 s.aR) ∧ V1.cell? ⟨g9, 1, none⟩ = some (.int .i64 s.aN) ∧ (∀ i, V1.frozen? ⟨g9, i, none⟩ = false) ∧ RS w V2 G g g8 g9 nd t last a m c X := by
  have B10 : Below w7.heap.size w7 w10 := by rw [← Hw10]; exact BX.drew
  have S8 := h.s.below B10
  have A9 := h.acc.below B10
  have B9 := h.bel.trans (B10.mono h.bel.size)
  have R0 : Rq w10 g14 g15 t.pR t.pN t.aR t.aN := ⟨S8.x2, S8.x3, S8.x6, S8.x7⟩
  have C1 : Ch w10 V1 (fun k => k = g8) := by rw [← HV1]; exact (Ch.set _ g8 0 _).trans (Ch.set _ g8 1 _)
  have j8 : V1.heap[g8]? = some (.cells #[.int .i64 t.pR, .int .i64 t.pN] 34 (0, 0)) := by rw [← HV1, set_blk (set_blk S8.k8 0 _) 1 _]; rfl
  have q1 := h.l14
  have q2 := h.l15
  have q3 := h.lt8
  have q4 := h.lt9
  have R1 := R0.ch C1 (by omega) (by omega)
  have j9 := (C1.block g9 (Array.getElem?_eq_some_iff.1 S8.k9).1 (by omega)).trans S8.k9
  have C2 : Ch V1 V2 (fun k => k = g9) := by rw [← HV2]; exact (Ch.set _ g9 0 _).trans (Ch.set _ g9 1 _)
  have i9 : V2.heap[g9]? = some (.cells #[.int .i64 t.aR, .int .i64 t.aN] 34 (0, 0)) := by rw [← HV2, set_blk (set_blk j9 0 _) 1 _]; rfl
  have R2 := R1.ch C2 (by omega) (by omega)
  have i8 := (C2.block g8 (Array.getElem?_eq_some_iff.1 j8).1 (by omega)).trans j8
  have C3 : Ch w10 V2 (fun k => k = g8 ∨ k = g9) := (C1.weak (fun q _ h => .inl h)).trans (C2.weak (fun q _ h => .inr h))
  exact ⟨R0, R1, R2, S8.x0, S8.x1, fun i => by simp [World.frozen?, S8.k8], by simp [World.cell?, j9], by simp [World.cell?, j9], fun i => by simp [World.frozen?, j9], ⟨B9.trans (C3.toBelow B9.size (fun k hk e => by omega)), A9.ch C3 (by omega) (fun q h1 _ h2 => by omega), i8, i9, hl⟩⟩
theorem RS.step {w wr v : World} {G g g8 g9 : Nat} {node : Int} {s : As} {last : Int} {a : Option Addr} {m c : Nat} {X : List Cx} (h : RS w wr G g g8 g9 node s last a m c X) (C : Ch wr v (fun q => q = g)) (GE : w.heap.size ≤ g ∧ g < g8 ∧ g8 < g9 ∧ G = g9 + 1) : v.heap[g8]? = some (.cells #[.int .i64 s.pR, .int .i64 s.pN] 34 (0, 0)) ∧ v.heap[g9]? = some (.cells #[.int .i64 s.aR, .int .i64 s.aN] 34 (0, 0)) ∧ Below w.heap.size w v :=
  ⟨(C.block g8 (Array.getElem?_eq_some_iff.1 h.k8).1 (by omega)).trans h.k8, (C.block g9 (Array.getElem?_eq_some_iff.1 h.k9).1 (by omega)).trans h.k9, h.bel.trans (C.toBelow h.bel.size (fun k hk e => by omega))⟩
set_option maxHeartbeats 8000000 in
theorem rises_n {M : Nat} {E : Nat → Addr} {w : World} {node : Int} {sa : Option Addr} {n sc : Nat} {L : List Opt} (hE : Hid (Sent w M E)) (hM : 3 ≤ M) (hO : Hid (Ops w sa n L)) (hn : n ≤ 140737488351232) :
    Calls Tryd.prog 5 #[.int .i64 node, .slice sa n sc] w fun e w' => e = .returned (.bool true) ∧ Hid (Below w.heap.size w w') := by
  by_cases hN : nod node = true
  · have HN : Hid (0 ≤ node ∧ node < 16) := (of_decide_eq_true hN : 0 ≤ node ∧ node < 16)
    go_enter Tryd.func5, Tryd.ntmps5
    go_upto_region 3 with (go_at_call 8; refine (alive_n hE (by omega)).mono ?_; rintro e w1 ⟨rfl, H1⟩)
    go_upto_region 7 with (go_at_call 9; refine (new_ok node hN).mono ?_; rintro e w2 ⟨rfl, H2⟩)
    obtain ⟨g, Hg⟩ : ∃ g, Hid (w1.heap.size = g) := ⟨_, rfl⟩
    have A2 : Hid (Acc w2 84 (g + 1) g (s0 node) none 0 0 []) := by rw [← Hg.out]; exact (acc_new H2.out).1
    have B2 : Hid (Below w1.heap.size w1 w2) := (acc_new H2.out).2
    rw [Hg.out]
    clear H2 hN
    go_upto_region 8 with (go_at_call 14; refine (promised_n A2).mono ?_; rintro e w3 ⟨rfl, H3⟩)
    obtain ⟨g8, Hg8⟩ : ∃ g8, Hid (w3.heap.size = g8) := ⟨_, rfl⟩
    obtain ⟨g9, Hg9⟩ : ∃ g9, Hid (w3.heap.size + 1 = g9) := ⟨_, rfl⟩
    obtain ⟨w4, Hw4⟩ : ∃ w4, Hid ((w3.alloc (.cells #[.int .i64 (s0 node).pR, .int .i64 (s0 node).pN] 34)).alloc (.cells #[.int .i64 0, .int .i64 0] 34) = w4) := ⟨_, rfl⟩
    obtain ⟨G, HG⟩ : ∃ G, Hid (g9 + 1 = G) := ⟨_, rfl⟩
    have GE : Hid (w.heap.size ≤ g ∧ g < g8 ∧ g8 < g9 ∧ G = g9 + 1) := by
      have := HG.out; have := H1.out.size; have := Hg.out; have := A2.out.glt; have := H3.out.size; have := Hg8.out; have := Hg9.out
      show _ ∧ _ ∧ _ ∧ _
      omega
    have R4 : Hid (RS w w4 G g g8 g9 node (s0 node) 0 none 0 0 []) := by
      have b3 := alloc2 w3 (.cells #[.int .i64 (s0 node).pR, .int .i64 (s0 node).pN] 34) (.cells #[.int .i64 0, .int .i64 0] 34)
      rw [Hw4.out] at b3
      have A4 := (A2.out.below H3.out).below b3
      have bw : Below w.heap.size w w4 := ((H1.out.trans (B2.out.mono H1.out.size)).trans (H3.out.mono (Nat.le_trans H1.out.size B2.out.size))).trans (b3.mono (Nat.le_trans (Nat.le_trans H1.out.size B2.out.size) H3.out.size))
      refine ⟨bw, ⟨A4.blk, Cms.nil _ _ _, fun _ => rfl, rfl, by have := GE.out; omega⟩, ?_, ?_, ⟨okk_s0 node, Int.le_refl 0, rfl⟩⟩
      · rw [← Hw4.out, ← Hg8.out, (alloc1 (w3.alloc (.cells #[.int .i64 (s0 node).pR, .int .i64 (s0 node).pN] 34)) (.cells #[.int .i64 0, .int .i64 0] 34)).block w3.heap.size (by simp)]
        exact heap_alloc_new w3 _
      · rw [← Hw4.out, ← Hg9.out]
        have h := heap_alloc_new (w3.alloc (.cells #[.int .i64 (s0 node).pR, .int .i64 (s0 node).pN] 34)) (.cells #[.int .i64 0, .int .i64 0] 34)
        have h2 : (w3.alloc (.cells #[.int .i64 (s0 node).pR, .int .i64 (s0 node).pN] 34)).heap.size = w3.heap.size + 1 := by simp
        rw [h2] at h
        exact h
    rw [Hw4.out, Hg9.out, Hg8.out]
    clear A2 B2 H3 Hw4 Hg9 Hg8 H1 Hg
    clear HG
    go_wp2
    go_loopw [7, 37] (fun t7 t37 wr => ∃ (i : Nat) (last : Int) (s : As) (a : Option Addr) (m c : Nat) (X : List Cx), i ≤ n ∧ t37 = .int .i64 i ∧ t7 = .int .i64 last ∧ Hid (RS w wr G g g8 g9 node s last a m c X)) (fun _ t37 _ => n - (intOf t37).toNat)
    case atStart => exact ⟨0, 0, s0 node, none, 0, 0, [], by omega, rfl, rfl, R4.out⟩
    case round =>
      obtain ⟨i, last, s, a, m, c, X, hi, rfl, rfl, HR⟩ := hrel
      by_cases hlt : i < n
      · have i3 : (i : Int) < (n : Int) := by omega
        have iL : i < L.length := by rw [← hO.out.len]; exact hlt
        obtain ⟨sb, so, rfl, hrow⟩ := hO.out.row.resolve_left (by omega)
        obtain ⟨x, Hx⟩ : ∃ x, Hid (L[i] = x) := ⟨L[i], (rfl : L[i] = L[i])⟩
        have OP : Opc w sb (so + i * 5) x := by rw [← Hx.out]; exact hrow i iL
        have OPr := OP.below HR.out.bel
        have q0 := OPr.c0
        have q1 := OPr.c1
        have q2 := OPr.c2
        have q3 := OPr.c3
        have q4 := OPr.c4
        have CX : Hid (Cms w 0 x.a x.m x.X ∧ (x.a = none → x.c = 0)) := ⟨OP.led, OP.z⟩
        clear hrow OP OPr
        obtain ⟨wo, Hwo⟩ : ∃ wo, Hid (wr.alloc (.cells #[.int .i64 x.kind, .int .i64 x.which, .int .i64 x.r, .int .i64 x.n, .slice x.a x.m x.c] 39) = wo) := ⟨_, rfl⟩
        obtain ⟨g11, Hg11⟩ : ∃ g11, Hid (wr.heap.size = g11) := ⟨_, rfl⟩
        have Bo : Hid (Below wr.heap.size wr wo) := by rw [← Hwo.out]; exact alloc1 wr _
        have ko : wo.heap[g11]? = some (.cells #[.int .i64 x.kind, .int .i64 x.which, .int .i64 x.r, .int .i64 x.n, .slice x.a x.m x.c] 39 (0, 0)) := by rw [← Hwo.out, ← Hg11.out]; exact heap_alloc_new wr _
        have o0 : wo.cell? ⟨g11, 0, none⟩ = some (.int .i64 x.kind) := by simp [World.cell?, ko]
        have o2 : wo.cell? ⟨g11, 2, none⟩ = some (.int .i64 x.r) := by simp [World.cell?, ko]
        have o3 : wo.cell? ⟨g11, 3, none⟩ = some (.int .i64 x.n) := by simp [World.cell?, ko]
        have o4 : wo.cell? ⟨g11, 4, none⟩ = some (.slice x.a x.m x.c) := by simp [World.cell?, ko]
        have Ro : Hid (RS w wo G g g8 g9 node s last a m c X) := by
          have h := HR.out.step (Ch.below Bo.out) GE.out
          exact ⟨h.2.2, HR.out.acc.below Bo.out, h.1, h.2.1, HR.out.ok⟩
        have Ao : Hid (Acc wo 84 G g s a m c X) := Ro.out.acc
        have Eo : Hid (Sent wo M E) := hE.out.below Ro.out.bel
        have Go : Hid (G ≤ wo.heap.size) := by
          have h1 := (Array.getElem?_eq_some_iff.1 Ro.out.k9).1
          have := GE.out.2.2.2
          show G ≤ _
          omega
        have OK : Hid (Okk s ∧ last ≤ s.cl ∧ s.node = node) := HR.out.ok
        clear HR
        go_upto_region 11 with (fail)
        rw [Hwo.out, Hg11.out]
        clear q0 q1 q2 q3 q4 ko Hwo
        by_cases hk1 : x.kind = 1
        · rw [hk1] at o0
          obtain ⟨t, Ht⟩ : ∃ t, Hid (prS s x.r x.n = t) := ⟨_, rfl⟩
          have FT0 := okk_pr OK.out.1 x.r x.n
          rw [Ht.out] at FT0
          have FT : Hid (Rise s t) := FT0.2.1
          have HT : Hid (Okk t ∧ last ≤ t.cl ∧ t.node = node) := ⟨FT0.1, by rw [FT0.2.2.1]; exact OK.out.2.1, FT0.2.2.2.trans OK.out.2.2⟩
          clear FT0
          go_upto_region 22 with (go_at_call 15; refine (prepare_n Ao Eo (by omega) x.r x.n).mono ?_; rintro e v ⟨ya, ym, yc, rfl, HP⟩)
          obtain ⟨a', m', c', X', HA, K8, K9, BV⟩ : ∃ a' m' c' X', Hid (Acc v 84 G g t a' m' c' X') ∧ Hid (v.heap[g8]? = some (.cells #[.int .i64 s.pR, .int .i64 s.pN] 34 (0, 0))) ∧ Hid (v.heap[g9]? = some (.cells #[.int .i64 s.aR, .int .i64 s.aN] 34 (0, 0))) ∧ Hid (Below w.heap.size w v) := by
            obtain ⟨Y, _, _, h1, h2⟩ := HP.out
            rw [Ht.out] at h1
            have h := Ro.out.step h2 GE.out
            exact ⟨a, m, c, X, h1, h.1, h.2.1, h.2.2⟩
          clear HP o0 o2 o3 o4
          go_upto_region 24 with (first
            | (go_at_call 14; refine (promised_n HA).mono ?_; rintro e w5 ⟨rfl, H5⟩
               have A6 : Hid (Acc (w5.alloc (.cells #[.int .i64 t.pR, .int .i64 t.pN] 34)) 84 G g t a' m' c' X') := (HA.out.below H5.out).below (alloc1 _ _))
            | (go_at_call 18; refine (accepted_n A6).mono ?_; rintro e w6 ⟨a6, c6, rfl, H6⟩))
          have B6 : Hid (Below (w5.alloc (.cells #[.int .i64 t.pR, .int .i64 t.pN] 34)).heap.size (w5.alloc (.cells #[.int .i64 t.pR, .int .i64 t.pN] 34)) w6) := by obtain ⟨Y, _, _, h⟩ := H6.out; exact h
          clear H6
          obtain ⟨g14, Hg14⟩ : ∃ g14, Hid (w5.heap.size = g14) := ⟨_, rfl⟩
          obtain ⟨g15, Hg15⟩ : ∃ g15, Hid (w6.heap.size = g15) := ⟨_, rfl⟩
          obtain ⟨w7, Hw7⟩ : ∃ w7, Hid (w6.alloc (.cells #[.int .i64 t.aR, .int .i64 t.aN] 34) = w7) := ⟨_, rfl⟩
          have TL : Hid (Tl w v w7 G g g8 g9 g14 g15 s t a' m' c' X') := tl_of HA.out BV.out K8.out K9.out H5.out B6.out Hg14.out Hg15.out Hw7.out
          rw [Hw7.out, Hg14.out, Hg15.out]
          clear A6 H5 B6 Hw7 Hg14 Hg15
          have S7 := TL.out.s
          have e0 := S7.x0
          have e1 := S7.x1
          have e2 := S7.x2
          have e3 := S7.x3
          have e4 := S7.x4
          have e5 := S7.x5
          have e6 := S7.x6
          have e7 := S7.x7
          have BX : Hid (Below w7.heap.size w7 w7) := Below.refl _ _
          go_upto_region 26 with (go_at_call 12; refine (refAbove_n _ _ _ _ _).mono ?_; rintro e w9 ⟨rfl, H9⟩; (first | rw [FT.out.1] | rw [FT.out.2.1] | rw [FT.out.2.2])
                                  have S7 := S7.below H9.out
                                  have e0 := S7.x0
                                  have e1 := S7.x1
                                  have e2 := S7.x2
                                  have e3 := S7.x3
                                  have e4 := S7.x4
                                  have e5 := S7.x5
                                  have e6 := S7.x6
                                  have e7 := S7.x7
                                  have BX : Hid (Below w7.heap.size w7 w9) := BX.out.trans (H9.out.mono BX.out.size))
          clear e0 e1 e2 e3 e4 e5 e6 e7
          obtain ⟨w10, Hw10⟩ : ∃ w10, Hid (w9.drew = w10) := ⟨_, rfl⟩
          obtain ⟨V1, HV1⟩ : ∃ V1, Hid ((w10.setCell ⟨g8, 0, none⟩ (.int .i64 t.pR)).setCell ⟨g8, 1, none⟩ (.int .i64 t.pN) = V1) := ⟨_, rfl⟩
          obtain ⟨V2, HV2⟩ : ∃ V2, Hid ((V1.setCell ⟨g9, 0, none⟩ (.int .i64 t.aR)).setCell ⟨g9, 1, none⟩ (.int .i64 t.aN) = V2) := ⟨_, rfl⟩
          obtain ⟨R0, R1, R2, x80, x81, f8, x90, x91, f9, FIN0⟩ := tl_end (nd := node) (last := last) TL.out BX.out Hw10.out HV1.out HV2.out GE.out HT.out
          have FIN : Hid (RS w V2 G g g8 g9 node t last a' m' c' X') := FIN0
          refine wp_region_till (S := fun L W => Rq W g14 g15 t.pR t.pN t.aR t.aN) (by kernel_rfl) (by rw [Hw10.out]; exact R0) (fun hS => ?_)
          rw [Hw10.out] at hS ⊢
          clear S7 FIN0 R0 BX TL
          refine till_read (i := 0) (c := 2) (v := bal t.pR t.pN) (T := fun W => Rq W g14 g15 t.pR t.pN t.aR t.aN) rfl rfl (by kernel_rfl) (by kernel_rfl) (by kernel_rfl) (by kernel_rfl) (by kernel_rfl) (fun _ _ _ h => h) (fun L w => Iff.rfl) (fun L w h1 h2 => h2) (Or.inl ⟨by rfl, fun w h => by have q1 := h.a0; have q2 := h.a1; go_simp⟩) hS (fun hSb => ?_)
          simp only [List.getElem_toArray, List.getElem_cons_zero, List.getElem_cons_succ, Act.put, List.setIfInBounds_toArray, List.set_cons_zero, List.set_cons_succ]
          clear hS
          refine till_read (i := 1) (c := 3) (v := bal t.aR t.aN) (T := fun W => Rq W g14 g15 t.pR t.pN t.aR t.aN) rfl rfl (by kernel_rfl) (by kernel_rfl) (by kernel_rfl) (by kernel_rfl) (by kernel_rfl) (fun _ _ _ h => h) (fun L w => Iff.rfl) (fun L w h1 h2 => h2) (Or.inl ⟨by rfl, fun w h => by have q1 := h.b0; have q2 := h.b1; go_simp⟩) hSb (fun hS => ?_)
          simp only [List.getElem_toArray, List.getElem_cons_zero, List.getElem_cons_succ, Act.put, List.setIfInBounds_toArray, List.set_cons_zero, List.set_cons_succ]
          clear hSb
          refine till_one (i := 2) (by kernel_rfl) rfl (fun K hK => ?_)
          simp only [List.getElem_toArray, List.getElem_cons_zero, List.getElem_cons_succ]
          rw [if_pos (by rfl)]
          go_simp
          rw [HV1.out]
          refine hK.out _ _ (R1) (fun hSb => ?_)
          clear hK K
          try simp only [List.getElem_toArray, List.getElem_cons_zero, List.getElem_cons_succ, Act.put, List.setIfInBounds_toArray, List.set_cons_zero, List.set_cons_succ]
          clear hS
          refine till_one (i := 3) (by kernel_rfl) rfl (fun K hK => ?_)
          simp only [List.getElem_toArray, List.getElem_cons_zero, List.getElem_cons_succ]
          rw [if_pos (by rfl)]
          go_simp
          rw [HV2.out]
          refine hK.out _ _ (R2) (fun hS => ?_)
          clear hK K
          try simp only [List.getElem_toArray, List.getElem_cons_zero, List.getElem_cons_succ, Act.put, List.setIfInBounds_toArray, List.set_cons_zero, List.set_cons_succ]
          clear hSb
          refine till_done (by kernel_rfl) ?_ _
          clear hS
          clear x80 x81 f8 x90 x91 f9 R1 R2 HV1 HV2 Hw10
          go_wp2
          go_roundw
          case rel => exact ⟨i + 1, last, t, a', m', c', X', by omega, by go_num, rfl, FIN.out⟩
          case measure => simp [intOf]; omega
        · by_cases hk2 : x.kind = 2
          · rw [hk2] at o0
            obtain ⟨t, Ht⟩ : ∃ t, Hid (acS s x.r x.n (led x.X) = t) := ⟨_, rfl⟩
            have FT0 := okk_ac OK.out.1 x.r x.n (led x.X)
            rw [Ht.out] at FT0
            have FT : Hid (Rise s t) := FT0.2.1
            have HT : Hid (Okk t ∧ last ≤ t.cl ∧ t.node = node) := ⟨FT0.1, by rw [FT0.2.2.1]; exact OK.out.2.1, FT0.2.2.2.trans OK.out.2.2⟩
            have CXo : Hid (Cms wo 0 x.a x.m x.X) := CX.out.1.below Ro.out.bel
            have CXz : Hid (x.a = none → x.c = 0) := CX.out.2
            have CXn : Hid (∀ q, fpc x.a x.m x.X q → q ≠ g) := fun q hq => by have h1 := (CX.out.1.fp_lt hq).2; have := GE.out; omega
            clear FT0
            go_upto_region 22 with (go_at_call 16; refine (accept_n Ao Eo (by omega) x.r x.n CXo CXz Go CXn).mono ?_; rintro e v ⟨rfl, HP⟩)
            obtain ⟨a', m', c', X', HA, K8, K9, BV⟩ : ∃ a' m' c' X', Hid (Acc v 84 G g t a' m' c' X') ∧ Hid (v.heap[g8]? = some (.cells #[.int .i64 s.pR, .int .i64 s.pN] 34 (0, 0))) ∧ Hid (v.heap[g9]? = some (.cells #[.int .i64 s.aR, .int .i64 s.aN] 34 (0, 0))) ∧ Hid (Below w.heap.size w v) := by
              obtain ⟨a2, m2, c2, X2, h1, _, h2⟩ := HP.out
              rw [Ht.out] at h1
              have h := Ro.out.step h2 GE.out
              exact ⟨a2, m2, c2, X2, h1, h.1, h.2.1, h.2.2⟩
            clear HP o0 o2 o3 o4 CXo CXz CXn
            go_upto_region 24 with (first
              | (go_at_call 14; refine (promised_n HA).mono ?_; rintro e w5 ⟨rfl, H5⟩
                 have A6 : Hid (Acc (w5.alloc (.cells #[.int .i64 t.pR, .int .i64 t.pN] 34)) 84 G g t a' m' c' X') := (HA.out.below H5.out).below (alloc1 _ _))
              | (go_at_call 18; refine (accepted_n A6).mono ?_; rintro e w6 ⟨a6, c6, rfl, H6⟩))
            have B6 : Hid (Below (w5.alloc (.cells #[.int .i64 t.pR, .int .i64 t.pN] 34)).heap.size (w5.alloc (.cells #[.int .i64 t.pR, .int .i64 t.pN] 34)) w6) := by obtain ⟨Y, _, _, h⟩ := H6.out; exact h
            clear H6
            obtain ⟨g14, Hg14⟩ : ∃ g14, Hid (w5.heap.size = g14) := ⟨_, rfl⟩
            obtain ⟨g15, Hg15⟩ : ∃ g15, Hid (w6.heap.size = g15) := ⟨_, rfl⟩
            obtain ⟨w7, Hw7⟩ : ∃ w7, Hid (w6.alloc (.cells #[.int .i64 t.aR, .int .i64 t.aN] 34) = w7) := ⟨_, rfl⟩
            have TL : Hid (Tl w v w7 G g g8 g9 g14 g15 s t a' m' c' X') := tl_of HA.out BV.out K8.out K9.out H5.out B6.out Hg14.out Hg15.out Hw7.out
            rw [Hw7.out, Hg14.out, Hg15.out]
            clear A6 H5 B6 Hw7 Hg14 Hg15
            have S7 := TL.out.s
            have e0 := S7.x0
            have e1 := S7.x1
            have e2 := S7.x2
            have e3 := S7.x3
            have e4 := S7.x4
            have e5 := S7.x5
            have e6 := S7.x6
            have e7 := S7.x7
            have BX : Hid (Below w7.heap.size w7 w7) := Below.refl _ _
            go_upto_region 26 with (go_at_call 12; refine (refAbove_n _ _ _ _ _).mono ?_; rintro e w9 ⟨rfl, H9⟩; (first | rw [FT.out.1] | rw [FT.out.2.1] | rw [FT.out.2.2])
                                    have S7 := S7.below H9.out
                                    have e0 := S7.x0
                                    have e1 := S7.x1
                                    have e2 := S7.x2
                                    have e3 := S7.x3
                                    have e4 := S7.x4
                                    have e5 := S7.x5
                                    have e6 := S7.x6
                                    have e7 := S7.x7
                                    have BX : Hid (Below w7.heap.size w7 w9) := BX.out.trans (H9.out.mono BX.out.size))
            clear e0 e1 e2 e3 e4 e5 e6 e7
            obtain ⟨w10, Hw10⟩ : ∃ w10, Hid (w9.drew = w10) := ⟨_, rfl⟩
            obtain ⟨V1, HV1⟩ : ∃ V1, Hid ((w10.setCell ⟨g8, 0, none⟩ (.int .i64 t.pR)).setCell ⟨g8, 1, none⟩ (.int .i64 t.pN) = V1) := ⟨_, rfl⟩
            obtain ⟨V2, HV2⟩ : ∃ V2, Hid ((V1.setCell ⟨g9, 0, none⟩ (.int .i64 t.aR)).setCell ⟨g9, 1, none⟩ (.int .i64 t.aN) = V2) := ⟨_, rfl⟩
            obtain ⟨R0, R1, R2, x80, x81, f8, x90, x91, f9, FIN0⟩ := tl_end (nd := node) (last := last) TL.out BX.out Hw10.out HV1.out HV2.out GE.out HT.out
            have FIN : Hid (RS w V2 G g g8 g9 node t last a' m' c' X') := FIN0
            refine wp_region_till (S := fun L W => Rq W g14 g15 t.pR t.pN t.aR t.aN) (by kernel_rfl) (by rw [Hw10.out]; exact R0) (fun hS => ?_)
            rw [Hw10.out] at hS ⊢
            clear S7 FIN0 R0 BX TL
            refine till_read (i := 0) (c := 2) (v := bal t.pR t.pN) (T := fun W => Rq W g14 g15 t.pR t.pN t.aR t.aN) rfl rfl (by kernel_rfl) (by kernel_rfl) (by kernel_rfl) (by kernel_rfl) (by kernel_rfl) (fun _ _ _ h => h) (fun L w => Iff.rfl) (fun L w h1 h2 => h2) (Or.inl ⟨by rfl, fun w h => by have q1 := h.a0; have q2 := h.a1; go_simp⟩) hS (fun hSb => ?_)
            simp only [List.getElem_toArray, List.getElem_cons_zero, List.getElem_cons_succ, Act.put, List.setIfInBounds_toArray, List.set_cons_zero, List.set_cons_succ]
            clear hS
            refine till_read (i := 1) (c := 3) (v := bal t.aR t.aN) (T := fun W => Rq W g14 g15 t.pR t.pN t.aR t.aN) rfl rfl (by kernel_rfl) (by kernel_rfl) (by kernel_rfl) (by kernel_rfl) (by kernel_rfl) (fun _ _ _ h => h) (fun L w => Iff.rfl) (fun L w h1 h2 => h2) (Or.inl ⟨by rfl, fun w h => by have q1 := h.b0; have q2 := h.b1; go_simp⟩) hSb (fun hS => ?_)
            simp only [List.getElem_toArray, List.getElem_cons_zero, List.getElem_cons_succ, Act.put, List.setIfInBounds_toArray, List.set_cons_zero, List.set_cons_succ]
            clear hSb
            refine till_one (i := 2) (by kernel_rfl) rfl (fun K hK => ?_)
            simp only [List.getElem_toArray, List.getElem_cons_zero, List.getElem_cons_succ]
            rw [if_pos (by rfl)]
            go_simp
            rw [HV1.out]
            refine hK.out _ _ (R1) (fun hSb => ?_)
            clear hK K
            try simp only [List.getElem_toArray, List.getElem_cons_zero, List.getElem_cons_succ, Act.put, List.setIfInBounds_toArray, List.set_cons_zero, List.set_cons_succ]
            clear hS
            refine till_one (i := 3) (by kernel_rfl) rfl (fun K hK => ?_)
            simp only [List.getElem_toArray, List.getElem_cons_zero, List.getElem_cons_succ]
            rw [if_pos (by rfl)]
            go_simp
            rw [HV2.out]
            refine hK.out _ _ (R2) (fun hS => ?_)
            clear hK K
            try simp only [List.getElem_toArray, List.getElem_cons_zero, List.getElem_cons_succ, Act.put, List.setIfInBounds_toArray, List.set_cons_zero, List.set_cons_succ]
            clear hSb
            refine till_done (by kernel_rfl) ?_ _
            clear hS
            clear x80 x81 f8 x90 x91 f9 R1 R2 HV1 HV2 Hw10
            go_wp2
            go_roundw
            case rel => exact ⟨i + 1, last, t, a', m', c', X', by omega, by go_num, rfl, FIN.out⟩
            case measure => simp [intOf]; omega
          · by_cases hk3 : x.kind = 3
            · rw [hk3] at o0
              obtain ⟨t, Ht⟩ : ∃ t, Hid (clS s x.r = t) := ⟨_, rfl⟩
              have FT0 := okk_cl OK.out.1 x.r
              rw [Ht.out] at FT0
              have FT : Hid (Rise s t) := FT0.2.1
              have HT : Hid (Okk t ∧ last ≤ t.cl ∧ t.node = node) := ⟨FT0.1, Int.le_trans OK.out.2.1 FT0.2.2.1, FT0.2.2.2.trans OK.out.2.2⟩
              clear FT0
              by_cases hc : clk s x.r = 0
              · have EV : Hid (errv E (clk s x.r) = .nilIface) := by show _ = _; rw [hc]; rfl
                obtain ⟨tp, Htp⟩ : ∃ tp, Hid (clT s x.r = tp) := ⟨_, rfl⟩
                have CB : Hid (clB s x.r = (tp + 1, node)) := by show _ = _; simp only [clB, hc, if_true]; rw [Htp.out, OK.out.2.2]
                have tge : last ≤ tp ∧ s.pR ≤ tp := by rw [← Htp.out]; exact ⟨Int.le_trans OK.out.2.1 (clT_cl s x.r), clT_ge s x.r⟩
                have HT2 : Hid (Okk t ∧ tp + 1 ≤ t.cl ∧ t.node = node) := ⟨HT.out.1, by rw [← Ht.out, clS, if_pos hc, Htp.out]; exact Int.le_refl _, HT.out.2.2⟩
                have AT : Hid (abv (tp + 1) node t.pR t.pN = true) := by
                  show _ = _
                  have e : t.pR = s.pR := by rw [← Ht.out, clS, if_pos hc]
                  exact decide_eq_true (.inl (by rw [e]; omega))
                go_upto_region 19 with (go_at_call 17; refine (claim_n Ao Eo hM x.r x.n OK.out.1.p0).mono ?_; rintro e v0 ⟨rfl, HP⟩; rw [EV.out, CB.out])
                obtain ⟨g12, Hg12⟩ : ∃ g12, Hid (v0.heap.size = g12) := ⟨_, rfl⟩
                obtain ⟨w4, Hw4⟩ : ∃ w4, Hid ((v0.alloc (.cells #[.int .i64 (tp + 1), .int .i64 node] 34)).drew = w4) := ⟨_, rfl⟩
                have B4 : Hid (Below v0.heap.size v0 w4) := by rw [← Hw4.out]; exact (alloc1 _ _).drew
                have A4 : Hid (Acc w4 84 G g t a m c X) := by have h := HP.out.1; rw [Ht.out] at h; exact h.below B4.out
                have Q0 : Bq w4 g12 (tp + 1) node := by rw [← Hw4.out, ← Hg12.out]; exact ⟨by simp, by simp⟩
                have C4 : Hid (Ch wo w4 (fun q => q = g)) := HP.out.2.trans (Ch.below B4.out)
                have lle : ¬ (tp + 1 ≤ last) := by omega
                clear HP
                refine wp_region_till (S := fun L W => Bq W g12 (tp + 1) node) (by kernel_rfl) (by rw [Hw4.out]; exact Q0) (fun hS => ?_)
                rw [Hw4.out] at hS ⊢
                rw [Hg12.out]
                refine till_take (i := 0) (v := .pointer (some ⟨g12, 0, none⟩)) rfl (by kernel_rfl) (by kernel_rfl) (by kernel_rfl) (fun _ _ _ h => h) (fun L w => Iff.rfl) (Or.inl ⟨by rfl, fun w => by go_simp⟩) hS (fun hSb => ?_)
                simp only [List.getElem_toArray, List.getElem_cons_zero, List.getElem_cons_succ, Act.put, List.setIfInBounds_toArray, List.set_cons_zero, List.set_cons_succ]
                clear hS
                refine till_read (i := 1) (c := 3) (v := .int .i64 (tp + 1)) (T := fun W => Bq W g12 (tp + 1) node) rfl rfl (by kernel_rfl) (by kernel_rfl) (by kernel_rfl) (by kernel_rfl) (by kernel_rfl) (fun _ _ _ h => h) (fun L w => Iff.rfl) (fun L w h1 h2 => h2) (Or.inl ⟨by rfl, fun w h => by have q1 := h.b0; go_simp⟩) hSb (fun hS => ?_)
                simp only [List.getElem_toArray, List.getElem_cons_zero, List.getElem_cons_succ, Act.put, List.setIfInBounds_toArray, List.set_cons_zero, List.set_cons_succ]
                clear hSb
                refine till_take (i := 2) (v := .int .i64 last) rfl (by kernel_rfl) (by kernel_rfl) (by kernel_rfl) (fun _ _ _ h => h) (fun L w => Iff.rfl) (Or.inl ⟨by rfl, fun w => by go_simp⟩) hS (fun hSb => ?_)
                simp only [List.getElem_toArray, List.getElem_cons_zero, List.getElem_cons_succ, Act.put, List.setIfInBounds_toArray, List.set_cons_zero, List.set_cons_succ]
                clear hS
                refine till_take (i := 3) (v := .bool false) rfl (by kernel_rfl) (by kernel_rfl) (by kernel_rfl) (fun _ _ _ h => h) (fun L w => Iff.rfl) (Or.inl ⟨by rfl, fun w => by go_simp⟩) hSb (fun hS => ?_)
                simp only [List.getElem_toArray, List.getElem_cons_zero, List.getElem_cons_succ, Act.put, List.setIfInBounds_toArray, List.set_cons_zero, List.set_cons_succ]
                clear hSb
                refine till_take (i := 4) (v := .bool false) rfl (by kernel_rfl) (by kernel_rfl) (by kernel_rfl) (fun _ _ _ h => h) (fun L w => Iff.rfl) (Or.inl ⟨by rfl, fun w => by go_simp⟩) hS (fun hSb => ?_)
                simp only [List.getElem_toArray, List.getElem_cons_zero, List.getElem_cons_succ, Act.put, List.setIfInBounds_toArray, List.set_cons_zero, List.set_cons_succ]
                clear hS
                refine till_read (i := 5) (c := 8) (v := bal (tp + 1) node) (T := fun W => Bq W g12 (tp + 1) node) rfl rfl (by kernel_rfl) (by kernel_rfl) (by kernel_rfl) (by kernel_rfl) (by kernel_rfl) (fun _ _ _ h => h) (fun L w => Iff.rfl) (fun L w h1 h2 => h2) (Or.inl ⟨by rfl, fun w h => by have q1 := h.b0; have q2 := h.b1; go_simp⟩) hSb (fun hS => ?_)
                simp only [List.getElem_toArray, List.getElem_cons_zero, List.getElem_cons_succ, Act.put, List.setIfInBounds_toArray, List.set_cons_zero, List.set_cons_succ]
                clear hSb
                refine till_take (i := 6) (v := .pointer (some ⟨g, 0, none⟩)) rfl (by kernel_rfl) (by kernel_rfl) (by kernel_rfl) (fun _ _ _ h => h) (fun L w => Iff.rfl) (Or.inl ⟨by rfl, fun w => by go_simp⟩) hS (fun hSb => ?_)
                simp only [List.getElem_toArray, List.getElem_cons_zero, List.getElem_cons_succ, Act.put, List.setIfInBounds_toArray, List.set_cons_zero, List.set_cons_succ]
                clear hS
                refine till_one (i := 7) (by kernel_rfl) rfl (fun K hK => ?_)
                simp only [List.getElem_toArray, List.getElem_cons_zero, List.getElem_cons_succ]
                rw [if_pos (by rfl)]
                go_simp
                go_wp2_with (go_at_call 14; refine (promised_n A4).mono ?_; rintro e w3 ⟨rfl, H3⟩)
                have Q3 : Bq w3 g12 (tp + 1) node := hSb.below H3.out
                refine hK.out _ _ (Q3) (fun hS => ?_)
                clear hK K
                try simp only [List.getElem_toArray, List.getElem_cons_zero, List.getElem_cons_succ, Act.put, List.setIfInBounds_toArray, List.set_cons_zero, List.set_cons_succ]
                clear hSb
                refine till_one (i := 8) (by kernel_rfl) rfl (fun K hK => ?_)
                simp only [List.getElem_toArray, List.getElem_cons_zero, List.getElem_cons_succ]
                rw [if_pos (by rfl)]
                go_simp
                go_wp2_with (go_at_call 12; refine (refAbove_n _ _ _ _ _).mono ?_; rintro e w4_ ⟨rfl, H4⟩; rw [AT.out])
                have Q4 : Bq w4_ g12 (tp + 1) node := Q3.below H4.out
                refine hK.out _ _ (Q4) (fun hSb => ?_)
                clear hK K
                try simp only [List.getElem_toArray, List.getElem_cons_zero, List.getElem_cons_succ, Act.put, List.setIfInBounds_toArray, List.set_cons_zero, List.set_cons_succ]
                clear hS
                refine till_take (i := 9) (v := .bool false) rfl (by kernel_rfl) (by kernel_rfl) (by kernel_rfl) (fun _ _ _ h => h) (fun L w => Iff.rfl) (Or.inl ⟨by rfl, fun w => by go_simp⟩) hSb (fun hS => ?_)
                simp only [List.getElem_toArray, List.getElem_cons_zero, List.getElem_cons_succ, Act.put, List.setIfInBounds_toArray, List.set_cons_zero, List.set_cons_succ]
                clear hSb
                refine till_take (i := 10) (v := .bool false) rfl (by kernel_rfl) (by kernel_rfl) (by kernel_rfl) (fun _ _ _ h => h) (fun L w => Iff.rfl) (Or.inl ⟨by rfl, fun w => by go_simp⟩) hS (fun hSb => ?_)
                simp only [List.getElem_toArray, List.getElem_cons_zero, List.getElem_cons_succ, Act.put, List.setIfInBounds_toArray, List.set_cons_zero, List.set_cons_succ]
                clear hS
                refine till_take (i := 11) (v := .bool false) rfl (by kernel_rfl) (by kernel_rfl) (by kernel_rfl) (fun _ _ _ h => h) (fun L w => Iff.rfl) (Or.inl ⟨by rfl, fun w => by go_simp⟩) hSb (fun hS => ?_)
                simp only [List.getElem_toArray, List.getElem_cons_zero, List.getElem_cons_succ, Act.put, List.setIfInBounds_toArray, List.set_cons_zero, List.set_cons_succ]
                clear hSb
                refine till_take (i := 12) (v := .pointer (some ⟨g12, 1, none⟩)) rfl (by kernel_rfl) (by kernel_rfl) (by kernel_rfl) (fun _ _ _ h => h) (fun L w => Iff.rfl) (Or.inl ⟨by rfl, fun w => by go_simp⟩) hS (fun hSb => ?_)
                simp only [List.getElem_toArray, List.getElem_cons_zero, List.getElem_cons_succ, Act.put, List.setIfInBounds_toArray, List.set_cons_zero, List.set_cons_succ]
                clear hS
                refine till_read (i := 13) (c := 15) (v := .int .i64 node) (T := fun W => Bq W g12 (tp + 1) node) rfl rfl (by kernel_rfl) (by kernel_rfl) (by kernel_rfl) (by kernel_rfl) (by kernel_rfl) (fun _ _ _ h => h) (fun L w => Iff.rfl) (fun L w h1 h2 => h2) (Or.inl ⟨by rfl, fun w h => by have q1 := h.b1; go_simp⟩) hSb (fun hS => ?_)
                simp only [List.getElem_toArray, List.getElem_cons_zero, List.getElem_cons_succ, Act.put, List.setIfInBounds_toArray, List.set_cons_zero, List.set_cons_succ]
                clear hSb
                refine till_take (i := 14) (v := .int .i64 node) rfl (by kernel_rfl) (by kernel_rfl) (by kernel_rfl) (fun _ _ _ h => h) (fun L w => Iff.rfl) (Or.inl ⟨by rfl, fun w => by go_simp⟩) hS (fun hSb => ?_)
                simp only [List.getElem_toArray, List.getElem_cons_zero, List.getElem_cons_succ, Act.put, List.setIfInBounds_toArray, List.set_cons_zero, List.set_cons_succ]
                clear hS
                refine till_take (i := 15) (v := .bool false) rfl (by kernel_rfl) (by kernel_rfl) (by kernel_rfl) (fun _ _ _ h => h) (fun L w => Iff.rfl) (Or.inl ⟨by rfl, fun w => by go_simp⟩) hSb (fun hS => ?_)
                simp only [List.getElem_toArray, List.getElem_cons_zero, List.getElem_cons_succ, Act.put, List.setIfInBounds_toArray, List.set_cons_zero, List.set_cons_succ]
                clear hSb
                refine till_take (i := 16) (v := .bool false) rfl (by kernel_rfl) (by kernel_rfl) (by kernel_rfl) (fun _ _ _ h => h) (fun L w => Iff.rfl) (Or.inl ⟨by rfl, fun w => by go_simp⟩) hS (fun hSb => ?_)
                simp only [List.getElem_toArray, List.getElem_cons_zero, List.getElem_cons_succ, Act.put, List.setIfInBounds_toArray, List.set_cons_zero, List.set_cons_succ]
                clear hS
                refine till_done (by kernel_rfl) ?_ _
                clear hSb
                have y0 := Q4.b0
                go_upto_region 22 with (fail)
                obtain ⟨v, Hv⟩ : ∃ v, Hid (w4_ = v) := ⟨_, rfl⟩
                obtain ⟨a', m', c', X', HA, K8, K9, BV⟩ : ∃ a' m' c' X', Hid (Acc v 84 G g t a' m' c' X') ∧ Hid (v.heap[g8]? = some (.cells #[.int .i64 s.pR, .int .i64 s.pN] 34 (0, 0))) ∧ Hid (v.heap[g9]? = some (.cells #[.int .i64 s.aR, .int .i64 s.aN] 34 (0, 0))) ∧ Hid (Below w.heap.size w v) := by
                  rw [← Hv.out]
                  have h := Ro.out.step ((C4.out.trans (Ch.below H3.out)).trans (Ch.below H4.out)) GE.out
                  exact ⟨a, m, c, X, (A4.out.below H3.out).below H4.out, h.1, h.2.1, h.2.2⟩
                rw [Hv.out]
                clear Q3 Q4 y0 lle tge H3 H4 B4 o0 o2 o3 o4
                go_upto_region 24 with (first
                  | (go_at_call 14; refine (promised_n HA).mono ?_; rintro e w5 ⟨rfl, H5⟩
                     have A6 : Hid (Acc (w5.alloc (.cells #[.int .i64 t.pR, .int .i64 t.pN] 34)) 84 G g t a' m' c' X') := (HA.out.below H5.out).below (alloc1 _ _))
                  | (go_at_call 18; refine (accepted_n A6).mono ?_; rintro e w6 ⟨a6, c6, rfl, H6⟩))
                have B6 : Hid (Below (w5.alloc (.cells #[.int .i64 t.pR, .int .i64 t.pN] 34)).heap.size (w5.alloc (.cells #[.int .i64 t.pR, .int .i64 t.pN] 34)) w6) := by obtain ⟨Y, _, _, h⟩ := H6.out; exact h
                clear H6
                obtain ⟨g14, Hg14⟩ : ∃ g14, Hid (w5.heap.size = g14) := ⟨_, rfl⟩
                obtain ⟨g15, Hg15⟩ : ∃ g15, Hid (w6.heap.size = g15) := ⟨_, rfl⟩
                obtain ⟨w7, Hw7⟩ : ∃ w7, Hid (w6.alloc (.cells #[.int .i64 t.aR, .int .i64 t.aN] 34) = w7) := ⟨_, rfl⟩
                have TL : Hid (Tl w v w7 G g g8 g9 g14 g15 s t a' m' c' X') := tl_of HA.out BV.out K8.out K9.out H5.out B6.out Hg14.out Hg15.out Hw7.out
                rw [Hw7.out, Hg14.out, Hg15.out]
                clear A6 H5 B6 Hw7 Hg14 Hg15
                have S7 := TL.out.s
                have e0 := S7.x0
                have e1 := S7.x1
                have e2 := S7.x2
                have e3 := S7.x3
                have e4 := S7.x4
                have e5 := S7.x5
                have e6 := S7.x6
                have e7 := S7.x7
                have BX : Hid (Below w7.heap.size w7 w7) := Below.refl _ _
                go_upto_region 26 with (go_at_call 12; refine (refAbove_n _ _ _ _ _).mono ?_; rintro e w9 ⟨rfl, H9⟩; (first | rw [FT.out.1] | rw [FT.out.2.1] | rw [FT.out.2.2])
                                        have S7 := S7.below H9.out
                                        have e0 := S7.x0
                                        have e1 := S7.x1
                                        have e2 := S7.x2
                                        have e3 := S7.x3
                                        have e4 := S7.x4
                                        have e5 := S7.x5
                                        have e6 := S7.x6
                                        have e7 := S7.x7
                                        have BX : Hid (Below w7.heap.size w7 w9) := BX.out.trans (H9.out.mono BX.out.size))
                clear e0 e1 e2 e3 e4 e5 e6 e7
                obtain ⟨w10, Hw10⟩ : ∃ w10, Hid (w9.drew = w10) := ⟨_, rfl⟩
                obtain ⟨V1, HV1⟩ : ∃ V1, Hid ((w10.setCell ⟨g8, 0, none⟩ (.int .i64 t.pR)).setCell ⟨g8, 1, none⟩ (.int .i64 t.pN) = V1) := ⟨_, rfl⟩
                obtain ⟨V2, HV2⟩ : ∃ V2, Hid ((V1.setCell ⟨g9, 0, none⟩ (.int .i64 t.aR)).setCell ⟨g9, 1, none⟩ (.int .i64 t.aN) = V2) := ⟨_, rfl⟩
                obtain ⟨R0, R1, R2, x80, x81, f8, x90, x91, f9, FIN0⟩ := tl_end (nd := node) (last := (tp + 1)) TL.out BX.out Hw10.out HV1.out HV2.out GE.out HT2.out
                have FIN : Hid (RS w V2 G g g8 g9 node t (tp + 1) a' m' c' X') := FIN0
                refine wp_region_till (S := fun L W => Rq W g14 g15 t.pR t.pN t.aR t.aN) (by kernel_rfl) (by rw [Hw10.out]; exact R0) (fun hS => ?_)
                rw [Hw10.out] at hS ⊢
                clear S7 FIN0 R0 BX TL
                refine till_read (i := 0) (c := 2) (v := bal t.pR t.pN) (T := fun W => Rq W g14 g15 t.pR t.pN t.aR t.aN) rfl rfl (by kernel_rfl) (by kernel_rfl) (by kernel_rfl) (by kernel_rfl) (by kernel_rfl) (fun _ _ _ h => h) (fun L w => Iff.rfl) (fun L w h1 h2 => h2) (Or.inl ⟨by rfl, fun w h => by have q1 := h.a0; have q2 := h.a1; go_simp⟩) hS (fun hSb => ?_)
                simp only [List.getElem_toArray, List.getElem_cons_zero, List.getElem_cons_succ, Act.put, List.setIfInBounds_toArray, List.set_cons_zero, List.set_cons_succ]
                clear hS
                refine till_read (i := 1) (c := 3) (v := bal t.aR t.aN) (T := fun W => Rq W g14 g15 t.pR t.pN t.aR t.aN) rfl rfl (by kernel_rfl) (by kernel_rfl) (by kernel_rfl) (by kernel_rfl) (by kernel_rfl) (fun _ _ _ h => h) (fun L w => Iff.rfl) (fun L w h1 h2 => h2) (Or.inl ⟨by rfl, fun w h => by have q1 := h.b0; have q2 := h.b1; go_simp⟩) hSb (fun hS => ?_)
                simp only [List.getElem_toArray, List.getElem_cons_zero, List.getElem_cons_succ, Act.put, List.setIfInBounds_toArray, List.set_cons_zero, List.set_cons_succ]
                clear hSb
                refine till_one (i := 2) (by kernel_rfl) rfl (fun K hK => ?_)
                simp only [List.getElem_toArray, List.getElem_cons_zero, List.getElem_cons_succ]
                rw [if_pos (by rfl)]
                go_simp
                rw [HV1.out]
                refine hK.out _ _ (R1) (fun hSb => ?_)
                clear hK K
                try simp only [List.getElem_toArray, List.getElem_cons_zero, List.getElem_cons_succ, Act.put, List.setIfInBounds_toArray, List.set_cons_zero, List.set_cons_succ]
                clear hS
                refine till_one (i := 3) (by kernel_rfl) rfl (fun K hK => ?_)
                simp only [List.getElem_toArray, List.getElem_cons_zero, List.getElem_cons_succ]
                rw [if_pos (by rfl)]
                go_simp
                rw [HV2.out]
                refine hK.out _ _ (R2) (fun hS => ?_)
                clear hK K
                try simp only [List.getElem_toArray, List.getElem_cons_zero, List.getElem_cons_succ, Act.put, List.setIfInBounds_toArray, List.set_cons_zero, List.set_cons_succ]
                clear hSb
                refine till_done (by kernel_rfl) ?_ _
                clear hS
                clear x80 x81 f8 x90 x91 f9 R1 R2 HV1 HV2 Hw10
                go_wp2
                go_roundw
                case rel => exact ⟨i + 1, (tp + 1), t, a', m', c', X', by omega, by go_num, rfl, FIN.out⟩
                case measure => simp [intOf]; omega
              · obtain ⟨ad, ev⟩ := errv_ne (E := E) hc
                have EV : Hid (errv E (clk s x.r) = .iface 102 (.pointer (some ad))) := ev
                clear ev
                have CB : Hid (clB s x.r = (0, 0)) := by show _ = _; simp only [clB, if_neg hc]
                go_upto_region 22 with (go_at_call 17; refine (claim_n Ao Eo hM x.r x.n OK.out.1.p0).mono ?_; rintro e v0 ⟨rfl, HP⟩; rw [EV.out, CB.out])
                obtain ⟨v, Hv⟩ : ∃ v, Hid (v0.alloc (.cells #[.int .i64 0, .int .i64 0] 34) = v) := ⟨_, rfl⟩
                obtain ⟨a', m', c', X', HA, K8, K9, BV⟩ : ∃ a' m' c' X', Hid (Acc v 84 G g t a' m' c' X') ∧ Hid (v.heap[g8]? = some (.cells #[.int .i64 s.pR, .int .i64 s.pN] 34 (0, 0))) ∧ Hid (v.heap[g9]? = some (.cells #[.int .i64 s.aR, .int .i64 s.aN] 34 (0, 0))) ∧ Hid (Below w.heap.size w v) := by
                  rw [← Hv.out]
                  have h1 := HP.out.1
                  rw [Ht.out] at h1
                  have h := Ro.out.step (HP.out.2.trans (Ch.below (alloc1 v0 (.cells #[.int .i64 0, .int .i64 0] 34)))) GE.out
                  exact ⟨a, m, c, X, h1.below (alloc1 _ _), h.1, h.2.1, h.2.2⟩
                rw [Hv.out]
                clear HP o0 o2 o3 o4
                go_upto_region 24 with (first
                  | (go_at_call 14; refine (promised_n HA).mono ?_; rintro e w5 ⟨rfl, H5⟩
                     have A6 : Hid (Acc (w5.alloc (.cells #[.int .i64 t.pR, .int .i64 t.pN] 34)) 84 G g t a' m' c' X') := (HA.out.below H5.out).below (alloc1 _ _))
                  | (go_at_call 18; refine (accepted_n A6).mono ?_; rintro e w6 ⟨a6, c6, rfl, H6⟩))
                have B6 : Hid (Below (w5.alloc (.cells #[.int .i64 t.pR, .int .i64 t.pN] 34)).heap.size (w5.alloc (.cells #[.int .i64 t.pR, .int .i64 t.pN] 34)) w6) := by obtain ⟨Y, _, _, h⟩ := H6.out; exact h
                clear H6
                obtain ⟨g14, Hg14⟩ : ∃ g14, Hid (w5.heap.size = g14) := ⟨_, rfl⟩
                obtain ⟨g15, Hg15⟩ : ∃ g15, Hid (w6.heap.size = g15) := ⟨_, rfl⟩
                obtain ⟨w7, Hw7⟩ : ∃ w7, Hid (w6.alloc (.cells #[.int .i64 t.aR, .int .i64 t.aN] 34) = w7) := ⟨_, rfl⟩
                have TL : Hid (Tl w v w7 G g g8 g9 g14 g15 s t a' m' c' X') := tl_of HA.out BV.out K8.out K9.out H5.out B6.out Hg14.out Hg15.out Hw7.out
                rw [Hw7.out, Hg14.out, Hg15.out]
                clear A6 H5 B6 Hw7 Hg14 Hg15
                have S7 := TL.out.s
                have e0 := S7.x0
                have e1 := S7.x1
                have e2 := S7.x2
                have e3 := S7.x3
                have e4 := S7.x4
                have e5 := S7.x5
                have e6 := S7.x6
                have e7 := S7.x7
                have BX : Hid (Below w7.heap.size w7 w7) := Below.refl _ _
                go_upto_region 26 with (go_at_call 12; refine (refAbove_n _ _ _ _ _).mono ?_; rintro e w9 ⟨rfl, H9⟩; (first | rw [FT.out.1] | rw [FT.out.2.1] | rw [FT.out.2.2])
                                        have S7 := S7.below H9.out
                                        have e0 := S7.x0
                                        have e1 := S7.x1
                                        have e2 := S7.x2
                                        have e3 := S7.x3
                                        have e4 := S7.x4
                                        have e5 := S7.x5
                                        have e6 := S7.x6
                                        have e7 := S7.x7
                                        have BX : Hid (Below w7.heap.size w7 w9) := BX.out.trans (H9.out.mono BX.out.size))
                clear e0 e1 e2 e3 e4 e5 e6 e7
                obtain ⟨w10, Hw10⟩ : ∃ w10, Hid (w9.drew = w10) := ⟨_, rfl⟩
                obtain ⟨V1, HV1⟩ : ∃ V1, Hid ((w10.setCell ⟨g8, 0, none⟩ (.int .i64 t.pR)).setCell ⟨g8, 1, none⟩ (.int .i64 t.pN) = V1) := ⟨_, rfl⟩
                obtain ⟨V2, HV2⟩ : ∃ V2, Hid ((V1.setCell ⟨g9, 0, none⟩ (.int .i64 t.aR)).setCell ⟨g9, 1, none⟩ (.int .i64 t.aN) = V2) := ⟨_, rfl⟩
                obtain ⟨R0, R1, R2, x80, x81, f8, x90, x91, f9, FIN0⟩ := tl_end (nd := node) (last := last) TL.out BX.out Hw10.out HV1.out HV2.out GE.out HT.out
                have FIN : Hid (RS w V2 G g g8 g9 node t last a' m' c' X') := FIN0
                refine wp_region_till (S := fun L W => Rq W g14 g15 t.pR t.pN t.aR t.aN) (by kernel_rfl) (by rw [Hw10.out]; exact R0) (fun hS => ?_)
                rw [Hw10.out] at hS ⊢
                clear S7 FIN0 R0 BX TL
                refine till_read (i := 0) (c := 2) (v := bal t.pR t.pN) (T := fun W => Rq W g14 g15 t.pR t.pN t.aR t.aN) rfl rfl (by kernel_rfl) (by kernel_rfl) (by kernel_rfl) (by kernel_rfl) (by kernel_rfl) (fun _ _ _ h => h) (fun L w => Iff.rfl) (fun L w h1 h2 => h2) (Or.inl ⟨by rfl, fun w h => by have q1 := h.a0; have q2 := h.a1; go_simp⟩) hS (fun hSb => ?_)
                simp only [List.getElem_toArray, List.getElem_cons_zero, List.getElem_cons_succ, Act.put, List.setIfInBounds_toArray, List.set_cons_zero, List.set_cons_succ]
                clear hS
                refine till_read (i := 1) (c := 3) (v := bal t.aR t.aN) (T := fun W => Rq W g14 g15 t.pR t.pN t.aR t.aN) rfl rfl (by kernel_rfl) (by kernel_rfl) (by kernel_rfl) (by kernel_rfl) (by kernel_rfl) (fun _ _ _ h => h) (fun L w => Iff.rfl) (fun L w h1 h2 => h2) (Or.inl ⟨by rfl, fun w h => by have q1 := h.b0; have q2 := h.b1; go_simp⟩) hSb (fun hS => ?_)
                simp only [List.getElem_toArray, List.getElem_cons_zero, List.getElem_cons_succ, Act.put, List.setIfInBounds_toArray, List.set_cons_zero, List.set_cons_succ]
                clear hSb
                refine till_one (i := 2) (by kernel_rfl) rfl (fun K hK => ?_)
                simp only [List.getElem_toArray, List.getElem_cons_zero, List.getElem_cons_succ]
                rw [if_pos (by rfl)]
                go_simp
                rw [HV1.out]
                refine hK.out _ _ (R1) (fun hSb => ?_)
                clear hK K
                try simp only [List.getElem_toArray, List.getElem_cons_zero, List.getElem_cons_succ, Act.put, List.setIfInBounds_toArray, List.set_cons_zero, List.set_cons_succ]
                clear hS
                refine till_one (i := 3) (by kernel_rfl) rfl (fun K hK => ?_)
                simp only [List.getElem_toArray, List.getElem_cons_zero, List.getElem_cons_succ]
                rw [if_pos (by rfl)]
                go_simp
                rw [HV2.out]
                refine hK.out _ _ (R2) (fun hS => ?_)
                clear hK K
                try simp only [List.getElem_toArray, List.getElem_cons_zero, List.getElem_cons_succ, Act.put, List.setIfInBounds_toArray, List.set_cons_zero, List.set_cons_succ]
                clear hSb
                refine till_done (by kernel_rfl) ?_ _
                clear hS
                clear x80 x81 f8 x90 x91 f9 R1 R2 HV1 HV2 Hw10
                go_wp2
                go_roundw
                case rel => exact ⟨i + 1, last, t, a', m', c', X', by omega, by go_num, rfl, FIN.out⟩
                case measure => simp [intOf]; omega
            · obtain ⟨v, Hv⟩ : ∃ v, Hid (wo = v) := ⟨_, rfl⟩
              obtain ⟨t, Ht⟩ : ∃ t, Hid (s = t) := ⟨_, rfl⟩
              have FT : Hid (Rise s t) := by rw [← Ht.out]; exact OK.out.1.refl
              have HT : Hid (Okk t ∧ last ≤ t.cl ∧ t.node = node) := by rw [← Ht.out]; exact OK.out
              obtain ⟨a', m', c', X', HA, K8, K9, BV⟩ : ∃ a' m' c' X', Hid (Acc v 84 G g t a' m' c' X') ∧ Hid (v.heap[g8]? = some (.cells #[.int .i64 s.pR, .int .i64 s.pN] 34 (0, 0))) ∧ Hid (v.heap[g9]? = some (.cells #[.int .i64 s.aR, .int .i64 s.aN] 34 (0, 0))) ∧ Hid (Below w.heap.size w v) := by
                rw [← Hv.out, ← Ht.out]
                exact ⟨a, m, c, X, Ro.out.acc, Ro.out.k8, Ro.out.k9, Ro.out.bel⟩
              go_upto_region 22 with (fail)
              rw [Hv.out]
              clear o0 o2 o3 o4
              go_upto_region 24 with (first
                | (go_at_call 14; refine (promised_n HA).mono ?_; rintro e w5 ⟨rfl, H5⟩
                   have A6 : Hid (Acc (w5.alloc (.cells #[.int .i64 t.pR, .int .i64 t.pN] 34)) 84 G g t a' m' c' X') := (HA.out.below H5.out).below (alloc1 _ _))
                | (go_at_call 18; refine (accepted_n A6).mono ?_; rintro e w6 ⟨a6, c6, rfl, H6⟩))
              have B6 : Hid (Below (w5.alloc (.cells #[.int .i64 t.pR, .int .i64 t.pN] 34)).heap.size (w5.alloc (.cells #[.int .i64 t.pR, .int .i64 t.pN] 34)) w6) := by obtain ⟨Y, _, _, h⟩ := H6.out; exact h
              clear H6
              obtain ⟨g14, Hg14⟩ : ∃ g14, Hid (w5.heap.size = g14) := ⟨_, rfl⟩
              obtain ⟨g15, Hg15⟩ : ∃ g15, Hid (w6.heap.size = g15) := ⟨_, rfl⟩
              obtain ⟨w7, Hw7⟩ : ∃ w7, Hid (w6.alloc (.cells #[.int .i64 t.aR, .int .i64 t.aN] 34) = w7) := ⟨_, rfl⟩
              have TL : Hid (Tl w v w7 G g g8 g9 g14 g15 s t a' m' c' X') := tl_of HA.out BV.out K8.out K9.out H5.out B6.out Hg14.out Hg15.out Hw7.out
              rw [Hw7.out, Hg14.out, Hg15.out]
              clear A6 H5 B6 Hw7 Hg14 Hg15
              have S7 := TL.out.s
              have e0 := S7.x0
              have e1 := S7.x1
              have e2 := S7.x2
              have e3 := S7.x3
              have e4 := S7.x4
              have e5 := S7.x5
              have e6 := S7.x6
              have e7 := S7.x7
              have BX : Hid (Below w7.heap.size w7 w7) := Below.refl _ _
              go_upto_region 26 with (go_at_call 12; refine (refAbove_n _ _ _ _ _).mono ?_; rintro e w9 ⟨rfl, H9⟩; (first | rw [FT.out.1] | rw [FT.out.2.1] | rw [FT.out.2.2])
                                      have S7 := S7.below H9.out
                                      have e0 := S7.x0
                                      have e1 := S7.x1
                                      have e2 := S7.x2
                                      have e3 := S7.x3
                                      have e4 := S7.x4
                                      have e5 := S7.x5
                                      have e6 := S7.x6
                                      have e7 := S7.x7
                                      have BX : Hid (Below w7.heap.size w7 w9) := BX.out.trans (H9.out.mono BX.out.size))
              clear e0 e1 e2 e3 e4 e5 e6 e7
              obtain ⟨w10, Hw10⟩ : ∃ w10, Hid (w9.drew = w10) := ⟨_, rfl⟩
              obtain ⟨V1, HV1⟩ : ∃ V1, Hid ((w10.setCell ⟨g8, 0, none⟩ (.int .i64 t.pR)).setCell ⟨g8, 1, none⟩ (.int .i64 t.pN) = V1) := ⟨_, rfl⟩
              obtain ⟨V2, HV2⟩ : ∃ V2, Hid ((V1.setCell ⟨g9, 0, none⟩ (.int .i64 t.aR)).setCell ⟨g9, 1, none⟩ (.int .i64 t.aN) = V2) := ⟨_, rfl⟩
              obtain ⟨R0, R1, R2, x80, x81, f8, x90, x91, f9, FIN0⟩ := tl_end (nd := node) (last := last) TL.out BX.out Hw10.out HV1.out HV2.out GE.out HT.out
              have FIN : Hid (RS w V2 G g g8 g9 node t last a' m' c' X') := FIN0
              refine wp_region_till (S := fun L W => Rq W g14 g15 t.pR t.pN t.aR t.aN) (by kernel_rfl) (by rw [Hw10.out]; exact R0) (fun hS => ?_)
              rw [Hw10.out] at hS ⊢
              clear S7 FIN0 R0 BX TL
              refine till_read (i := 0) (c := 2) (v := bal t.pR t.pN) (T := fun W => Rq W g14 g15 t.pR t.pN t.aR t.aN) rfl rfl (by kernel_rfl) (by kernel_rfl) (by kernel_rfl) (by kernel_rfl) (by kernel_rfl) (fun _ _ _ h => h) (fun L w => Iff.rfl) (fun L w h1 h2 => h2) (Or.inl ⟨by rfl, fun w h => by have q1 := h.a0; have q2 := h.a1; go_simp⟩) hS (fun hSb => ?_)
              simp only [List.getElem_toArray, List.getElem_cons_zero, List.getElem_cons_succ, Act.put, List.setIfInBounds_toArray, List.set_cons_zero, List.set_cons_succ]
              clear hS
              refine till_read (i := 1) (c := 3) (v := bal t.aR t.aN) (T := fun W => Rq W g14 g15 t.pR t.pN t.aR t.aN) rfl rfl (by kernel_rfl) (by kernel_rfl) (by kernel_rfl) (by kernel_rfl) (by kernel_rfl) (fun _ _ _ h => h) (fun L w => Iff.rfl) (fun L w h1 h2 => h2) (Or.inl ⟨by rfl, fun w h => by have q1 := h.b0; have q2 := h.b1; go_simp⟩) hSb (fun hS => ?_)
              simp only [List.getElem_toArray, List.getElem_cons_zero, List.getElem_cons_succ, Act.put, List.setIfInBounds_toArray, List.set_cons_zero, List.set_cons_succ]
              clear hSb
              refine till_one (i := 2) (by kernel_rfl) rfl (fun K hK => ?_)
              simp only [List.getElem_toArray, List.getElem_cons_zero, List.getElem_cons_succ]
              rw [if_pos (by rfl)]
              go_simp
              rw [HV1.out]
              refine hK.out _ _ (R1) (fun hSb => ?_)
              clear hK K
              try simp only [List.getElem_toArray, List.getElem_cons_zero, List.getElem_cons_succ, Act.put, List.setIfInBounds_toArray, List.set_cons_zero, List.set_cons_succ]
              clear hS
              refine till_one (i := 3) (by kernel_rfl) rfl (fun K hK => ?_)
              simp only [List.getElem_toArray, List.getElem_cons_zero, List.getElem_cons_succ]
              rw [if_pos (by rfl)]
              go_simp
              rw [HV2.out]
              refine hK.out _ _ (R2) (fun hS => ?_)
              clear hK K
              try simp only [List.getElem_toArray, List.getElem_cons_zero, List.getElem_cons_succ, Act.put, List.setIfInBounds_toArray, List.set_cons_zero, List.set_cons_succ]
              clear hSb
              refine till_done (by kernel_rfl) ?_ _
              clear hS
              clear x80 x81 f8 x90 x91 f9 R1 R2 HV1 HV2 Hw10
              go_wp2
              go_roundw
              case rel => exact ⟨i + 1, last, t, a', m', c', X', by omega, by go_num, rfl, FIN.out⟩
              case measure => simp [intOf]; omega
      · go_wp2
        go_ret
        exact ⟨rfl, HR.out.bel⟩
  · have HNF : nod node = false := by simpa using hN
    have HNo : ¬ (0 ≤ node ∧ node < 16) := of_decide_eq_false HNF
    go_enter Tryd.func5, Tryd.ntmps5
    have E1 : ∀ w1, Below w.heap.size w w1 → Hid (Sent w1 M E) := fun w1 h => hE.out.below h
    by_cases h0 : node < 0
    · go_wp2_with (first
        | (go_at_call 8; refine (alive_n hE (by omega)).mono ?_; rintro e w1 ⟨rfl, H1⟩)
        | (go_at_call 9; refine (new_no node HNF (E1 w1 H1.out) (by omega)).mono ?_; rintro e w2 ⟨rfl, H2⟩; unfold er))
      go_ret
      exact ⟨rfl, H1.out.trans (H2.out.mono H1.out.size)⟩
    · have h15 : node > 15 := by omega
      go_wp2_with (first
        | (go_at_call 8; refine (alive_n hE (by omega)).mono ?_; rintro e w1 ⟨rfl, H1⟩)
        | (go_at_call 9; refine (new_no node HNF (E1 w1 H1.out) (by omega)).mono ?_; rintro e w2 ⟨rfl, H2⟩; unfold er))
      go_ret
      exact ⟨rfl, H1.out.trans (H2.out.mono H1.out.size)⟩
end Go.Proofs.YtdfnjcjpblkmcaaDoor
