/- BallotPlays' walk. -/
import Derived.Test.YtdfnjcjpblkmcaaDoorAv
namespace Go.Proofs.YtdfnjcjpblkmcaaDoor
open Go.ChangeShapes Go.WideShapes Go.ChangeAt Go.RowKit
set_option maxRecDepth 20000
set_option linter.unusedVariables false
set_option linter.unusedSimpArgs false
theorem cells22 : Tryd.prog.cellsOf 22 = 3 := by kernel_rfl
theorem open22 {H : Type} {enc : TypeId × Value → H} {W : World} {r : Reach} {base : Nat} {v : Value} {y : DataW H × List MemPlace} (h : Value.okWide Tryd.prog W r base 22 v) (k : ∃ fuel, DataW.trod enc Tryd.prog W 0 (fun _ => true) true fuel 22 v.cells.toList = some y) : ∃ a b c : Int, v = .agg #[.int .i64 a, .int .i64 b, .int .i64 c] := by
  simp only [Value.okWide, Tryd.underlying22] at h
  obtain ⟨cs, rfl, hn, _⟩ := h
  obtain ⟨f, hf⟩ := k
  simp only [Value.cells] at hf
  obtain ⟨xs, m, _, _, hl, hx, he⟩ := DataW.trod_array Tryd.underlying22 hf
  obtain ⟨l⟩ := cs
  rw [cells22] at hl
  match l, hl, xs, hx with
  | [v0, v1, v2], _, [y0, y1, y2], _ =>
    have g0 := he 0 (by omega)
    have g1 := he 1 (by omega)
    have g2 := he 2 (by omega)
    simp [cells3] at g0 g1 g2
    obtain ⟨z0, e0, _, _⟩ := DataW.trod_int Tryd.underlying3 g0
    obtain ⟨z1, e1, _, _⟩ := DataW.trod_int Tryd.underlying3 g1
    obtain ⟨z2, e2, _, _⟩ := DataW.trod_int Tryd.underlying3 g2
    simp at e0 e1 e2
    subst e0 e1 e2
    exact ⟨z0, z1, z2, rfl⟩
def nd (a b c : Int) (k : Nat) : Int := if k = 0 then a else if k = 1 then b else c
def pt (G : Nat → Nat) (k j : Nat) : Value := if j < k then .pointer (some ⟨G j, 0, none⟩) else .pointer none
abbrev pts (G : Nat → Nat) (k : Nat) : Array Value := #[pt G k 0, pt G k 1, pt G k 2]
def upd (G : Nat → Nat) (k g : Nat) : Nat → Nat := fun j => if j = k then g else G j
/- k acceptors of each kind are made -/
def Pl (w wr : World) (g5 g6 : Nat) (nd : Nat → Int) (k : Nat) : Prop := ∃ Gs Ms : Nat → Nat, Below w.heap.size w wr ∧ wr.heap[g5]? = some (.cells (pts Gs k) 26 (0, 0)) ∧ wr.heap[g6]? = some (.cells (pts Ms k) 28 (0, 0)) ∧ w.heap.size ≤ g5 ∧ g5 < g6 ∧
  (∀ j, j < k → wr.heap[Gs j]? = some (.cells (accA (s0 (nd j)) none 0 0) 84 (0, 0)) ∧ wr.heap[Ms j]? = some (.cells (accA (s0 (nd j)) none 0 0) 37 (0, 0)) ∧ g6 < Gs j ∧ g6 < Ms j) ∧ (∀ i j, i < k → j < k → i ≠ j → Gs i ≠ Gs j ∧ Ms i ≠ Ms j)
theorem Pl.bel {w wr : World} {g5 g6 : Nat} {nd : Nat → Int} {k : Nat} (h : Pl w wr g5 g6 nd k) : Below w.heap.size w wr := by obtain ⟨_, _, h, _⟩ := h; exact h
theorem pts_set (G : Nat → Nat) {k : Nat} (hk : k < 3) (g : Nat) : (pts G k).setIfInBounds k (.pointer (some ⟨g, 0, none⟩)) = pts (upd G k g) (k + 1) := by
  rcases (by omega : k = 0 ∨ k = 1 ∨ k = 2) with rfl | rfl | rfl <;> simp [pts, pt, upd]
theorem pl_step {w wr w2 w3 W4 W5 : World} {g5 g6 ga gc k : Nat} {nd : Nat → Int} {v : Int} (hk : k < 3) (h : Pl w wr g5 g6 nd k) (H2 : w2 = wr.alloc (.cells (accA (s0 v) none 0 0) 84)) (Hga : wr.heap.size = ga) (Hgc : w2.heap.size = gc) (Hw3 : w2.alloc (.cells (accA (s0 v) none 0 0) 37) = w3) (HW4 : w3.setCell ⟨g5, k, none⟩ (.pointer (some ⟨ga, 0, none⟩)) = W4) (HW5 : W4.setCell ⟨g6, k, none⟩ (.pointer (some ⟨gc, 0, none⟩)) = W5) (hv : nd k = v) :
    ¬ (g5 = g6) ∧ (∀ o, (w2.alloc o).cell? ⟨g5, k, none⟩ = some (.pointer none)) ∧ (∀ o, (w2.alloc o).frozen? ⟨g5, k, none⟩ = false) ∧ (∀ o, (w2.alloc o).cell? ⟨g6, k, none⟩ = some (.pointer none)) ∧ (∀ o, (w2.alloc o).frozen? ⟨g6, k, none⟩ = false) ∧ Pl w W5 g5 g6 nd (k + 1) := by
  obtain ⟨Gs, Ms, hb, h5, h6, l5, l56, hac, hne⟩ := h
  have b2 : Below wr.heap.size wr w2 := by rw [H2]; exact alloc1 _ _
  have b3 : Below w2.heap.size w2 w3 := by rw [← Hw3]; exact alloc1 _ _
  have b23 := b2.trans (b3.mono b2.size)
  have lt5 := (Array.getElem?_eq_some_iff.1 h5).1
  have lt6 := (Array.getElem?_eq_some_iff.1 h6).1
  have k5 := (b23.block g5 lt5).trans h5
  have k6 := (b23.block g6 lt6).trans h6
  have C4 : Ch w3 W4 (fun q => q = g5) := by rw [← HW4]; exact Ch.set _ g5 k _
  have k54 : W4.heap[g5]? = some (.cells (pts (upd Gs k ga) (k + 1)) 26 (0, 0)) := by rw [← HW4, set_blk k5 k _, pts_set Gs hk]
  have lt6' : g6 < w3.heap.size := Nat.lt_of_lt_of_le lt6 b23.size
  have k64 := (C4.block g6 lt6' (by omega)).trans k6
  have C5 : Ch W4 W5 (fun q => q = g6) := by rw [← HW5]; exact Ch.set _ g6 k _
  have k65 : W5.heap[g6]? = some (.cells (pts (upd Ms k gc) (k + 1)) 28 (0, 0)) := by rw [← HW5, set_blk k64 k _, pts_set Ms hk]
  have k55 := (C5.block g5 (Array.getElem?_eq_some_iff.1 k54).1 (by omega)).trans k54
  have s2 : w2.heap.size = wr.heap.size + 1 := by rw [H2]; simp
  have s3 : w3.heap.size = w2.heap.size + 1 := by rw [← Hw3]; simp
  have old : ∀ q, q < w3.heap.size → q ≠ g5 → q ≠ g6 → W5.heap[q]? = w3.heap[q]? := fun q hq h1 h2 => (C5.block q (Nat.lt_of_lt_of_le hq C4.size) h2).trans (C4.block q hq h1)
  have ka : W5.heap[ga]? = some (.cells (accA (s0 v) none 0 0) 84 (0, 0)) := by
    rw [old ga (by omega) (by omega) (by omega), b3.block ga (by omega), H2, ← Hga]
    exact heap_alloc_new wr _
  have kc : W5.heap[gc]? = some (.cells (accA (s0 v) none 0 0) 37 (0, 0)) := by
    rw [old gc (by omega) (by omega) (by omega), ← Hw3, ← Hgc]
    exact heap_alloc_new w2 _
  have cell : ∀ (G : Nat → Nat) (g : Nat) (t : TypeId) (W : World), W.heap[g]? = some (.cells (pts G k) t (0, 0)) → W.cell? ⟨g, k, none⟩ = some (.pointer none) ∧ W.frozen? ⟨g, k, none⟩ = false := fun G g t W hW => by
    rcases (by omega : k = 0 ∨ k = 1 ∨ k = 2) with rfl | rfl | rfl <;> simp [World.cell?, World.frozen?, hW, pts, pt]
  have a5 : ∀ o, (w2.alloc o).heap[g5]? = some (.cells (pts Gs k) 26 (0, 0)) := fun o => ((alloc1 w2 o).block g5 (Nat.lt_of_lt_of_le lt5 b2.size)).trans ((b2.block g5 lt5).trans h5)
  have a6 : ∀ o, (w2.alloc o).heap[g6]? = some (.cells (pts Ms k) 28 (0, 0)) := fun o => ((alloc1 w2 o).block g6 (Nat.lt_of_lt_of_le lt6 b2.size)).trans ((b2.block g6 lt6).trans h6)
  refine ⟨by omega, fun o => (cell Gs g5 26 _ (a5 o)).1, fun o => (cell Gs g5 26 _ (a5 o)).2, fun o => (cell Ms g6 28 _ (a6 o)).1, fun o => (cell Ms g6 28 _ (a6 o)).2, upd Gs k ga, upd Ms k gc, ?_, k55, k65, l5, l56, fun j hj => ?_, fun i j hi hj hij => ?_⟩
  · have b3w := hb.trans (b23.mono hb.size)
    exact b3w.trans (((C4.weak (T := fun q => q = g5 ∨ q = g6) (fun q _ h => .inl h)).trans (C5.weak (fun q _ h => .inr h))).toBelow b3w.size (fun q hq h => by omega))
  · by_cases e : j = k
    · subst e
      rw [hv]
      have e1 : upd Gs j ga j = ga := if_pos rfl
      have e2 : upd Ms j gc j = gc := if_pos rfl
      rw [e1, e2]
      exact ⟨ka, kc, by omega, by omega⟩
    · have e1 : upd Gs k ga j = Gs j := if_neg e
      have e2 : upd Ms k gc j = Ms j := if_neg e
      rw [e1, e2]
      obtain ⟨h1, h2, h3, h4⟩ := hac j (by omega)
      have q1 := (Array.getElem?_eq_some_iff.1 h1).1
      have q2 := (Array.getElem?_eq_some_iff.1 h2).1
      exact ⟨by rw [old (Gs j) (by omega) (by omega) (by omega), b23.block _ q1]; exact h1, by rw [old (Ms j) (by omega) (by omega) (by omega), b23.block _ q2]; exact h2, h3, h4⟩
  · have lo : ∀ j, j < k → Gs j < wr.heap.size ∧ Ms j < wr.heap.size := fun j hj => ⟨(Array.getElem?_eq_some_iff.1 (hac j hj).1).1, (Array.getElem?_eq_some_iff.1 (hac j hj).2.1).1⟩
    unfold upd
    by_cases e : i = k
    · have e' : j ≠ k := fun h => hij (by omega)
      have := lo j (by omega)
      rw [if_pos e, if_neg e', if_pos e, if_neg e']
      omega
    · rw [if_neg e, if_neg e]
      by_cases e' : j = k
      · have := lo i (by omega)
        rw [if_pos e', if_pos e']
        omega
      · rw [if_neg e', if_neg e']
        exact hne i j (by omega) (by omega) hij
/- the three pairs -/
structure Ps (w wr : World) (g5 g6 : Nat) (Gs Ms : Nat → Nat) (G : Nat) : Prop where
  bel : Below w.heap.size w wr
  k5 : wr.heap[g5]? = some (.cells (pts Gs 3) 26 (0, 0))
  k6 : wr.heap[g6]? = some (.cells (pts Ms 3) 28 (0, 0))
  gs : G ≤ wr.heap.size
  pr : ∀ j, j < 3 → ∃ s a m c X a' m' c' X', Acc wr 84 G (Gs j) s a m c X ∧ Acc wr 37 G (Ms j) s a' m' c' X' ∧ Okk s
  lo : w.heap.size ≤ g5 ∧ g5 < g6
  hi : ∀ j, j < 3 → g6 < Gs j ∧ g6 < Ms j
  ne : ∀ i j, i < 3 → j < 3 → Gs i ≠ Ms j ∧ (i ≠ j → Gs i ≠ Gs j ∧ Ms i ≠ Ms j)
theorem Ps.of {w wr : World} {g5 g6 : Nat} {nd : Nat → Int} (h : Pl w wr g5 g6 nd 3) : ∃ Gs Ms G, Ps w wr g5 g6 Gs Ms G := by
  obtain ⟨Gs, Ms, hb, h5, h6, l5, l56, hac, hne⟩ := h
  have tn : ∀ i j, i < 3 → j < 3 → Gs i ≠ Ms j := fun i j hi hj e => by
    have h1 := (hac i hi).1
    rw [e, (hac j hj).2.1] at h1
    simp only [Option.some.injEq, Obj.cells.injEq] at h1
    exact absurd h1.2.1 (by decide)
  refine ⟨Gs, Ms, wr.heap.size, hb, h5, h6, Nat.le_refl _, fun j hj => ?_, ⟨l5, l56⟩, fun j hj => ⟨(hac j hj).2.2.1, (hac j hj).2.2.2⟩, fun i j hi hj => ⟨tn i j hi hj, hne i j hi hj⟩⟩
  obtain ⟨h1, h2, _⟩ := hac j hj
  exact ⟨s0 (nd j), none, 0, 0, [], none, 0, 0, [], ⟨h1, Cms.nil _ _ _, fun _ => rfl, rfl, (Array.getElem?_eq_some_iff.1 h1).1⟩, ⟨h2, Cms.nil _ _ _, fun _ => rfl, rfl, (Array.getElem?_eq_some_iff.1 h2).1⟩, okk_s0 _⟩
theorem Ps.below {w wr wr' : World} {g5 g6 : Nat} {Gs Ms : Nat → Nat} {G : Nat} (h : Ps w wr g5 g6 Gs Ms G) (hb : Below wr.heap.size wr wr') : Ps w wr' g5 g6 Gs Ms G :=
  ⟨h.bel.trans (hb.mono h.bel.size), (hb.block _ (Array.getElem?_eq_some_iff.1 h.k5).1).trans h.k5, (hb.block _ (Array.getElem?_eq_some_iff.1 h.k6).1).trans h.k6, Nat.le_trans h.gs hb.size, fun j hj => by
    obtain ⟨s, a, m, c, X, a', m', c', X', h1, h2, h3⟩ := h.pr j hj
    exact ⟨s, a, m, c, X, a', m', c', X', h1.below hb, h2.below hb, h3⟩, h.lo, h.hi, h.ne⟩
theorem Ps.step {w wr wr' : World} {g5 g6 : Nat} {Gs Ms : Nat → Nat} {G k : Nat} (h : Ps w wr g5 g6 Gs Ms G) (hk : k < 3) (p : PairP wr wr' G (Gs k) (Ms k)) : Ps w wr' g5 g6 Gs Ms G := by
  obtain ⟨s, a, m, c, X, a', m', c', X', h1, h2, h3, C⟩ := p
  have hk1 := h.hi k hk
  have hlo := h.lo
  have lg := h1.lt
  have lm := h2.lt
  refine ⟨h.bel.trans (C.toBelow h.bel.size (fun q hq e => by omega)), (C.block _ (Array.getElem?_eq_some_iff.1 h.k5).1 (by omega)).trans h.k5, (C.block _ (Array.getElem?_eq_some_iff.1 h.k6).1 (by omega)).trans h.k6, Nat.le_trans h.gs C.size, fun j hj => ?_, h.lo, h.hi, h.ne⟩
  by_cases e : j = k
  · subst e
    exact ⟨s, a, m, c, X, a', m', c', X', h1, h2, h3⟩
  · obtain ⟨s, a, m, c, X, a', m', c', X', q1, q2, q3⟩ := h.pr j hj
    have n1 := h.ne j k hj hk
    have n2 := h.ne k j hk hj
    have n3 := n1.2 e
    exact ⟨s, a, m, c, X, a', m', c', X', q1.ch C (fun h => by rcases h with h | h; exact n3.1 h; exact n1.1 h) (fun q h1 _ h => by omega), q2.ch C (fun h => by rcases h with h | h; exact n2.1 h.symm; exact n3.2 h) (fun q h1 _ h => by omega), q3⟩
def z4 : Opt := ⟨4, 0, 0, 0, none, 0, 0, []⟩
structure Vq (W : World) (g5 g6 g12 k ga gm : Nat) (x : Opt) : Prop where
  a : W.cell? ⟨g5, k, none⟩ = some (.pointer (some ⟨ga, 0, none⟩))
  m : W.cell? ⟨g6, k, none⟩ = some (.pointer (some ⟨gm, 0, none⟩))
  c0 : W.cell? ⟨g12, 0, none⟩ = some (.int .i64 x.kind)
  c1 : W.cell? ⟨g12, 1, none⟩ = some (.int .i64 x.which)
  c2 : W.cell? ⟨g12, 2, none⟩ = some (.int .i64 x.r)
  c3 : W.cell? ⟨g12, 3, none⟩ = some (.int .i64 x.n)
  c4 : W.cell? ⟨g12, 4, none⟩ = some (.slice x.a x.m x.c)
theorem Vq.ch {w wr : World} {g5 g6 g12 k G : Nat} {Gs Ms : Nat → Nat} {x : Opt} (h : Vq w g5 g6 g12 k (Gs k) (Ms k) x) (p : PairP w wr G (Gs k) (Ms k)) (GE : ∀ j, j < 3 → g5 < g6 ∧ g6 < Gs j ∧ g6 < Ms j) (hg : ∀ j, j < 3 → g12 ≠ Gs j ∧ g12 ≠ Ms j) (hk : k < 3) : Vq wr g5 g6 g12 k (Gs k) (Ms k) x := by
  obtain ⟨s, a, m, c, X, a', m', c', X', _, _, _, C⟩ := p
  have h1 := GE k hk
  have h2 := hg k hk
  have e5 := C.block g5 (cell_lt h.a) (by omega)
  have e6 := C.block g6 (cell_lt h.m) (by omega)
  have e12 := C.block g12 (cell_lt h.c0) (by omega)
  exact ⟨(World.cell?_of_block (a := ⟨g5, k, none⟩) e5).trans h.a, (World.cell?_of_block (a := ⟨g6, k, none⟩) e6).trans h.m, (World.cell?_of_block (a := ⟨g12, 0, none⟩) e12).trans h.c0, (World.cell?_of_block (a := ⟨g12, 1, none⟩) e12).trans h.c1, (World.cell?_of_block (a := ⟨g12, 2, none⟩) e12).trans h.c2, (World.cell?_of_block (a := ⟨g12, 3, none⟩) e12).trans h.c3, (World.cell?_of_block (a := ⟨g12, 4, none⟩) e12).trans h.c4⟩
theorem pts_cell {W : World} {g : Nat} {t : TypeId} {G : Nat → Nat} (h : W.heap[g]? = some (.cells (pts G 3) t (0, 0))) {k : Nat} (hk : k < 3) : W.cell? ⟨g, k, none⟩ = some (.pointer (some ⟨G k, 0, none⟩)) := by
  rcases (by omega : k = 0 ∨ k = 1 ∨ k = 2) with rfl | rfl | rfl <;> simp [World.cell?, h, pts, pt]
theorem pick3 (x : Int) : ∃ (t : Int) (r : Nat), x.tmod 3 = t ∧ -3 < t ∧ t < 3 ∧ (t + 3).tmod 3 = (r : Int) ∧ r < 3 := by
  have h1 := Int.tmod_lt_of_pos x (show (0 : Int) < 3 by omega)
  have h2 := Int.lt_tmod_of_pos x (show (0 : Int) < 3 by omega)
  have h3 : (x.tmod 3 + 3).tmod 3 = (x.tmod 3 + 3) % 3 := Int.tmod_eq_emod_of_nonneg (by omega)
  exact ⟨x.tmod 3, ((x.tmod 3 + 3) % 3).toNat, rfl, h2, h1, by rw [h3]; omega, by omega⟩
theorem index3 (a b c : Int) (k : Nat) (z v : Int) (hk : k < 3) (hz : z = (k : Int)) (hv : nd a b c k = v) (w : World) : (Instr.index 22 (.agg #[.int .i64 a, .int .i64 b, .int .i64 c]) (.int .i64 z)).run Tryd.prog w = .ok (.int .i64 v) w := by
  subst hz hv
  rcases (by omega : k = 0 ∨ k = 1 ∨ k = 2) with rfl | rfl | rfl <;> simp [Instr.index, run_underlying Tryd.underlying22, asIntOf, part, go_sem, nd]
set_option maxHeartbeats 8000000 in
theorem plays_n {E : Nat → Addr} {w : World} (n0 n1 n2 : Int) {sa : Option Addr} {n sc : Nat} {L : List Opt} (hE : Hid (Sent w 18 E)) (hO : Hid (Ops w sa n L)) (hn : n ≤ 140737488351232) :
    Calls Tryd.prog 3 #[.agg #[.int .i64 n0, .int .i64 n1, .int .i64 n2], .slice sa n sc] w fun e w' => e = .returned (.bool true) ∧ Hid (Below w.heap.size w w') := by
  have E0 : Hid (Sent (w.alloc (.cells #[.int .i64 n0, .int .i64 n1, .int .i64 n2] 22)) 18 E) := hE.out.below (alloc1 w _)
  obtain ⟨g2, Hg2⟩ : ∃ g2, Hid (w.heap.size = g2) := ⟨_, rfl⟩
  have ix0 : ∀ w, (Instr.index 22 (.agg #[.int .i64 n0, .int .i64 n1, .int .i64 n2]) (.int .i64 0)).run Tryd.prog w = .ok (.int .i64 n0) w := fun w => index3 n0 n1 n2 0 0 n0 (by omega) rfl rfl w
  have ix1 : ∀ w, (Instr.index 22 (.agg #[.int .i64 n0, .int .i64 n1, .int .i64 n2]) (.int .i64 1)).run Tryd.prog w = .ok (.int .i64 n1) w := fun w => index3 n0 n1 n2 1 1 n1 (by omega) rfl rfl w
  have ix2 : ∀ w, (Instr.index 22 (.agg #[.int .i64 n0, .int .i64 n1, .int .i64 n2]) (.int .i64 2)).run Tryd.prog w = .ok (.int .i64 n2) w := fun w => index3 n0 n1 n2 2 2 n2 (by omega) rfl rfl w
  go_enter Tryd.func3, Tryd.ntmps3
  go_upto_region 3 with (go_at_call 8; refine (alive_n E0 (by omega)).mono ?_; rintro e w1 ⟨rfl, H1⟩)
  obtain ⟨g5, Hg5⟩ : ∃ g5, Hid (w1.heap.size = g5) := ⟨_, rfl⟩
  obtain ⟨g6, Hg6⟩ : ∃ g6, Hid (w1.heap.size + 1 = g6) := ⟨_, rfl⟩
  obtain ⟨w4, Hw4⟩ : ∃ w4, Hid ((w1.alloc (.cells #[.pointer none, .pointer none, .pointer none] 26)).alloc (.cells #[.pointer none, .pointer none, .pointer none] 28) = w4) := ⟨_, rfl⟩
  go_upto_region 5 with (fail)
  have b4 : Below w1.heap.size w1 w4 := by rw [← Hw4.out]; exact alloc2 _ _ _
  have b01 := (alloc1 w (.cells #[.int .i64 n0, .int .i64 n1, .int .i64 n2] 22))
  have b1 : Below w.heap.size w w1 := b01.trans (H1.out.mono b01.size)
  have R4 : Hid (Pl w w4 g5 g6 (nd n0 n1 n2) 0) := by
    refine ⟨fun _ => 0, fun _ => 0, b1.trans (b4.mono b1.size), ?_, ?_, by have := b1.size; have := Hg5.out; omega, by have := Hg5.out; have := Hg6.out; omega, fun j hj => by omega, fun i j hi => by omega⟩
    · rw [← Hw4.out, ← Hg5.out, (alloc1 (w1.alloc (.cells #[.pointer none, .pointer none, .pointer none] 26)) (.cells #[.pointer none, .pointer none, .pointer none] 28)).block w1.heap.size (by simp)]
      exact heap_alloc_new w1 _
    · rw [← Hw4.out, ← Hg6.out]
      have h := heap_alloc_new (w1.alloc (.cells #[.pointer none, .pointer none, .pointer none] 26)) (.cells #[.pointer none, .pointer none, .pointer none] 28)
      have h2 : (w1.alloc (.cells #[.pointer none, .pointer none, .pointer none] 26)).heap.size = w1.heap.size + 1 := by simp
      rw [h2] at h
      exact h
  have x0 : ∀ i v, (w.alloc (.cells #[.int .i64 n0, .int .i64 n1, .int .i64 n2] 22)).cell? ⟨g2, i, none⟩ = some v → w4.cell? ⟨g2, i, none⟩ = some v := fun i v hv => (b4.cell (p := ⟨g2, i, none⟩) (Nat.lt_of_lt_of_le (cell_lt hv) H1.out.size)).trans ((H1.out.cell (p := ⟨g2, i, none⟩) (cell_lt hv)).trans hv)
  have y0 : w4.cell? ⟨g2, 0, none⟩ = some (.int .i64 n0) := x0 0 _ (by rw [← Hg2.out]; simp)
  have y1 : w4.cell? ⟨g2, 1, none⟩ = some (.int .i64 n1) := x0 1 _ (by rw [← Hg2.out]; simp)
  have y2 : w4.cell? ⟨g2, 2, none⟩ = some (.int .i64 n2) := x0 2 _ (by rw [← Hg2.out]; simp)
  rw [Hw4.out, Hg6.out, Hg5.out, Hg2.out]
  clear x0 b4 b1 b01 H1 Hw4 Hg6 Hg5 E0
  go_wp2
  clear y0 y1 y2
  go_loopw [17] (fun ti wr => ∃ k : Nat, k ≤ 3 ∧ ti = .int .i64 k ∧ Hid (Pl w wr g5 g6 (nd n0 n1 n2) k)) (fun ti _ => 3 - (intOf ti).toNat)
  case atStart => exact ⟨0, by omega, rfl, R4.out⟩
  case round =>
    obtain ⟨k, hk, rfl, HR⟩ := hrel
    by_cases hk3 : k < 3
    rotate_left
    · have K3 : Hid (k = 3) := by show k = 3; omega
      have i3 : ¬ ((k : Int) < 3) := by omega
      obtain ⟨Gs, Ms, G, PS0⟩ := Ps.of (by have h := HR.out; rw [K3.out] at h; exact h)
      have PS : Hid (Ps w wr g5 g6 Gs Ms G) := PS0
      have GE : Hid (∀ j, j < 3 → g5 < g6 ∧ g6 < Gs j ∧ g6 < Ms j) := fun j hj => ⟨PS0.lo.2, PS0.hi j hj⟩
      have WG : Hid (w.heap.size ≤ g5) := PS0.lo.1
      have NE : Hid (∀ j, j < 3 → Ms j ≠ Gs j) := fun j hj => fun e => (PS0.ne j j hj hj).1 e.symm
      have S17 : Hid (18 ≤ w.heap.size) := by have h := cell_lt (hE.out.c 17 (by omega)); show 18 ≤ _; omega
      have EBK : Hid (∀ k, k < 18 → (E k).block < w.heap.size) := fun k hk => by
        obtain ⟨cs, t, h⟩ := hE.out.row k hk
        exact (Array.getElem?_eq_some_iff.1 h).1
      obtain ⟨wq, Hwq⟩ : ∃ wq, Hid (wr = wq) := ⟨_, rfl⟩
      rw [Hwq.out] at PS
      clear HR PS0
      go_wp2
      rw [Hwq.out]
      clear Hwq
      go_loopw [56] (fun ti wr => ∃ i : Nat, i ≤ n ∧ ti = .int .i64 i ∧ Hid (Ps w wr g5 g6 Gs Ms G)) (fun ti _ => n - (intOf ti).toNat)
      case atStart => exact ⟨0, by omega, rfl, PS.out⟩
      case round =>
      obtain ⟨i, hi, rfl, HP⟩ := hrel
      by_cases hlt : i < n
      · have i3 : (i : Int) < (n : Int) := by omega
        have iL : i < L.length := by rw [← hO.out.len]; exact hlt
        obtain ⟨sb, so, rfl, hrow⟩ := hO.out.row.resolve_left (by omega)
        obtain ⟨x, Hx⟩ : ∃ x, Hid (L[i] = x) := ⟨L[i], (rfl : L[i] = L[i])⟩
        have OP : Opc w sb (so + i * 5) x := by rw [← Hx.out]; exact hrow i iL
        have OPr := OP.below HP.out.bel
        have q0 := OPr.c0
        have q1 := OPr.c1
        have q2 := OPr.c2
        have q3 := OPr.c3
        have q4 := OPr.c4
        have CX : Hid (Cms w 0 x.a x.m x.X ∧ (x.a = none → x.c = 0)) := ⟨OP.led, OP.z⟩
        have wI := OP.wh
        unfold I64 at wI
        obtain ⟨t, kk, e1, t1, t2, e2, hkk⟩ := pick3 x.which
        obtain ⟨wo, Hwo⟩ : ∃ wo, Hid (wr.alloc (.cells #[.int .i64 x.kind, .int .i64 x.which, .int .i64 x.r, .int .i64 x.n, .slice x.a x.m x.c] 39) = wo) := ⟨_, rfl⟩
        obtain ⟨g12, Hg12⟩ : ∃ g12, Hid (wr.heap.size = g12) := ⟨_, rfl⟩
        have Bo : Hid (Below wr.heap.size wr wo) := by rw [← Hwo.out]; exact alloc1 wr _
        have ko : Hid (wo.heap[g12]? = some (.cells #[.int .i64 x.kind, .int .i64 x.which, .int .i64 x.r, .int .i64 x.n, .slice x.a x.m x.c] 39 (0, 0))) := by show _ = _; rw [← Hwo.out, ← Hg12.out]; exact heap_alloc_new wr _
        have o1 : wo.cell? ⟨g12, 1, none⟩ = some (.int .i64 x.which) := by simp [World.cell?, ko.out]
        have Po : Hid (Ps w wo g5 g6 Gs Ms G) := HP.out.below Bo.out
        have P12 : Hid (∀ j, j < 3 → g12 ≠ Gs j ∧ g12 ≠ Ms j) := fun j hj => by
          obtain ⟨s, a, m, c, X, a', m', c', X', h1, h2, _⟩ := HP.out.pr j hj
          have := h1.glt; have := h2.glt; have := Hg12.out
          omega
        clear hrow OP OPr HP
        go_upto_region 18 with (fail)
        rw [Hwo.out, Hg12.out]
        clear q0 q1 q2 q3 q4 Hwo
        go_upto_region 19 with (fail)
        clear o1 e1 e2 t1 t2 wI
        have hk3 : (kk : Int) < 3 := by omega
        obtain ⟨wd, Hwd⟩ : ∃ wd, Hid (wo.drew = wd) := ⟨_, rfl⟩
        have PD : Hid (Ps w wd g5 g6 Gs Ms G) := by rw [← Hwd.out]; exact Po.out.below (Below.refl _ _).drew
        have kd : wd.heap[g12]? = some (.cells #[.int .i64 x.kind, .int .i64 x.which, .int .i64 x.r, .int .i64 x.n, .slice x.a x.m x.c] 39 (0, 0)) := by rw [← Hwd.out]; exact ko.out
        have Q0 : Vq wd g5 g6 g12 kk (Gs kk) (Ms kk) x := ⟨pts_cell PD.out.k5 hkk, pts_cell PD.out.k6 hkk, by simp [World.cell?, kd], by simp [World.cell?, kd], by simp [World.cell?, kd], by simp [World.cell?, kd], by simp [World.cell?, kd]⟩
        obtain ⟨s1, a1, m1, c1, X1, a2, m2, c2, X2, HA0, HB0, HK0⟩ := PD.out.pr kk hkk
        have HA : Hid (Acc wd 84 G (Gs kk) s1 a1 m1 c1 X1) := HA0
        have HB : Hid (Acc wd 37 G (Ms kk) s1 a2 m2 c2 X2) := HB0
        have HK : Hid (Okk s1) := HK0
        have HE : Hid (Sent wd 18 E) := hE.out.below PD.out.bel
        have HG : Hid (G ≤ wd.heap.size) := PD.out.gs
        have HN : Hid (Ms kk ≠ Gs kk) := NE.out kk hkk
        have H18 : Hid (18 ≤ Gs kk ∧ 18 ≤ Ms kk) := by have := GE.out kk hkk; have := WG.out; have := S17.out; show _ ∧ _; omega
        have HEB : Hid (∀ k, k < 18 → (E k).block ≠ Gs kk ∧ (E k).block ≠ Ms kk) := fun k hk => by have h1 := EBK.out k hk; have := GE.out kk hkk; have := WG.out; omega
        have HX : Hid (Cms wd 0 x.a x.m x.X) := CX.out.1.below PD.out.bel
        have HXZ : Hid (x.a = none → x.c = 0) := CX.out.2
        have HLO : Hid (∀ q, fpc x.a x.m x.X q → q ≠ Gs kk ∧ q ≠ Ms kk) := fun q hq => by have h1 := (CX.out.1.fp_lt hq).2; have := GE.out kk hkk; have := WG.out; omega
        refine wp_region_till (S := fun L W => Vq W g5 g6 g12 kk (Gs kk) (Ms kk) x) (by kernel_rfl) (by rw [Hwd.out]; exact Q0) (fun hS => ?_)
        rw [Hwd.out] at hS ⊢
        clear HA0 HB0 HK0 Q0 kd
        refine till_take (i := 0) (v := .int .i64 kk) rfl (by kernel_rfl) (by kernel_rfl) (by kernel_rfl) (fun _ _ _ h => h) (fun L w => Iff.rfl) (Or.inl ⟨by rfl, fun w => by go_simp⟩) hS (fun hSb => ?_)
        simp only [List.getElem_toArray, List.getElem_cons_zero, List.getElem_cons_succ, Act.put, List.setIfInBounds_toArray, List.set_cons_zero, List.set_cons_succ]
        clear hS
        refine till_take (i := 1) (v := .pointer (some ⟨g5, kk, none⟩)) rfl (by kernel_rfl) (by kernel_rfl) (by kernel_rfl) (fun _ _ _ h => h) (fun L w => Iff.rfl) (Or.inl ⟨by rfl, fun w => by go_simp⟩) hSb (fun hS => ?_)
        simp only [List.getElem_toArray, List.getElem_cons_zero, List.getElem_cons_succ, Act.put, List.setIfInBounds_toArray, List.set_cons_zero, List.set_cons_succ]
        clear hSb
        refine till_read (i := 2) (c := 7) (v := .pointer (some ⟨Gs kk, 0, none⟩)) (T := fun W => Vq W g5 g6 g12 kk (Gs kk) (Ms kk) x) rfl rfl (by kernel_rfl) (by kernel_rfl) (by kernel_rfl) (by kernel_rfl) (by kernel_rfl) (fun _ _ _ h => h) (fun L w => Iff.rfl) (fun L w h1 h2 => h2) (Or.inl ⟨by rfl, fun w h => by have q1 := h.a; go_simp⟩) hS (fun hSb => ?_)
        simp only [List.getElem_toArray, List.getElem_cons_zero, List.getElem_cons_succ, Act.put, List.setIfInBounds_toArray, List.set_cons_zero, List.set_cons_succ]
        clear hS
        refine till_take (i := 3) (v := .int .i64 kk) rfl (by kernel_rfl) (by kernel_rfl) (by kernel_rfl) (fun _ _ _ h => h) (fun L w => Iff.rfl) (Or.inl ⟨by rfl, fun w => by go_simp⟩) hSb (fun hS => ?_)
        simp only [List.getElem_toArray, List.getElem_cons_zero, List.getElem_cons_succ, Act.put, List.setIfInBounds_toArray, List.set_cons_zero, List.set_cons_succ]
        clear hSb
        refine till_take (i := 4) (v := .pointer (some ⟨g6, kk, none⟩)) rfl (by kernel_rfl) (by kernel_rfl) (by kernel_rfl) (fun _ _ _ h => h) (fun L w => Iff.rfl) (Or.inl ⟨by rfl, fun w => by go_simp⟩) hS (fun hSb => ?_)
        simp only [List.getElem_toArray, List.getElem_cons_zero, List.getElem_cons_succ, Act.put, List.setIfInBounds_toArray, List.set_cons_zero, List.set_cons_succ]
        clear hS
        refine till_read (i := 5) (c := 7) (v := .pointer (some ⟨Ms kk, 0, none⟩)) (T := fun W => Vq W g5 g6 g12 kk (Gs kk) (Ms kk) x) rfl rfl (by kernel_rfl) (by kernel_rfl) (by kernel_rfl) (by kernel_rfl) (by kernel_rfl) (fun _ _ _ h => h) (fun L w => Iff.rfl) (fun L w h1 h2 => h2) (Or.inl ⟨by rfl, fun w h => by have q1 := h.m; go_simp⟩) hSb (fun hS => ?_)
        simp only [List.getElem_toArray, List.getElem_cons_zero, List.getElem_cons_succ, Act.put, List.setIfInBounds_toArray, List.set_cons_zero, List.set_cons_succ]
        clear hSb
        refine till_read (i := 6) (c := 7) (v := opv x) (T := fun W => Vq W g5 g6 g12 kk (Gs kk) (Ms kk) x) rfl rfl (by kernel_rfl) (by kernel_rfl) (by kernel_rfl) (by kernel_rfl) (by kernel_rfl) (fun _ _ _ h => h) (fun L w => Iff.rfl) (fun L w h1 h2 => h2) (Or.inl ⟨by rfl, fun w h => by have q0 := h.c0; have q1 := h.c1; have q2 := h.c2; have q3 := h.c3; have q4 := h.c4; go_simp⟩) hS (fun hSb => ?_)
        simp only [List.getElem_toArray, List.getElem_cons_zero, List.getElem_cons_succ, Act.put, List.setIfInBounds_toArray, List.set_cons_zero, List.set_cons_succ]
        clear hS
        refine till_one (i := 7) (by kernel_rfl) rfl (fun K hK => ?_)
        simp only [List.getElem_toArray, List.getElem_cons_zero, List.getElem_cons_succ]
        rw [if_pos (by rfl)]
        go_simp
        go_wp2_with (go_at_call 10; refine (play_n HA HB HE HG HN HK H18 HEB x HX HXZ HLO).mono ?_; rintro e w2 ⟨rfl, H2⟩)
        have P2 : Hid (Ps w w2 g5 g6 Gs Ms G) := PD.out.step hkk H2.out
        have Q2 : Vq w2 g5 g6 g12 kk (Gs kk) (Ms kk) x := hSb.ch H2.out GE.out P12.out hkk
        refine hK.out _ _ (Q2) (fun hS => ?_)
        clear hK K
        try simp only [List.getElem_toArray, List.getElem_cons_zero, List.getElem_cons_succ, Act.put, List.setIfInBounds_toArray, List.set_cons_zero, List.set_cons_succ]
        clear hSb
        refine till_take (i := 8) (v := .bool false) rfl (by kernel_rfl) (by kernel_rfl) (by kernel_rfl) (fun _ _ _ h => h) (fun L w => Iff.rfl) (Or.inl ⟨by rfl, fun w => by go_simp⟩) hS (fun hSb => ?_)
        simp only [List.getElem_toArray, List.getElem_cons_zero, List.getElem_cons_succ, Act.put, List.setIfInBounds_toArray, List.set_cons_zero, List.set_cons_succ]
        clear hS
        refine till_take (i := 9) (v := .bool false) rfl (by kernel_rfl) (by kernel_rfl) (by kernel_rfl) (fun _ _ _ h => h) (fun L w => Iff.rfl) (Or.inl ⟨by rfl, fun w => by go_simp⟩) hSb (fun hS => ?_)
        simp only [List.getElem_toArray, List.getElem_cons_zero, List.getElem_cons_succ, Act.put, List.setIfInBounds_toArray, List.set_cons_zero, List.set_cons_succ]
        clear hSb
        refine till_take (i := 10) (v := .int .i64 kk) rfl (by kernel_rfl) (by kernel_rfl) (by kernel_rfl) (fun _ _ _ h => h) (fun L w => Iff.rfl) (Or.inl ⟨by rfl, fun w => by go_simp⟩) hS (fun hSb => ?_)
        simp only [List.getElem_toArray, List.getElem_cons_zero, List.getElem_cons_succ, Act.put, List.setIfInBounds_toArray, List.set_cons_zero, List.set_cons_succ]
        clear hS
        refine till_take (i := 11) (v := .pointer (some ⟨g5, kk, none⟩)) rfl (by kernel_rfl) (by kernel_rfl) (by kernel_rfl) (fun _ _ _ h => h) (fun L w => Iff.rfl) (Or.inl ⟨by rfl, fun w => by go_simp⟩) hSb (fun hS => ?_)
        simp only [List.getElem_toArray, List.getElem_cons_zero, List.getElem_cons_succ, Act.put, List.setIfInBounds_toArray, List.set_cons_zero, List.set_cons_succ]
        clear hSb
        refine till_read (i := 12) (c := 17) (v := .pointer (some ⟨Gs kk, 0, none⟩)) (T := fun W => Vq W g5 g6 g12 kk (Gs kk) (Ms kk) x) rfl rfl (by kernel_rfl) (by kernel_rfl) (by kernel_rfl) (by kernel_rfl) (by kernel_rfl) (fun _ _ _ h => h) (fun L w => Iff.rfl) (fun L w h1 h2 => h2) (Or.inl ⟨by rfl, fun w h => by have q1 := h.a; go_simp⟩) hS (fun hSb => ?_)
        simp only [List.getElem_toArray, List.getElem_cons_zero, List.getElem_cons_succ, Act.put, List.setIfInBounds_toArray, List.set_cons_zero, List.set_cons_succ]
        clear hS
        refine till_take (i := 13) (v := .int .i64 kk) rfl (by kernel_rfl) (by kernel_rfl) (by kernel_rfl) (fun _ _ _ h => h) (fun L w => Iff.rfl) (Or.inl ⟨by rfl, fun w => by go_simp⟩) hSb (fun hS => ?_)
        simp only [List.getElem_toArray, List.getElem_cons_zero, List.getElem_cons_succ, Act.put, List.setIfInBounds_toArray, List.set_cons_zero, List.set_cons_succ]
        clear hSb
        refine till_take (i := 14) (v := .pointer (some ⟨g6, kk, none⟩)) rfl (by kernel_rfl) (by kernel_rfl) (by kernel_rfl) (fun _ _ _ h => h) (fun L w => Iff.rfl) (Or.inl ⟨by rfl, fun w => by go_simp⟩) hS (fun hSb => ?_)
        simp only [List.getElem_toArray, List.getElem_cons_zero, List.getElem_cons_succ, Act.put, List.setIfInBounds_toArray, List.set_cons_zero, List.set_cons_succ]
        clear hS
        refine till_read (i := 15) (c := 17) (v := .pointer (some ⟨Ms kk, 0, none⟩)) (T := fun W => Vq W g5 g6 g12 kk (Gs kk) (Ms kk) x) rfl rfl (by kernel_rfl) (by kernel_rfl) (by kernel_rfl) (by kernel_rfl) (by kernel_rfl) (fun _ _ _ h => h) (fun L w => Iff.rfl) (fun L w h1 h2 => h2) (Or.inl ⟨by rfl, fun w h => by have q1 := h.m; go_simp⟩) hSb (fun hS => ?_)
        simp only [List.getElem_toArray, List.getElem_cons_zero, List.getElem_cons_succ, Act.put, List.setIfInBounds_toArray, List.set_cons_zero, List.set_cons_succ]
        clear hSb
        refine till_take (i := 16) (v := .agg #[.int .i64 4, .int .i64 0, .int .i64 0, .int .i64 0, .slice none 0 0]) rfl (by kernel_rfl) (by kernel_rfl) (by kernel_rfl) (fun _ _ _ h => h) (fun L w => Iff.rfl) (Or.inl ⟨by rfl, fun w => by go_simp⟩) hS (fun hSb => ?_)
        simp only [List.getElem_toArray, List.getElem_cons_zero, List.getElem_cons_succ, Act.put, List.setIfInBounds_toArray, List.set_cons_zero, List.set_cons_succ]
        clear hS
        obtain ⟨s2, a2, m2, c2, X2, a3, m3, c3, X3, HA2, HB2, HK2⟩ := P2.out.pr kk hkk
        have HA2 : Hid (Acc w2 84 G (Gs kk) s2 a2 m2 c2 X2) := HA2
        have HB2 : Hid (Acc w2 37 G (Ms kk) s2 a3 m3 c3 X3) := HB2
        have HK2 : Hid (Okk s2) := HK2
        have HE2 : Hid (Sent w2 18 E) := hE.out.below P2.out.bel
        have HG2 : Hid (G ≤ w2.heap.size) := P2.out.gs
        have HX2 : Hid (Cms w2 0 z4.a z4.m z4.X) := Cms.nil _ _ _
        have HZ2 : Hid (z4.a = none → z4.c = 0) := fun _ => rfl
        have HL2 : Hid (∀ q, fpc z4.a z4.m z4.X q → q ≠ Gs kk ∧ q ≠ Ms kk) := fun q hq => by rcases hq with ⟨h, _⟩ | ⟨y, hy, _⟩; cases h; cases hy
        refine till_one (i := 17) (by kernel_rfl) rfl (fun K hK => ?_)
        simp only [List.getElem_toArray, List.getElem_cons_zero, List.getElem_cons_succ]
        rw [if_pos (by rfl)]
        go_simp
        go_wp2_with (go_at_call 10; refine (play_n HA2 HB2 HE2 HG2 HN HK2 H18 HEB z4 HX2 HZ2 HL2).mono ?_; rintro e w3 ⟨rfl, H3⟩)
        have P3 : Hid (Ps w w3 g5 g6 Gs Ms G) := P2.out.step hkk H3.out
        have Q3 : Vq w3 g5 g6 g12 kk (Gs kk) (Ms kk) x := Vq.ch hSb H3.out GE.out P12.out hkk
        refine hK.out _ _ (Q3) (fun hS => ?_)
        clear hK K
        try simp only [List.getElem_toArray, List.getElem_cons_zero, List.getElem_cons_succ, Act.put, List.setIfInBounds_toArray, List.set_cons_zero, List.set_cons_succ]
        clear hSb
        refine till_take (i := 18) (v := .bool false) rfl (by kernel_rfl) (by kernel_rfl) (by kernel_rfl) (fun _ _ _ h => h) (fun L w => Iff.rfl) (Or.inl ⟨by rfl, fun w => by go_simp⟩) hS (fun hSb => ?_)
        simp only [List.getElem_toArray, List.getElem_cons_zero, List.getElem_cons_succ, Act.put, List.setIfInBounds_toArray, List.set_cons_zero, List.set_cons_succ]
        clear hS
        refine till_take (i := 19) (v := .bool false) rfl (by kernel_rfl) (by kernel_rfl) (by kernel_rfl) (fun _ _ _ h => h) (fun L w => Iff.rfl) (Or.inl ⟨by rfl, fun w => by go_simp⟩) hSb (fun hS => ?_)
        simp only [List.getElem_toArray, List.getElem_cons_zero, List.getElem_cons_succ, Act.put, List.setIfInBounds_toArray, List.set_cons_zero, List.set_cons_succ]
        clear hSb
        refine till_done (by kernel_rfl) ?_ _
        clear hS
        clear Q2 Q3
        go_wp2
        go_roundw
        case rel => exact ⟨i + 1, by omega, by go_num, P3.out⟩
        case measure => simp [intOf]; omega
      · go_wp2
        go_ret
        exact ⟨rfl, HP.out.bel⟩
    rcases (by omega : k = 0 ∨ k = 1 ∨ k = 2) with rfl | rfl | rfl
    · rcases Bool.eq_false_or_eq_true (nod n0) with hb | hb
      · skip
        have HN : Hid (nod n0 = true) := hb
        have i0 : ¬ (n0 < 0) := by have := of_decide_eq_true hb; omega
        have i1 : ¬ (n0 > 15) := by have := of_decide_eq_true hb; omega
        go_upto_region 13 with (go_at_call 9; refine (new_ok n0 HN.out).mono ?_; rintro e w2 ⟨rfl, H2⟩)
        obtain ⟨ga, Hga⟩ : ∃ ga, Hid (wr.heap.size = ga) := ⟨_, rfl⟩
        obtain ⟨gc, Hgc⟩ : ∃ gc, Hid (w2.heap.size = gc) := ⟨_, rfl⟩
        obtain ⟨w3, Hw3⟩ : ∃ w3, Hid (w2.alloc (.cells (accA (s0 n0) none 0 0) 37) = w3) := ⟨_, rfl⟩
        obtain ⟨W4, HW4⟩ : ∃ W4, Hid (w3.setCell ⟨g5, 0, none⟩ (.pointer (some ⟨ga, 0, none⟩)) = W4) := ⟨_, rfl⟩
        obtain ⟨W5, HW5⟩ : ∃ W5, Hid (W4.setCell ⟨g6, 0, none⟩ (.pointer (some ⟨gc, 0, none⟩)) = W5) := ⟨_, rfl⟩
        obtain ⟨g56, y5, z5, y6, z6, NX0⟩ := pl_step (k := 0) (by omega) HR.out H2.out Hga.out Hgc.out Hw3.out HW4.out HW5.out (show nd n0 n1 n2 0 = n0 from rfl)
        have NX : Hid (Pl w W5 g5 g6 (nd n0 n1 n2) 1) := NX0
        clear NX0
        go_wp2
        rw [show (Obj.cells #[.int .i64 n0, .int .i64 0, .int .i64 0, .int .i64 0, .int .i64 0, .slice none 0 0, .int .i64 0] 37) = .cells (accA (s0 n0) none 0 0) 37 from rfl, Hga.out, Hgc.out, Hw3.out, HW4.out, HW5.out]
        go_roundw
        case rel => exact ⟨1, by omega, by go_num, NX.out⟩
        case measure => simp [intOf]
      · skip
        have HB : Hid (nod n0 = false) := hb
        have hb2 : ¬ (0 ≤ n0 ∧ n0 < 16) := of_decide_eq_false hb
        have Er : Hid (Sent wr 18 E) := hE.out.below HR.out.bel
        by_cases h0 : n0 < 0
        · go_wp2_with (go_at_call 9; refine (new_no n0 HB.out Er (by omega)).mono ?_; rintro e w2 ⟨rfl, H2⟩; unfold er
                       have y0 : w2.cell? ⟨0, 0, none⟩ = some (.iface 102 (.pointer (some (E 0)))) := (Er.out.below H2.out).c 0 (by omega)
                       have eq := eql_same w2 (E 0))
          go_ret
          exact ⟨rfl, HR.out.bel.trans (H2.out.mono HR.out.bel.size)⟩
        · have h1 : n0 > 15 := by omega
          go_wp2_with (go_at_call 9; refine (new_no n0 HB.out Er (by omega)).mono ?_; rintro e w2 ⟨rfl, H2⟩; unfold er
                       have y0 : w2.cell? ⟨0, 0, none⟩ = some (.iface 102 (.pointer (some (E 0)))) := (Er.out.below H2.out).c 0 (by omega)
                       have eq := eql_same w2 (E 0))
          go_ret
          exact ⟨rfl, HR.out.bel.trans (H2.out.mono HR.out.bel.size)⟩
    · rcases Bool.eq_false_or_eq_true (nod n1) with hb | hb
      · skip
        have HN : Hid (nod n1 = true) := hb
        have i0 : ¬ (n1 < 0) := by have := of_decide_eq_true hb; omega
        have i1 : ¬ (n1 > 15) := by have := of_decide_eq_true hb; omega
        go_upto_region 13 with (go_at_call 9; refine (new_ok n1 HN.out).mono ?_; rintro e w2 ⟨rfl, H2⟩)
        obtain ⟨ga, Hga⟩ : ∃ ga, Hid (wr.heap.size = ga) := ⟨_, rfl⟩
        obtain ⟨gc, Hgc⟩ : ∃ gc, Hid (w2.heap.size = gc) := ⟨_, rfl⟩
        obtain ⟨w3, Hw3⟩ : ∃ w3, Hid (w2.alloc (.cells (accA (s0 n1) none 0 0) 37) = w3) := ⟨_, rfl⟩
        obtain ⟨W4, HW4⟩ : ∃ W4, Hid (w3.setCell ⟨g5, 1, none⟩ (.pointer (some ⟨ga, 0, none⟩)) = W4) := ⟨_, rfl⟩
        obtain ⟨W5, HW5⟩ : ∃ W5, Hid (W4.setCell ⟨g6, 1, none⟩ (.pointer (some ⟨gc, 0, none⟩)) = W5) := ⟨_, rfl⟩
        obtain ⟨g56, y5, z5, y6, z6, NX0⟩ := pl_step (k := 1) (by omega) HR.out H2.out Hga.out Hgc.out Hw3.out HW4.out HW5.out (show nd n0 n1 n2 1 = n1 from rfl)
        have NX : Hid (Pl w W5 g5 g6 (nd n0 n1 n2) 2) := NX0
        clear NX0
        go_wp2
        rw [show (Obj.cells #[.int .i64 n1, .int .i64 0, .int .i64 0, .int .i64 0, .int .i64 0, .slice none 0 0, .int .i64 0] 37) = .cells (accA (s0 n1) none 0 0) 37 from rfl, Hga.out, Hgc.out, Hw3.out, HW4.out, HW5.out]
        go_roundw
        case rel => exact ⟨2, by omega, by go_num, NX.out⟩
        case measure => simp [intOf]
      · skip
        have HB : Hid (nod n1 = false) := hb
        have hb2 : ¬ (0 ≤ n1 ∧ n1 < 16) := of_decide_eq_false hb
        have Er : Hid (Sent wr 18 E) := hE.out.below HR.out.bel
        by_cases h0 : n1 < 0
        · go_wp2_with (go_at_call 9; refine (new_no n1 HB.out Er (by omega)).mono ?_; rintro e w2 ⟨rfl, H2⟩; unfold er
                       have y0 : w2.cell? ⟨0, 0, none⟩ = some (.iface 102 (.pointer (some (E 0)))) := (Er.out.below H2.out).c 0 (by omega)
                       have eq := eql_same w2 (E 0))
          go_ret
          exact ⟨rfl, HR.out.bel.trans (H2.out.mono HR.out.bel.size)⟩
        · have h1 : n1 > 15 := by omega
          go_wp2_with (go_at_call 9; refine (new_no n1 HB.out Er (by omega)).mono ?_; rintro e w2 ⟨rfl, H2⟩; unfold er
                       have y0 : w2.cell? ⟨0, 0, none⟩ = some (.iface 102 (.pointer (some (E 0)))) := (Er.out.below H2.out).c 0 (by omega)
                       have eq := eql_same w2 (E 0))
          go_ret
          exact ⟨rfl, HR.out.bel.trans (H2.out.mono HR.out.bel.size)⟩
    · rcases Bool.eq_false_or_eq_true (nod n2) with hb | hb
      · skip
        have HN : Hid (nod n2 = true) := hb
        have i0 : ¬ (n2 < 0) := by have := of_decide_eq_true hb; omega
        have i1 : ¬ (n2 > 15) := by have := of_decide_eq_true hb; omega
        go_upto_region 13 with (go_at_call 9; refine (new_ok n2 HN.out).mono ?_; rintro e w2 ⟨rfl, H2⟩)
        obtain ⟨ga, Hga⟩ : ∃ ga, Hid (wr.heap.size = ga) := ⟨_, rfl⟩
        obtain ⟨gc, Hgc⟩ : ∃ gc, Hid (w2.heap.size = gc) := ⟨_, rfl⟩
        obtain ⟨w3, Hw3⟩ : ∃ w3, Hid (w2.alloc (.cells (accA (s0 n2) none 0 0) 37) = w3) := ⟨_, rfl⟩
        obtain ⟨W4, HW4⟩ : ∃ W4, Hid (w3.setCell ⟨g5, 2, none⟩ (.pointer (some ⟨ga, 0, none⟩)) = W4) := ⟨_, rfl⟩
        obtain ⟨W5, HW5⟩ : ∃ W5, Hid (W4.setCell ⟨g6, 2, none⟩ (.pointer (some ⟨gc, 0, none⟩)) = W5) := ⟨_, rfl⟩
        obtain ⟨g56, y5, z5, y6, z6, NX0⟩ := pl_step (k := 2) (by omega) HR.out H2.out Hga.out Hgc.out Hw3.out HW4.out HW5.out (show nd n0 n1 n2 2 = n2 from rfl)
        have NX : Hid (Pl w W5 g5 g6 (nd n0 n1 n2) 3) := NX0
        clear NX0
        go_wp2
        rw [show (Obj.cells #[.int .i64 n2, .int .i64 0, .int .i64 0, .int .i64 0, .int .i64 0, .slice none 0 0, .int .i64 0] 37) = .cells (accA (s0 n2) none 0 0) 37 from rfl, Hga.out, Hgc.out, Hw3.out, HW4.out, HW5.out]
        go_roundw
        case rel => exact ⟨3, by omega, by go_num, NX.out⟩
        case measure => simp [intOf]
      · skip
        have HB : Hid (nod n2 = false) := hb
        have hb2 : ¬ (0 ≤ n2 ∧ n2 < 16) := of_decide_eq_false hb
        have Er : Hid (Sent wr 18 E) := hE.out.below HR.out.bel
        by_cases h0 : n2 < 0
        · go_wp2_with (go_at_call 9; refine (new_no n2 HB.out Er (by omega)).mono ?_; rintro e w2 ⟨rfl, H2⟩; unfold er
                       have y0 : w2.cell? ⟨0, 0, none⟩ = some (.iface 102 (.pointer (some (E 0)))) := (Er.out.below H2.out).c 0 (by omega)
                       have eq := eql_same w2 (E 0))
          go_ret
          exact ⟨rfl, HR.out.bel.trans (H2.out.mono HR.out.bel.size)⟩
        · have h1 : n2 > 15 := by omega
          go_wp2_with (go_at_call 9; refine (new_no n2 HB.out Er (by omega)).mono ?_; rintro e w2 ⟨rfl, H2⟩; unfold er
                       have y0 : w2.cell? ⟨0, 0, none⟩ = some (.iface 102 (.pointer (some (E 0)))) := (Er.out.below H2.out).c 0 (by omega)
                       have eq := eql_same w2 (E 0))
          go_ret
          exact ⟨rfl, HR.out.bel.trans (H2.out.mono HR.out.bel.size)⟩
end Go.Proofs.YtdfnjcjpblkmcaaDoor
