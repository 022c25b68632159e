/- Acceptors: Accepted, Prepare, Accept. -/
import Derived.Test.YtdfnjcjpblkmcaaDoorAi
namespace Go.Proofs.YtdfnjcjpblkmcaaDoor
open Go.ChangeShapes Go.WideShapes Go.ChangeAt Go.RowKit
set_option maxRecDepth 20000
set_option linter.unusedVariables false
set_option linter.unusedSimpArgs false
structure Aq (W : World) (g gr : Nat) (r n : Int) (a : Option Addr) (m c : Nat) : Prop where
  c3 : W.cell? ⟨g, 3, none⟩ = some (.int .i64 r)
  c4 : W.cell? ⟨g, 4, none⟩ = some (.int .i64 n)
  c5 : W.cell? ⟨g, 5, none⟩ = some (.slice a m c)
theorem Aq.blk {W W' : World} {g gr : Nat} {r n : Int} {a : Option Addr} {m c : Nat} (h : Aq W g gr r n a m c) (hb : W'.heap[g]? = W.heap[g]?) : Aq W' g gr r n a m c :=
  ⟨(World.cell?_of_block (a := ⟨g, 3, none⟩) hb).trans h.c3, (World.cell?_of_block (a := ⟨g, 4, none⟩) hb).trans h.c4, (World.cell?_of_block (a := ⟨g, 5, none⟩) hb).trans h.c5⟩
theorem Aq.below {W W' : World} {g gr : Nat} {r n : Int} {a : Option Addr} {m c : Nat} (h : Aq W g gr r n a m c) (hb : Below W.heap.size W W') : Aq W' g gr r n a m c := h.blk (hb.block g (cell_lt h.c3))
theorem Aq.ch {W W' : World} {g gr k : Nat} {r n : Int} {a : Option Addr} {m c : Nat} (h : Aq W g gr r n a m c) (hb : Ch W W' (fun q => q = k)) (hk : g ≠ k) : Aq W' g gr r n a m c := h.blk (hb.block g (cell_lt h.c3) hk)
structure Bq (W : World) (gb : Nat) (r n : Int) : Prop where
  b0 : W.cell? ⟨gb, 0, none⟩ = some (.int .i64 r)
  b1 : W.cell? ⟨gb, 1, none⟩ = some (.int .i64 n)
theorem Bq.blk {W W' : World} {gb : Nat} {r n : Int} (h : Bq W gb r n) (hb : W'.heap[gb]? = W.heap[gb]?) : Bq W' gb r n := ⟨(World.cell?_of_block (a := ⟨gb, 0, none⟩) hb).trans h.b0, (World.cell?_of_block (a := ⟨gb, 1, none⟩) hb).trans h.b1⟩
theorem Bq.below {W W' : World} {gb : Nat} {r n : Int} (h : Bq W gb r n) (hb : Below W.heap.size W W') : Bq W' gb r n := h.blk (hb.block gb (cell_lt h.b0))
theorem Bq.ch {W W' : World} {gb k : Nat} {r n : Int} (h : Bq W gb r n) (hb : Ch W W' (fun q => q = k)) (hk : gb ≠ k) : Bq W' gb r n := h.blk (hb.block gb (cell_lt h.b0) hk)
set_option maxHeartbeats 2000000 in
theorem accepted_n {w : World} {G g : Nat} {s : As} {a : Option Addr} {n c : Nat} {X : List Cx} (hA : Hid (Acc w 84 G g s a n c X)) :
    Calls Tryd.prog 18 #[.pointer (some ⟨g, 0, none⟩)] w fun e w' => ∃ a' c', e = .returned (.tuple #[bal s.aR s.aN, .slice a' n c']) ∧ Hid (∃ Y, led Y = s.L ∧ Oc w' w.heap.size a' n c' Y ∧ Below w.heap.size w w') := by
  obtain ⟨gr, Hgr⟩ : ∃ gr, Hid (w.heap.size = gr) := ⟨_, rfl⟩
  obtain ⟨w1, Hw1⟩ : ∃ w1, Hid ((w.alloc (.cells #[.int .i64 0, .int .i64 0] 34)).drew = w1) := ⟨_, rfl⟩
  have L1 : Hid (Below w.heap.size w w1) := by rw [← Hw1.out]; exact (alloc1 w _).drew
  have K1 : Hid (w1.heap[gr]? = some (.cells #[.int .i64 0, .int .i64 0] 34 (0, 0))) := by rw [← Hw1.out, ← Hgr.out]; exact heap_alloc_new w _
  have GL : Hid (gr < w1.heap.size) := (Array.getElem?_eq_some_iff.1 K1.out).1
  have A1 := hA.out.below L1.out
  have C0 : Hid (Cms w1 G a n X) := A1.cms
  have Z0 : Hid (a = none → c = 0) := A1.z
  have NE : Hid (g ≠ gr) := by have := hA.out.glt; have := Hgr.out; show g ≠ gr; omega
  have Q1 : Aq w1 g gr s.aR s.aN a n c := ⟨A1.c3, A1.c4, A1.c5⟩
  clear A1
  go_enter Tryd.func18, Tryd.ntmps18
  go_upto_region 1 with (fail)
  refine wp_region_till (S := fun L W => Aq W g gr s.aR s.aN a n c) (by kernel_rfl) (by rw [Hw1.out]; exact Q1) (fun hS => ?_)
  rw [Hw1.out] at hS ⊢
  rw [Hgr.out]
  clear Q1
  refine till_take (i := 0) (v := .pointer (some ⟨g, 0, none⟩)) rfl (by kernel_rfl) (by kernel_rfl) (by kernel_rfl) (fun _ _ _ h => h) (fun L w => Iff.rfl) (Or.inl ⟨by rfl, fun w => by go_simp⟩) hS (fun hSb => ?_)
  simp only [List.getElem_toArray, List.getElem_cons_zero, List.getElem_cons_succ, Act.put, List.setIfInBounds_toArray, List.set_cons_zero, List.set_cons_succ]
  clear hS
  refine till_take (i := 1) (v := .pointer (some ⟨g, 0, none⟩)) rfl (by kernel_rfl) (by kernel_rfl) (by kernel_rfl) (fun _ _ _ h => h) (fun L w => Iff.rfl) (Or.inl ⟨by rfl, fun w => by go_simp⟩) hSb (fun hS => ?_)
  simp only [List.getElem_toArray, List.getElem_cons_zero, List.getElem_cons_succ, Act.put, List.setIfInBounds_toArray, List.set_cons_zero, List.set_cons_succ]
  clear hSb
  refine till_take (i := 2) (v := .pointer (some ⟨g, 3, none⟩)) rfl (by kernel_rfl) (by kernel_rfl) (by kernel_rfl) (fun _ _ _ h => h) (fun L w => Iff.rfl) (Or.inl ⟨by rfl, fun w => by go_simp⟩) hS (fun hSb => ?_)
  simp only [List.getElem_toArray, List.getElem_cons_zero, List.getElem_cons_succ, Act.put, List.setIfInBounds_toArray, List.set_cons_zero, List.set_cons_succ]
  clear hS
  refine till_read (i := 3) (c := 9) (v := bal s.aR s.aN) (T := fun W => Aq W g gr s.aR s.aN a n c) rfl rfl (by kernel_rfl) (by kernel_rfl) (by kernel_rfl) (by kernel_rfl) (by kernel_rfl) (fun _ _ _ h => h) (fun L w => Iff.rfl) (fun L w h1 h2 => h2) (Or.inl ⟨by rfl, fun w h => by have q1 := h.c3; have q2 := h.c4; go_simp⟩) hSb (fun hS => ?_)
  simp only [List.getElem_toArray, List.getElem_cons_zero, List.getElem_cons_succ, Act.put, List.setIfInBounds_toArray, List.set_cons_zero, List.set_cons_succ]
  clear hSb
  refine till_take (i := 4) (v := .pointer (some ⟨g, 0, none⟩)) rfl (by kernel_rfl) (by kernel_rfl) (by kernel_rfl) (fun _ _ _ h => h) (fun L w => Iff.rfl) (Or.inl ⟨by rfl, fun w => by go_simp⟩) hS (fun hSb => ?_)
  simp only [List.getElem_toArray, List.getElem_cons_zero, List.getElem_cons_succ, Act.put, List.setIfInBounds_toArray, List.set_cons_zero, List.set_cons_succ]
  clear hS
  refine till_take (i := 5) (v := .pointer (some ⟨g, 0, none⟩)) rfl (by kernel_rfl) (by kernel_rfl) (by kernel_rfl) (fun _ _ _ h => h) (fun L w => Iff.rfl) (Or.inl ⟨by rfl, fun w => by go_simp⟩) hSb (fun hS => ?_)
  simp only [List.getElem_toArray, List.getElem_cons_zero, List.getElem_cons_succ, Act.put, List.setIfInBounds_toArray, List.set_cons_zero, List.set_cons_succ]
  clear hSb
  refine till_take (i := 6) (v := .pointer (some ⟨g, 5, none⟩)) rfl (by kernel_rfl) (by kernel_rfl) (by kernel_rfl) (fun _ _ _ h => h) (fun L w => Iff.rfl) (Or.inl ⟨by rfl, fun w => by go_simp⟩) hS (fun hSb => ?_)
  simp only [List.getElem_toArray, List.getElem_cons_zero, List.getElem_cons_succ, Act.put, List.setIfInBounds_toArray, List.set_cons_zero, List.set_cons_succ]
  clear hS
  refine till_read (i := 7) (c := 8) (v := .slice a n c) (T := fun W => Aq W g gr s.aR s.aN a n c) rfl rfl (by kernel_rfl) (by kernel_rfl) (by kernel_rfl) (by kernel_rfl) (by kernel_rfl) (fun _ _ _ h => h) (fun L w => Iff.rfl) (fun L w h1 h2 => h2) (Or.inl ⟨by rfl, fun w h => by have q1 := h.c5; go_simp⟩) hSb (fun hS => ?_)
  simp only [List.getElem_toArray, List.getElem_cons_zero, List.getElem_cons_succ, Act.put, List.setIfInBounds_toArray, List.set_cons_zero, List.set_cons_succ]
  clear hSb
  refine till_one (i := 8) (by kernel_rfl) rfl (fun K hK => ?_)
  simp only [List.getElem_toArray, List.getElem_cons_zero, List.getElem_cons_succ]
  rw [if_pos (by rfl)]
  go_simp
  go_wp2_with (go_at_call 31; refine (copied_n C0 Z0).mono ?_; rintro e w2 ⟨a2, c2, rfl, H2⟩)
  have B2 : Below w1.heap.size w1 w2 := by obtain ⟨Y, _, _, h⟩ := H2.out; exact h
  have Q2 : Aq w2 g gr s.aR s.aN a n c := hS.below B2
  have k2 : w2.heap[gr]? = some (.cells #[.int .i64 0, .int .i64 0] 34 (0, 0)) := (B2.block gr GL.out).trans K1.out
  have x0 : w2.cell? ⟨gr, 0, none⟩ = some (.int .i64 0) := by simp [World.cell?, k2]
  have x1 : w2.cell? ⟨gr, 1, none⟩ = some (.int .i64 0) := by simp [World.cell?, k2]
  have fz : ∀ i, w2.frozen? ⟨gr, i, none⟩ = false := fun i => by simp [World.frozen?, k2]
  have Q3 : Aq ((w2.setCell ⟨gr, 0, none⟩ (.int .i64 s.aR)).setCell ⟨gr, 1, none⟩ (.int .i64 s.aN)) g gr s.aR s.aN a n c := Q2.ch ((Ch.set w2 gr 0 _).trans (Ch.set _ gr 1 _)) NE.out
  refine hK.out _ _ (Q2) (fun hSb => ?_)
  clear hK K
  try simp only [List.getElem_toArray, List.getElem_cons_zero, List.getElem_cons_succ, Act.put, List.setIfInBounds_toArray, List.set_cons_zero, List.set_cons_succ]
  clear hS
  refine till_one (i := 9) (by kernel_rfl) rfl (fun K hK => ?_)
  simp only [List.getElem_toArray, List.getElem_cons_zero, List.getElem_cons_succ]
  rw [if_pos (by rfl)]
  go_simp
  refine hK.out _ _ (Q3) (fun hS => ?_)
  clear hK K
  try simp only [List.getElem_toArray, List.getElem_cons_zero, List.getElem_cons_succ, Act.put, List.setIfInBounds_toArray, List.set_cons_zero, List.set_cons_succ]
  clear hSb
  refine till_one (i := 10) (by kernel_rfl) rfl (fun K hK => ?_)
  simp only [List.getElem_toArray, List.getElem_cons_zero, List.getElem_cons_succ]
  rw [if_pos (by rfl)]
  go_simp
  refine hK.out _ _ (hS) (fun hSb => ?_)
  clear hK K
  try simp only [List.getElem_toArray, List.getElem_cons_zero, List.getElem_cons_succ, Act.put, List.setIfInBounds_toArray, List.set_cons_zero, List.set_cons_succ]
  clear hS
  refine till_done (by kernel_rfl) ?_ _
  clear hSb
  have V0 : ((w2.setCell ⟨gr, 0, none⟩ (.int .i64 s.aR)).setCell ⟨gr, 1, none⟩ (.int .i64 s.aN)).heap[gr]? = some (.cells #[.int .i64 s.aR, .int .i64 s.aN] 34 (0, 0)) := by rw [set_blk (set_blk k2 0 _) 1 _]; rfl
  have BV : Below w.heap.size w ((w2.setCell ⟨gr, 0, none⟩ (.int .i64 s.aR)).setCell ⟨gr, 1, none⟩ (.int .i64 s.aN)) := (L1.out.trans (B2.mono L1.out.size)).trans (((Ch.set w2 gr 0 (.int .i64 s.aR)).trans (Ch.set _ gr 1 (.int .i64 s.aN))).toBelow (Nat.le_trans L1.out.size B2.size) (fun k hk e => by have := Hgr.out; omega))
  obtain ⟨V, HV⟩ : ∃ V, Hid ((w2.setCell ⟨gr, 0, none⟩ (.int .i64 s.aR)).setCell ⟨gr, 1, none⟩ (.int .i64 s.aN) = V) := ⟨_, rfl⟩
  have FIN : Hid (∃ Y, led Y = s.L ∧ Oc V w.heap.size a2 n c2 Y ∧ Below w.heap.size w V) := by
    obtain ⟨Y, h1, h2, h3⟩ := H2.out
    refine ⟨Y, h1.trans hA.out.e, ?_, by rw [← HV.out]; exact BV⟩
    rw [← HV.out]
    have h4 := h2.ch ((Ch.set w2 gr 0 (.int .i64 s.aR)).trans (Ch.set _ gr 1 (.int .i64 s.aN))) (fun q h1 h2 e => by have := GL.out; omega)
    exact h4.mono L1.out.size
  rw [HV.out] at V0 ⊢
  have v0 : V.cell? ⟨gr, 0, none⟩ = some (.int .i64 s.aR) := by simp [World.cell?, V0]
  have v1 : V.cell? ⟨gr, 1, none⟩ = some (.int .i64 s.aN) := by simp [World.cell?, V0]
  clear V0 BV H2 B2 k2 x0 x1 fz Q2 Q3 HV K1 L1
  go_wp2
  refine bodyPost_ret (v := .tuple #[bal s.aR s.aN, .slice a2 n c2]) (by simp [results, Tryd.results18, go_sem, v0, v1]) rfl ⟨a2, c2, rfl, FIN.out⟩
def prA (s : As) (r n : Int) : Int × Int := if prk s r n = 0 then (s.aR, s.aN) else (0, 0)
def prL (s : As) (r n : Int) : List Cm := if prk s r n = 0 then s.L else []
theorem errv_ne {E : Nat → Addr} {k : Nat} (h : k ≠ 0) : ∃ ad, errv E k = er ad := by
  unfold errv
  rw [if_neg h]
  split
  · exact ⟨_, rfl⟩
  · split
    · exact ⟨_, rfl⟩
    · exact ⟨_, rfl⟩
theorem oc_nil (w : World) (lo : Nat) : Oc w lo none 0 0 [] := ⟨World.ownsRow_nil w lo 81 18, by omega, fun x hx => (by cases hx), fun x hx => (by cases hx)⟩
set_option maxHeartbeats 2000000 in
theorem prepare_n {M : Nat} {E : Nat → Addr} {w : World} {G g : Nat} {s : As} {a : Option Addr} {m c : Nat} {X : List Cx} (hA : Hid (Acc w 84 G g s a m c X)) (hE : Hid (Sent w M E)) (hM : 2 ≤ M) (r n : Int) :
    Calls Tryd.prog 15 #[.pointer (some ⟨g, 0, none⟩), bal r n] w fun e w' => ∃ a' m' c', e = .returned (.tuple #[bal (prA s r n).1 (prA s r n).2, .slice a' m' c', errv E (prk s r n)]) ∧ Hid (∃ Y, led Y = prL s r n ∧ Oc w' w.heap.size a' m' c' Y ∧ Acc w' 84 G g (prS s r n) a m c X ∧ Ch w w' (fun q => q = g)) := by
  obtain ⟨gb, Hgb⟩ : ∃ gb, Hid (w.heap.size = gb) := ⟨_, rfl⟩
  obtain ⟨gr, Hgr⟩ : ∃ gr, Hid (w.heap.size + 1 = gr) := ⟨_, rfl⟩
  have gg : Hid (gr = gb + 1) := by show _ = _; rw [← Hgr.out, ← Hgb.out]
  obtain ⟨w0, Hw0⟩ : ∃ w0, Hid ((w.alloc (.cells #[.int .i64 r, .int .i64 n] 34)).alloc (.cells #[.int .i64 0, .int .i64 0] 34) = w0) := ⟨_, rfl⟩
  have L0 : Hid (Below w.heap.size w w0) := by rw [← Hw0.out]; exact alloc2 w _ _
  have S0 : Hid (w0.heap.size = gb + 2) := by show _ = _; rw [← Hw0.out, ← Hgb.out]; simp
  have b0 : w0.cell? ⟨gb, 0, none⟩ = some (.int .i64 r) := by rw [← Hw0.out, ← Hgb.out]; simp
  have b1 : w0.cell? ⟨gb, 1, none⟩ = some (.int .i64 n) := by rw [← Hw0.out, ← Hgb.out]; simp
  have kr : Hid (w0.heap[gr]? = some (.cells #[.int .i64 0, .int .i64 0] 34 (0, 0))) := by show _ = _; rw [← Hw0.out, ← Hgr.out]; have h := heap_alloc_new (w.alloc (.cells #[.int .i64 r, .int .i64 n] 34)) (.cells #[.int .i64 0, .int .i64 0] 34); simpa using h
  have A0 : Hid (Acc w0 84 G g s a m c X) := hA.out.below L0.out
  have E0 : Hid (Sent w0 M E) := hE.out.below L0.out
  have NE : Hid (g < gb) := by have := hA.out.glt; have := Hgb.out; show g < gb; omega
  by_cases hk : prk s r n = 0
  · have PA : Hid (prA s r n = (s.aR, s.aN)) := by show _ = _; simp [prA, hk]
    have PL : Hid (prL s r n = s.L) := by show _ = _; simp [prL, hk]
    have EV : Hid (errv E (prk s r n) = .nilIface) := by show _ = _; rw [hk]; rfl
    have PS : Hid (prS s r n = { s with pR := r, pN := n }) := prS_ok hk
    rw [PA.out, PL.out, EV.out]
    go_enter Tryd.func15, Tryd.ntmps15
    go_upto_region 1 with (fail)
    rw [Hgr.out, Hw0.out, Hgb.out]
    go_upto_region 4 with (go_at_call 30; refine (promise_n A0 E0 hM r n).mono ?_; rintro e w1 ⟨rfl, H1⟩; rw [EV.out])
    have A1 : Hid (Acc w1 84 G g (prS s r n) a m c X) := H1.out.1
    have k1 : w1.heap[gr]? = some (.cells #[.int .i64 0, .int .i64 0] 34 (0, 0)) := (H1.out.2.block gr (by have := S0.out; have := gg.out; omega) (by have := NE.out; have := gg.out; omega)).trans kr.out
    have C1 : Hid (Ch w w1 (fun q => q = g)) := (Ch.below L0.out).trans H1.out.2
    have PR : Hid ((prS s r n).aR = s.aR ∧ (prS s r n).aN = s.aN ∧ (prS s r n).L = s.L) := by rw [PS.out]; exact ⟨rfl, rfl, rfl⟩
    clear b0 b1
    go_wp2_with (go_at_call 18; refine (accepted_n A1).mono ?_; rintro e w2 ⟨a2, c2, rfl, H2⟩; rw [PR.out.1, PR.out.2.1]
                 have B2 : Below w1.heap.size w1 w2 := by obtain ⟨Y, _, _, h⟩ := H2.out; exact h
                 have B3 := B2.trans ((alloc1 w2 (.cells #[.int .i64 s.aR, .int .i64 s.aN] 34)).mono B2.size)
                 have k2 : (w2.alloc (.cells #[.int .i64 s.aR, .int .i64 s.aN] 34)).heap[gr]? = some (.cells #[.int .i64 0, .int .i64 0] 34 (0, 0)) := (B3.block gr (Array.getElem?_eq_some_iff.1 k1).1).trans k1
                 have x0 : (w2.alloc (.cells #[.int .i64 s.aR, .int .i64 s.aN] 34)).cell? ⟨gr, 0, none⟩ = some (.int .i64 0) := by simp [World.cell?, k2]
                 have x1 : (w2.alloc (.cells #[.int .i64 s.aR, .int .i64 s.aN] 34)).cell? ⟨gr, 1, none⟩ = some (.int .i64 0) := by simp [World.cell?, k2]
                 have fz : ∀ i, (w2.alloc (.cells #[.int .i64 s.aR, .int .i64 s.aN] 34)).frozen? ⟨gr, i, none⟩ = false := fun i => by simp [World.frozen?, k2]
                 have HB3 : Hid (Below w1.heap.size w1 (w2.alloc (.cells #[.int .i64 s.aR, .int .i64 s.aN] 34))) := B3
                 have HK2 : Hid ((w2.alloc (.cells #[.int .i64 s.aR, .int .i64 s.aN] 34)).heap[gr]? = some (.cells #[.int .i64 0, .int .i64 0] 34 (0, 0))) := k2
                 clear B2 B3 k2)
    obtain ⟨V, HV⟩ : ∃ V, Hid (((w2.alloc (.cells #[.int .i64 s.aR, .int .i64 s.aN] 34)).setCell ⟨gr, 0, none⟩ (.int .i64 s.aR)).setCell ⟨gr, 1, none⟩ (.int .i64 s.aN) = V) := ⟨_, rfl⟩
    have V0 : V.heap[gr]? = some (.cells #[.int .i64 s.aR, .int .i64 s.aN] 34 (0, 0)) := by rw [← HV.out, set_blk (set_blk HK2.out 0 _) 1 _]; rfl
    have v0 : V.cell? ⟨gr, 0, none⟩ = some (.int .i64 s.aR) := by simp [World.cell?, V0]
    have v1 : V.cell? ⟨gr, 1, none⟩ = some (.int .i64 s.aN) := by simp [World.cell?, V0]
    have CV : Ch (w2.alloc (.cells #[.int .i64 s.aR, .int .i64 s.aN] 34)) V (fun q => q = gr) := by rw [← HV.out]; exact (Ch.set _ gr 0 _).trans (Ch.set _ gr 1 _)
    have grw : w.heap.size ≤ gr := by have := Hgb.out; have := gg.out; omega
    have FIN : Hid (∃ Y, led Y = s.L ∧ Oc V w.heap.size a2 m c2 Y ∧ Acc V 84 G g (prS s r n) a m c X ∧ Ch w V (fun q => q = g)) := by
      obtain ⟨Y, h1, h2, h3⟩ := H2.out
      have gl1 : gr < w1.heap.size := (Array.getElem?_eq_some_iff.1 k1).1
      refine ⟨Y, h1.trans PR.out.2.2, ?_, ?_, ?_⟩
      · exact ((h2.below (alloc1 w2 _)).ch CV (fun q h1 h2 e => by omega)).mono C1.out.size
      · exact ⟨(CV.block g (by have := A1.out.glt; have := HB3.out.size; omega) (by have := NE.out; have := gg.out; omega)).trans ((HB3.out.block g A1.out.glt).trans A1.out.blk), hA.out.cms.ch (S := fun q => q = g) ((C1.out.trans (Ch.below HB3.out)).then CV (fun q _ h => h) (fun q hq e => by omega)) (fun q h1 _ e => by have := hA.out.lt; omega), hA.out.z, hA.out.e.trans (by rw [PR.out.2.2]), hA.out.lt⟩
      · exact (C1.out.trans (Ch.below HB3.out)).then CV (fun q _ h => h) (fun q hq e => by omega)
    rw [HV.out]
    clear CV V0 HK2 HB3 x0 x1 fz H2 k1 HV
    refine bodyPost_ret (v := .tuple #[bal s.aR s.aN, .slice a2 m c2, .nilIface]) (by simp [results, Tryd.results15, go_sem, v0, v1]) rfl ⟨a2, m, c2, rfl, FIN.out⟩
  · have PA : Hid (prA s r n = (0, 0)) := by show _ = _; simp [prA, hk]
    have PL : Hid (prL s r n = []) := by show _ = _; simp [prL, hk]
    obtain ⟨ad, ev⟩ := errv_ne (E := E) hk
    have EV : Hid (errv E (prk s r n) = .iface 102 (.pointer (some ad))) := ev
    rw [PA.out, PL.out, EV.out]
    clear ev hk
    go_enter Tryd.func15, Tryd.ntmps15
    go_upto_region 1 with (fail)
    rw [Hgr.out, Hw0.out, Hgb.out]
    go_wp2_with (go_at_call 30; refine (promise_n A0 E0 hM r n).mono ?_; rintro e w1 ⟨rfl, H1⟩; rw [EV.out]
                 have k1 : w1.heap[gr]? = some (.cells #[.int .i64 0, .int .i64 0] 34 (0, 0)) := (H1.out.2.block gr (by have := S0.out; have := gg.out; omega) (by have := NE.out; have := gg.out; omega)).trans kr.out
                 have x0 : w1.cell? ⟨gr, 0, none⟩ = some (.int .i64 0) := by simp [World.cell?, k1]
                 have x1 : w1.cell? ⟨gr, 1, none⟩ = some (.int .i64 0) := by simp [World.cell?, k1]
                 have fz : ∀ i, w1.frozen? ⟨gr, i, none⟩ = false := fun i => by simp [World.frozen?, k1]
                 have K1 : Hid (w1.heap[gr]? = some (.cells #[.int .i64 0, .int .i64 0] 34 (0, 0))) := k1
                 clear k1)
    obtain ⟨V, HV⟩ : ∃ V, Hid ((w1.setCell ⟨gr, 0, none⟩ (.int .i64 0)).setCell ⟨gr, 1, none⟩ (.int .i64 0) = V) := ⟨_, rfl⟩
    have V0 : V.heap[gr]? = some (.cells #[.int .i64 0, .int .i64 0] 34 (0, 0)) := by rw [← HV.out, set_blk (set_blk K1.out 0 _) 1 _]; rfl
    have v0 : V.cell? ⟨gr, 0, none⟩ = some (.int .i64 0) := by simp [World.cell?, V0]
    have v1 : V.cell? ⟨gr, 1, none⟩ = some (.int .i64 0) := by simp [World.cell?, V0]
    have CV : Ch w1 V (fun q => q = gr) := by rw [← HV.out]; exact (Ch.set _ gr 0 _).trans (Ch.set _ gr 1 _)
    have grw : w.heap.size ≤ gr := by have := Hgb.out; have := gg.out; omega
    have C1 : Ch w w1 (fun q => q = g) := (Ch.below L0.out).trans H1.out.2
    have FIN : Hid (∃ Y, led Y = [] ∧ Oc V w.heap.size none 0 0 Y ∧ Acc V 84 G g (prS s r n) a m c X ∧ Ch w V (fun q => q = g)) := by
      have C2 : Ch w V (fun q => q = g) := C1.then CV (fun q _ h => h) (fun q hq e => by omega)
      exact ⟨[], rfl, oc_nil _ _, ⟨(CV.block g H1.out.1.glt (by have := NE.out; have := gg.out; omega)).trans H1.out.1.blk, hA.out.cms.ch C2 (fun q h1 _ e => by have := hA.out.lt; omega), hA.out.z, H1.out.1.e, hA.out.lt⟩, C2⟩
    rw [HV.out]
    clear CV V0 x0 x1 fz K1 HV C1 b0 b1
    refine bodyPost_ret (v := .tuple #[bal 0 0, .slice none 0 0, .iface 102 (.pointer (some ad))]) (by simp [results, Tryd.results15, go_sem, v0, v1]) rfl ⟨none, 0, 0, rfl, FIN.out⟩
/- the blocks that a ledger reads -/
def fpc (a : Option Addr) (n : Nat) (X : List Cx) (q : Nat) : Prop := (0 < n ∧ blkOf a = some q) ∨ ∃ x ∈ X, 0 < x.pn ∧ blkOf x.pa = some q
theorem Cms.fp_lt {w : World} {lo : Nat} {a : Option Addr} {n : Nat} {X : List Cx} (h : Cms w lo a n X) {q : Nat} (hq : fpc a n X q) : lo ≤ q ∧ q < w.heap.size := by
  rcases hq with ⟨h0, hq⟩ | ⟨x, hx, h0, hq⟩
  · rcases h.row with h1 | ⟨b, off, rfl, h2, h3, _⟩
    · omega
    · cases hq; exact ⟨h2, h3⟩
  · rcases (h.ps x hx).1.row with h1 | ⟨b, off, e, h2, h3, _⟩
    · omega
    · rw [e] at hq; cases hq; exact ⟨h2, h3⟩
theorem Cms.keepF {w w' : World} {lo : Nat} {a : Option Addr} {n : Nat} {X : List Cx} (h : Cms w lo a n X) (hs : w.heap.size ≤ w'.heap.size) (hb : ∀ q, fpc a n X q → w'.heap[q]? = w.heap[q]?) : Cms w' lo a n X := by
  refine ⟨h.len, h.sz, ?_, fun x hx => ⟨⟨(h.ps x hx).1.len, (h.ps x hx).1.sz, ?_⟩, (h.ps x hx).2⟩, h.st⟩
  · rcases h.row with h0 | ⟨b, off, h1, h2, h3, h4⟩
    · exact .inl h0
    · by_cases h0 : n = 0
      · exact .inl h0
      · exact .inr ⟨b, off, h1, h2, Nat.lt_of_lt_of_le h3 hs, fun j v hv => (World.cell?_of_block (a := ⟨b, off + j, none⟩) (hb b (.inl ⟨by omega, by rw [h1]; rfl⟩))).trans (h4 j v hv)⟩
  · rcases (h.ps x hx).1.row with h0 | ⟨b, off, h1, h2, h3, h4⟩
    · exact .inl h0
    · by_cases h0 : x.pn = 0
      · exact .inl h0
      · exact .inr ⟨b, off, h1, h2, Nat.lt_of_lt_of_le h3 hs, fun i hi => (World.cell?_of_block (a := ⟨b, off + i, none⟩) (hb b (.inr ⟨x, hx, by omega, by rw [h1]; rfl⟩))).trans (h4 i hi)⟩
theorem Acc.keepF {w w' : World} {t : TypeId} {G g : Nat} {s : As} {a : Option Addr} {n c : Nat} {X : List Cx} (h : Acc w t G g s a n c X) (hs : w.heap.size ≤ w'.heap.size) (hg : w'.heap[g]? = w.heap[g]?) (hb : ∀ q, fpc a n X q → w'.heap[q]? = w.heap[q]?) : Acc w' t G g s a n c X := ⟨hg.trans h.blk, h.cms.keepF hs hb, h.z, h.e, h.lt⟩
def acS (s : As) (r n : Int) (L : List Cm) : As := if prk s r n = 0 then { s with pR := r, pN := n, aR := r, aN := n, L := L } else s
set_option maxHeartbeats 2000000 in
theorem accept_n {M : Nat} {E : Nat → Addr} {w : World} {G g lo : Nat} {s : As} {a : Option Addr} {m c : Nat} {X : List Cx} {al : Option Addr} {nl cl : Nat} {XL : List Cx} (hA : Hid (Acc w 84 G g s a m c X)) (hE : Hid (Sent w M E)) (hM : 2 ≤ M) (r n : Int) (hL : Hid (Cms w lo al nl XL)) (HZ : Hid (al = none → cl = 0)) (hG : Hid (G ≤ w.heap.size)) (hlo : Hid (∀ q, fpc al nl XL q → q ≠ g)) :
    Calls Tryd.prog 16 #[.pointer (some ⟨g, 0, none⟩), bal r n, .slice al nl cl] w fun e w' => e = .returned (errv E (prk s r n)) ∧ Hid (∃ a' m' c' X', Acc w' 84 G g (acS s r n (led XL)) a' m' c' X' ∧ (∀ q, fpc a' m' X' q → fpc a m X q ∨ w.heap.size ≤ q) ∧ Ch w w' (fun q => q = g)) := by
  obtain ⟨gb, Hgb⟩ : ∃ gb, Hid (w.heap.size = gb) := ⟨_, rfl⟩
  obtain ⟨w0, Hw0⟩ : ∃ w0, Hid (w.alloc (.cells #[.int .i64 r, .int .i64 n] 34) = w0) := ⟨_, rfl⟩
  have L0 : Hid (Below w.heap.size w w0) := by rw [← Hw0.out]; exact alloc1 w _
  have S0 : Hid (w0.heap.size = gb + 1) := by show _ = _; rw [← Hw0.out, ← Hgb.out]; simp
  have b0 : w0.cell? ⟨gb, 0, none⟩ = some (.int .i64 r) := by rw [← Hw0.out, ← Hgb.out]; simp
  have b1 : w0.cell? ⟨gb, 1, none⟩ = some (.int .i64 n) := by rw [← Hw0.out, ← Hgb.out]; simp
  have A0 : Hid (Acc w0 84 G g s a m c X) := hA.out.below L0.out
  have E0 : Hid (Sent w0 M E) := hE.out.below L0.out
  have lg : g < gb := by have := hA.out.glt; have := Hgb.out; omega
  have NE : Hid (gb ≠ g) := by show gb ≠ g; omega
  have Q0 : Hid (Bq w0 gb r n) := ⟨b0, b1⟩
  by_cases hk : prk s r n = 0
  · have EV : Hid (errv E (prk s r n) = .nilIface) := by show _ = _; rw [hk]; rfl
    have AS : Hid (acS s r n (led XL) = { s with pR := r, pN := n, aR := r, aN := n, L := led XL }) := by show _ = _; simp [acS, hk]
    have PS : Hid (prS s r n = { s with pR := r, pN := n }) := prS_ok hk
    rw [EV.out, AS.out]
    clear hk
    go_enter Tryd.func16, Tryd.ntmps16
    go_upto_region 1 with (fail)
    rw [Hw0.out, Hgb.out]
    go_upto_region 4 with (go_at_call 30; refine (promise_n A0 E0 hM r n).mono ?_; rintro e w1 ⟨rfl, H1⟩; rw [EV.out])
    have C1 : Hid (Ch w w1 (fun q => q = g)) := (Ch.below L0.out).trans H1.out.2
    have Q1 : Bq w1 gb r n := Q0.out.ch H1.out.2 NE.out
    obtain ⟨w2, Hw2⟩ : ∃ w2, Hid (w1.drew = w2) := ⟨_, rfl⟩
    have C2 : Hid (Ch w w2 (fun q => q = g)) := by rw [← Hw2.out]; exact C1.out.trans (Ch.drew w1 _)
    have A2 : Hid (Acc w2 84 G g { s with pR := r, pN := n } a m c X) := by
      rw [← Hw2.out, ← PS.out]
      exact H1.out.1.below (Below.refl _ _).drew
    have CL : Hid (Cms w2 lo al nl XL) := hL.out.keepF C2.out.size (fun q hq => C2.out.block q (hL.out.fp_lt hq).2 (hlo.out q hq))
    have Q2 : Bq w2 gb r n := by rw [← Hw2.out]; exact Q1.below (Below.refl _ _).drew
    clear b0 b1 H1
    refine wp_region_till (S := fun L W => Bq W gb r n) (by kernel_rfl) (by rw [Hw2.out]; exact Q2) (fun hS => ?_)
    rw [Hw2.out] at hS ⊢
    clear Q1 Q2 C1
    refine till_take (i := 0) (v := .pointer (some ⟨g, 0, none⟩)) rfl (by kernel_rfl) (by kernel_rfl) (by kernel_rfl) (fun _ _ _ h => h) (fun L w => Iff.rfl) (Or.inl ⟨by rfl, fun w => by go_simp⟩) hS (fun hSb => ?_)
    simp only [List.getElem_toArray, List.getElem_cons_zero, List.getElem_cons_succ, Act.put, List.setIfInBounds_toArray, List.set_cons_zero, List.set_cons_succ]
    clear hS
    refine till_take (i := 1) (v := .pointer (some ⟨g, 0, none⟩)) rfl (by kernel_rfl) (by kernel_rfl) (by kernel_rfl) (fun _ _ _ h => h) (fun L w => Iff.rfl) (Or.inl ⟨by rfl, fun w => by go_simp⟩) hSb (fun hS => ?_)
    simp only [List.getElem_toArray, List.getElem_cons_zero, List.getElem_cons_succ, Act.put, List.setIfInBounds_toArray, List.set_cons_zero, List.set_cons_succ]
    clear hSb
    refine till_read (i := 2) (c := 7) (v := bal r n) (T := fun W => Bq W gb r n) rfl rfl (by kernel_rfl) (by kernel_rfl) (by kernel_rfl) (by kernel_rfl) (by kernel_rfl) (fun _ _ _ h => h) (fun L w => Iff.rfl) (fun L w h1 h2 => h2) (Or.inl ⟨by rfl, fun w h => by have q1 := h.b0; have q2 := h.b1; go_simp⟩) hS (fun hSb => ?_)
    simp only [List.getElem_toArray, List.getElem_cons_zero, List.getElem_cons_succ, Act.put, List.setIfInBounds_toArray, List.set_cons_zero, List.set_cons_succ]
    clear hS
    refine till_take (i := 3) (v := .slice al nl cl) rfl (by kernel_rfl) (by kernel_rfl) (by kernel_rfl) (fun _ _ _ h => h) (fun L w => Iff.rfl) (Or.inl ⟨by rfl, fun w => by go_simp⟩) hSb (fun hS => ?_)
    simp only [List.getElem_toArray, List.getElem_cons_zero, List.getElem_cons_succ, Act.put, List.setIfInBounds_toArray, List.set_cons_zero, List.set_cons_succ]
    clear hSb
    refine till_one (i := 4) (by kernel_rfl) rfl (fun K hK => ?_)
    simp only [List.getElem_toArray, List.getElem_cons_zero, List.getElem_cons_succ]
    rw [if_pos (by rfl)]
    go_simp
    go_wp2_with (go_at_call 31; refine (copied_n CL HZ).mono ?_; rintro e w3 ⟨a3, c3, rfl, H3⟩)
    obtain ⟨Y, hY1, hY2, hY3⟩ := H3.out
    have A3 := A2.out.below hY3
    have Q3 : Bq w3 gb r n := hS.below hY3
    have k3 := A3.blk
    have x3 := A3.c3
    have x4 := A3.c4
    have fz := A3.fz
    have C4 : Ch w3 ((w3.setCell ⟨g, 3, none⟩ (.int .i64 r)).setCell ⟨g, 4, none⟩ (.int .i64 n)) (fun q => q = g) := (Ch.set w3 g 3 _).trans (Ch.set _ g 4 _)
    have k4 : ((w3.setCell ⟨g, 3, none⟩ (.int .i64 r)).setCell ⟨g, 4, none⟩ (.int .i64 n)).heap[g]? = some (.cells (accA { s with pR := r, pN := n, aR := r, aN := n } a m c) 84 (0, 0)) := by rw [set_blk (set_blk k3 3 _) 4 _]; rfl
    have Q4 : Bq ((w3.setCell ⟨g, 3, none⟩ (.int .i64 r)).setCell ⟨g, 4, none⟩ (.int .i64 n)) gb r n := Q3.ch C4 NE.out
    obtain ⟨W4, HW4⟩ : ∃ W4, Hid ((w3.setCell ⟨g, 3, none⟩ (.int .i64 r)).setCell ⟨g, 4, none⟩ (.int .i64 n) = W4) := ⟨_, rfl⟩
    rw [HW4.out] at C4 k4 Q4
    have x5 : W4.cell? ⟨g, 5, none⟩ = some (.slice a m c) := by simp [World.cell?, k4]
    have f5 : W4.frozen? ⟨g, 5, none⟩ = false := by simp [World.frozen?, k4]
    have Q5 : Bq (W4.setCell ⟨g, 5, none⟩ (.slice a3 nl c3)) gb r n := Q4.ch (Ch.set W4 g 5 _) NE.out
    have C5 : Hid (Ch w3 (W4.setCell ⟨g, 5, none⟩ (.slice a3 nl c3)) (fun q => q = g)) := C4.trans (Ch.set W4 g 5 _)
    have k5 : Hid ((W4.setCell ⟨g, 5, none⟩ (.slice a3 nl c3)).heap[g]? = some (.cells (accA { s with pR := r, pN := n, aR := r, aN := n, L := led XL } a3 nl c3) 84 (0, 0))) := by show _ = _; rw [set_blk k4 5 _]; rfl
    have HY1 : Hid (led Y = led XL) := hY1
    have HY2 : Hid (Oc w3 w2.heap.size a3 nl c3 Y) := hY2
    have HY3 : Hid (Below w2.heap.size w2 w3) := hY3
    clear hY1 hY2 hY3 C4 k4 k3 H3
    refine hK.out _ _ (Q3) (fun hSb => ?_)
    clear hK K
    try simp only [List.getElem_toArray, List.getElem_cons_zero, List.getElem_cons_succ, Act.put, List.setIfInBounds_toArray, List.set_cons_zero, List.set_cons_succ]
    clear hS
    refine till_take (i := 5) (v := .pointer (some ⟨g, 0, none⟩)) rfl (by kernel_rfl) (by kernel_rfl) (by kernel_rfl) (fun _ _ _ h => h) (fun L w => Iff.rfl) (Or.inl ⟨by rfl, fun w => by go_simp⟩) hSb (fun hS => ?_)
    simp only [List.getElem_toArray, List.getElem_cons_zero, List.getElem_cons_succ, Act.put, List.setIfInBounds_toArray, List.set_cons_zero, List.set_cons_succ]
    clear hSb
    refine till_take (i := 6) (v := .pointer (some ⟨g, 3, none⟩)) rfl (by kernel_rfl) (by kernel_rfl) (by kernel_rfl) (fun _ _ _ h => h) (fun L w => Iff.rfl) (Or.inl ⟨by rfl, fun w => by go_simp⟩) hS (fun hSb => ?_)
    simp only [List.getElem_toArray, List.getElem_cons_zero, List.getElem_cons_succ, Act.put, List.setIfInBounds_toArray, List.set_cons_zero, List.set_cons_succ]
    clear hS
    refine till_one (i := 7) (by kernel_rfl) rfl (fun K hK => ?_)
    simp only [List.getElem_toArray, List.getElem_cons_zero, List.getElem_cons_succ]
    rw [if_pos (by rfl)]
    go_simp
    rw [HW4.out]
    refine hK.out _ _ (Q4) (fun hS => ?_)
    clear hK K
    try simp only [List.getElem_toArray, List.getElem_cons_zero, List.getElem_cons_succ, Act.put, List.setIfInBounds_toArray, List.set_cons_zero, List.set_cons_succ]
    clear hSb
    refine till_take (i := 8) (v := .pointer (some ⟨g, 0, none⟩)) rfl (by kernel_rfl) (by kernel_rfl) (by kernel_rfl) (fun _ _ _ h => h) (fun L w => Iff.rfl) (Or.inl ⟨by rfl, fun w => by go_simp⟩) hS (fun hSb => ?_)
    simp only [List.getElem_toArray, List.getElem_cons_zero, List.getElem_cons_succ, Act.put, List.setIfInBounds_toArray, List.set_cons_zero, List.set_cons_succ]
    clear hS
    refine till_take (i := 9) (v := .pointer (some ⟨g, 5, none⟩)) rfl (by kernel_rfl) (by kernel_rfl) (by kernel_rfl) (fun _ _ _ h => h) (fun L w => Iff.rfl) (Or.inl ⟨by rfl, fun w => by go_simp⟩) hSb (fun hS => ?_)
    simp only [List.getElem_toArray, List.getElem_cons_zero, List.getElem_cons_succ, Act.put, List.setIfInBounds_toArray, List.set_cons_zero, List.set_cons_succ]
    clear hSb
    refine till_one (i := 10) (by kernel_rfl) rfl (fun K hK => ?_)
    simp only [List.getElem_toArray, List.getElem_cons_zero, List.getElem_cons_succ]
    rw [if_pos (by rfl)]
    go_simp
    refine hK.out _ _ (Q5) (fun hSb => ?_)
    clear hK K
    try simp only [List.getElem_toArray, List.getElem_cons_zero, List.getElem_cons_succ, Act.put, List.setIfInBounds_toArray, List.set_cons_zero, List.set_cons_succ]
    clear hS
    refine till_done (by kernel_rfl) ?_ _
    clear hSb
    have FIN : Hid (∃ a' m' c' X', Acc (W4.setCell ⟨g, 5, none⟩ (.slice a3 nl c3)) 84 G g { s with pR := r, pN := n, aR := r, aN := n, L := led XL } a' m' c' X' ∧ (∀ q, fpc a' m' X' q → fpc a m X q ∨ w.heap.size ≤ q) ∧ Ch w (W4.setCell ⟨g, 5, none⟩ (.slice a3 nl c3)) (fun q => q = g)) := by
      have lo2 : G ≤ w2.heap.size := Nat.le_trans hG.out C2.out.size
      have cm5 := (HY2.out.cms.ch C5.out (fun q h1 _ e => by have := hA.out.lt; omega))
      refine ⟨a3, nl, c3, Y, ⟨k5.out, cm5.mono lo2, HY2.out.cap0, HY1.out, hA.out.lt⟩, fun q hq => .inr ?_, (C2.out.trans (Ch.below HY3.out)).trans C5.out⟩
      exact Nat.le_trans C2.out.size (cm5.fp_lt hq).1
    clear C5 k5 HY1 HY2 HY3 C2 CL A2 A3 x3 x4 fz x5 f5 Q3 Q4 Q5 HW4
    go_wp2
    go_ret
    exact ⟨rfl, FIN.out⟩
  · obtain ⟨ad, ev⟩ := errv_ne (E := E) hk
    have EV : Hid (errv E (prk s r n) = .iface 102 (.pointer (some ad))) := ev
    have AS : Hid (acS s r n (led XL) = s) := by show _ = _; simp [acS, hk]
    have PS : Hid (prS s r n = s) := prS_no hk
    rw [EV.out, AS.out]
    clear ev hk
    go_enter Tryd.func16, Tryd.ntmps16
    go_upto_region 1 with (fail)
    rw [Hw0.out, Hgb.out]
    go_wp2_with (go_at_call 30; refine (promise_n A0 E0 hM r n).mono ?_; rintro e w1 ⟨rfl, H1⟩; rw [EV.out])
    go_ret
    refine ⟨rfl, a, m, c, X, ?_, fun q hq => .inl hq, (Ch.below L0.out).trans H1.out.2⟩
    have := H1.out.1
    rw [PS.out] at this
    exact this
end Go.Proofs.YtdfnjcjpblkmcaaDoor
