/- The document's Claim. -/
import Derived.Test.YtdfnjcjpblkmcaaDoorAp
import Derived.Test.YtdfnjcjpblkmcaaDoorAr
namespace Go.Proofs.YtdfnjcjpblkmcaaDoor
open Go.ChangeShapes Go.WideShapes Go.ChangeAt Go.RowKit
set_option maxRecDepth 20000
set_option linter.unusedVariables false
set_option linter.unusedSimpArgs false
structure Cq (W : World) (g gb : Nat) (c r : Int) : Prop where
  c : W.cell? ⟨g, 6, none⟩ = some (.int .i64 c)
  b : W.cell? ⟨gb, 0, none⟩ = some (.int .i64 r)
def clk_t (s : As) (r : Int) (k : Nat) : Int := if k = 0 then s.pR else if k = 1 then max s.pR s.cl else clT s r
theorem clT_le {s : As} (h : Okk s) (r : Int) : clT s r ≤ 1099511627776 := by
  have := h.p1; have := h.c1
  unfold clT
  split <;> omega
set_option maxHeartbeats 4000000 in
theorem refclaim_n {w : World} {G g : Nat} {s : As} {a : Option Addr} {m c : Nat} {X : List Cx} (hA : Hid (Acc w 37 G g s a m c X)) (hO : Hid (Okk s)) (r n : Int) :
    Calls Tryd.prog 29 #[.pointer (some ⟨g, 0, none⟩), bal r n] w fun e w' => e = .returned (.tuple #[bal (clB s r).1 (clB s r).2, .int .i64 (clk s r : Nat)]) ∧ Hid (Acc w' 37 G g (clS s r) a m c X ∧ Ch w w' (fun q => q = g)) := by
  obtain ⟨gb, Hgb⟩ : ∃ gb, Hid (w.heap.size = gb) := ⟨_, rfl⟩
  obtain ⟨gr, Hgr⟩ : ∃ gr, Hid (w.heap.size + 1 = gr) := ⟨_, rfl⟩
  have gg : Hid (gr = gb + 1) := by show _ = _; rw [← Hgr.out, ← Hgb.out]
  obtain ⟨w0, Hw0⟩ : ∃ w0, Hid ((w.alloc (.cells #[.int .i64 r, .int .i64 n] 34)).alloc (.cells #[.int .i64 0, .int .i64 0] 34) = w0) := ⟨_, rfl⟩
  have L0 : Hid (Below w.heap.size w w0) := by rw [← Hw0.out]; exact alloc2 w _ _
  have kr : Hid (w0.heap[gr]? = some (.cells #[.int .i64 0, .int .i64 0] 34 (0, 0))) := by show _ = _; rw [← Hw0.out, ← Hgr.out]; have h := heap_alloc_new (w.alloc (.cells #[.int .i64 r, .int .i64 n] 34)) (.cells #[.int .i64 0, .int .i64 0] 34); simpa using h
  have A0 : Hid (Acc w0 37 G g s a m c X) := hA.out.below L0.out
  have lg : Hid (g < gb) := by have := hA.out.glt; have := Hgb.out; show g < gb; omega
  have b0 : w0.cell? ⟨gb, 0, none⟩ = some (.int .i64 r) := by rw [← Hw0.out, ← Hgb.out]; simp
  have c1 := A0.out.c1
  go_enter Tryd.func29, Tryd.ntmps29
  go_upto_region 1 with (fail)
  rw [Hgr.out, Hw0.out, Hgb.out]
  go_upto_region 2 with (fail)
  obtain ⟨w1, Hw1⟩ : ∃ w1, Hid (w0.drew = w1) := ⟨_, rfl⟩
  have L1 : Hid (Below w.heap.size w w1) := by rw [← Hw1.out]; exact L0.out.drew
  have A1 : Hid (Acc w1 37 G g s a m c X) := hA.out.below L1.out
  have Q1 : Cq w1 g gb s.cl r := ⟨A1.out.c6, by rw [← Hw1.out]; exact b0⟩
  obtain ⟨gs, Hgs⟩ : ∃ gs, Hid (w1.heap.size = gs) := ⟨_, rfl⟩
  obtain ⟨W2, HW2⟩ : ∃ W2, Hid (w1.alloc (.cells #[.int .i64 s.cl, .int .i64 r] 3) = W2) := ⟨_, rfl⟩
  have B2 : Below w1.heap.size w1 W2 := by rw [← HW2.out]; exact alloc1 _ _
  have L2 : Hid (Below w.heap.size w W2) := L1.out.trans (B2.mono L1.out.size)
  have A2 : Hid (Acc W2 37 G g s a m c X) := hA.out.below L2.out
  have k1 : w1.heap[gr]? = some (.cells #[.int .i64 0, .int .i64 0] 34 (0, 0)) := by rw [← Hw1.out]; exact kr.out
  have k2 : Hid (W2.heap[gr]? = some (.cells #[.int .i64 0, .int .i64 0] 34 (0, 0))) := (B2.block gr (Array.getElem?_eq_some_iff.1 k1).1).trans k1
  have ks : Hid (W2.heap[gs]? = some (.cells #[.int .i64 s.cl, .int .i64 r] 3 (0, 0))) := by show _ = _; rw [← HW2.out, ← Hgs.out]; exact heap_alloc_new w1 _
  have Q2 : Cq W2 g gb s.cl r := ⟨A2.out.c6, (B2.cell (p := ⟨gb, 0, none⟩) (cell_lt Q1.b)).trans Q1.b⟩
  refine wp_region_till (S := fun L W => Cq W g gb s.cl r) (by kernel_rfl) (by rw [Hw1.out]; exact Q1) (fun hS => ?_)
  rw [Hw1.out] at hS ⊢
  clear c1 Q1 B2 k1 b0
  refine till_take (i := 0) (v := .pointer (some ⟨g, 0, none⟩)) rfl (by kernel_rfl) (by kernel_rfl) (by kernel_rfl) (fun _ _ _ h => h) (fun L w => Iff.rfl) (Or.inl ⟨by rfl, fun w => by go_simp⟩) hS (fun hSb => ?_)
  simp only [List.getElem_toArray, List.getElem_cons_zero, List.getElem_cons_succ, Act.put, List.setIfInBounds_toArray, List.set_cons_zero, List.set_cons_succ]
  clear hS
  refine till_take (i := 1) (v := .pointer (some ⟨g, 0, none⟩)) rfl (by kernel_rfl) (by kernel_rfl) (by kernel_rfl) (fun _ _ _ h => h) (fun L w => Iff.rfl) (Or.inl ⟨by rfl, fun w => by go_simp⟩) hSb (fun hS => ?_)
  simp only [List.getElem_toArray, List.getElem_cons_zero, List.getElem_cons_succ, Act.put, List.setIfInBounds_toArray, List.set_cons_zero, List.set_cons_succ]
  clear hSb
  refine till_take (i := 2) (v := .pointer (some ⟨g, 6, none⟩)) rfl (by kernel_rfl) (by kernel_rfl) (by kernel_rfl) (fun _ _ _ h => h) (fun L w => Iff.rfl) (Or.inl ⟨by rfl, fun w => by go_simp⟩) hS (fun hSb => ?_)
  simp only [List.getElem_toArray, List.getElem_cons_zero, List.getElem_cons_succ, Act.put, List.setIfInBounds_toArray, List.set_cons_zero, List.set_cons_succ]
  clear hS
  refine till_read (i := 3) (c := 6) (v := .int .i64 s.cl) (T := fun W => Cq W g gb s.cl r) rfl rfl (by kernel_rfl) (by kernel_rfl) (by kernel_rfl) (by kernel_rfl) (by kernel_rfl) (fun _ _ _ h => h) (fun L w => Iff.rfl) (fun L w h1 h2 => h2) (Or.inl ⟨by rfl, fun w h => by have q1 := h.c; go_simp⟩) hSb (fun hS => ?_)
  simp only [List.getElem_toArray, List.getElem_cons_zero, List.getElem_cons_succ, Act.put, List.setIfInBounds_toArray, List.set_cons_zero, List.set_cons_succ]
  clear hSb
  refine till_take (i := 4) (v := .pointer (some ⟨gb, 0, none⟩)) rfl (by kernel_rfl) (by kernel_rfl) (by kernel_rfl) (fun _ _ _ h => h) (fun L w => Iff.rfl) (Or.inl ⟨by rfl, fun w => by go_simp⟩) hS (fun hSb => ?_)
  simp only [List.getElem_toArray, List.getElem_cons_zero, List.getElem_cons_succ, Act.put, List.setIfInBounds_toArray, List.set_cons_zero, List.set_cons_succ]
  clear hS
  refine till_read (i := 5) (c := 6) (v := .int .i64 r) (T := fun W => Cq W g gb s.cl r) rfl rfl (by kernel_rfl) (by kernel_rfl) (by kernel_rfl) (by kernel_rfl) (by kernel_rfl) (fun _ _ _ h => h) (fun L w => Iff.rfl) (fun L w h1 h2 => h2) (Or.inl ⟨by rfl, fun w h => by have q1 := h.b; go_simp⟩) hSb (fun hS => ?_)
  simp only [List.getElem_toArray, List.getElem_cons_zero, List.getElem_cons_succ, Act.put, List.setIfInBounds_toArray, List.set_cons_zero, List.set_cons_succ]
  clear hSb
  refine till_take (i := 8) (v := .int .i64 0) rfl (by kernel_rfl) (by kernel_rfl) (by kernel_rfl) (fun _ _ _ h => h) (fun L w => Iff.rfl) (Or.inl ⟨by rfl, fun w => by go_simp⟩) hS (fun hSb => ?_)
  simp only [List.getElem_toArray, List.getElem_cons_zero, List.getElem_cons_succ, Act.put, List.setIfInBounds_toArray, List.set_cons_zero, List.set_cons_succ]
  clear hS
  refine till_one (i := 6) (by kernel_rfl) rfl (fun K hK => ?_)
  simp only [List.getElem_toArray, List.getElem_cons_zero, List.getElem_cons_succ]
  rw [if_pos (by rfl)]
  go_simp
  rw [HW2.out, Hgs.out]
  refine hK.out _ _ (Q2) (fun hS => ?_)
  clear hK K
  try simp only [List.getElem_toArray, List.getElem_cons_zero, List.getElem_cons_succ, Act.put, List.setIfInBounds_toArray, List.set_cons_zero, List.set_cons_succ]
  clear hSb
  refine till_one (i := 7) (by kernel_rfl) rfl (fun K hK => ?_)
  simp only [List.getElem_toArray, List.getElem_cons_zero, List.getElem_cons_succ]
  rw [if_pos (by rfl)]
  go_simp
  refine hK.out _ _ (hS) (fun hSb => ?_)
  clear hK K
  try simp only [List.getElem_toArray, List.getElem_cons_zero, List.getElem_cons_succ, Act.put, List.setIfInBounds_toArray, List.set_cons_zero, List.set_cons_succ]
  clear hS
  refine till_done (by kernel_rfl) ?_ _
  clear hSb
  have T0 : Hid (s.pR = clk_t s r 0) := by show _ = _; rfl
  go_wp2
  go_loopw [6, 22] (fun t6 t22 wr => ∃ k : Nat, k ≤ 2 ∧ t22 = .int .i64 k ∧ t6 = .int .i64 (clk_t s r k) ∧ wr = W2) (fun _ t22 _ => 2 - (intOf t22).toNat)
  case atStart => exact ⟨0, by omega, rfl, by rw [← T0.out], rfl⟩
  case round =>
    obtain ⟨k, hk, rfl, rfl, rfl⟩ := hrel
    have hp0 := hO.out.p0
    have hp1 := hO.out.p1
    have hc0 := hO.out.c0
    have hc1 := hO.out.c1
    have x0 : wr.cell? ⟨gs, 0, none⟩ = some (.int .i64 s.cl) := by simp [World.cell?, ks.out]
    have x1 : wr.cell? ⟨gs, 1, none⟩ = some (.int .i64 r) := by simp [World.cell?, ks.out]
    rcases (by omega : k = 0 ∨ k = 1 ∨ k = 2) with rfl | rfl | rfl
    · have e0 : clk_t s r 0 = s.pR := rfl
      rw [e0]
      by_cases h : s.cl > s.pR
      · have h2 : s.cl ≤ 1099511627776 := hc1
        have N1 : Hid (clk_t s r 1 = s.cl) := by show max s.pR s.cl = s.cl; omega
        clear hp0 hp1 hc0 hc1
        go_wp2
        go_roundw
        case rel => exact ⟨1, by omega, by go_num, by rw [N1.out], by first | rfl | trivial⟩
        case measure => simp [intOf]
      · have N1 : Hid (clk_t s r 1 = s.pR) := by show max s.pR s.cl = s.pR; omega
        clear hp0 hp1 hc0 hc1
        go_wp2
        go_roundw
        case rel => exact ⟨1, by omega, by go_num, by rw [N1.out], by first | rfl | trivial⟩
        case measure => simp [intOf]
    · obtain ⟨t1, Ht1⟩ : ∃ t1, Hid (clk_t s r 1 = t1) := ⟨_, rfl⟩
      have e1 : max s.pR s.cl = t1 := Ht1.out
      rw [Ht1.out]
      by_cases h : r > t1
      · by_cases h2 : r ≤ 1099511627776
        · have N1 : Hid (clk_t s r 2 = r) := by show clT s r = r; unfold clT; rw [if_pos ⟨by omega, h2⟩, e1]; omega
          clear hp0 hp1 hc0 hc1 e1
          go_wp2
          go_roundw
          case rel => exact ⟨2, by omega, by go_num, by rw [N1.out], by first | rfl | trivial⟩
          case measure => simp [intOf]
        · have N1 : Hid (clk_t s r 2 = t1) := by show clT s r = t1; unfold clT; rw [if_neg (fun h3 => h2 h3.2), e1]
          clear hp0 hp1 hc0 hc1 e1
          go_wp2
          go_roundw
          case rel => exact ⟨2, by omega, by go_num, by rw [N1.out], by first | rfl | trivial⟩
          case measure => simp [intOf]
      · have N1 : Hid (clk_t s r 2 = t1) := by
          show clT s r = t1
          unfold clT
          rw [e1]
          split <;> omega
        clear hp0 hp1 hc0 hc1 e1
        go_wp2
        go_roundw
        case rel => exact ⟨2, by omega, by go_num, by rw [N1.out], by first | rfl | trivial⟩
        case measure => simp [intOf]
    · obtain ⟨tp, Htp⟩ : ∃ tp, Hid (clT s r = tp) := ⟨_, rfl⟩
      have e2 : clk_t s r 2 = tp := Htp.out
      rw [e2]
      have tle : tp ≤ 1099511627776 := by rw [← Htp.out]; exact clT_le hO.out r
      have tge : 0 ≤ tp := by rw [← Htp.out]; exact Int.le_trans hp0 (clT_ge s r)
      have y0 : wr.cell? ⟨gr, 0, none⟩ = some (.int .i64 0) := by simp [World.cell?, k2.out]
      have y1 : wr.cell? ⟨gr, 1, none⟩ = some (.int .i64 0) := by simp [World.cell?, k2.out]
      have fz : ∀ i, wr.frozen? ⟨gr, i, none⟩ = false := fun i => by simp [World.frozen?, k2.out]
      have gne : g ≠ gr := by have := gg.out; have := lg.out; omega
      by_cases hf : tp = 1099511627776
      · have hk10 : clk s r = 10 := by unfold clk; rw [if_pos (by rw [Htp.out]; omega)]
        have CB : Hid (clB s r = (0, 0)) := by show _ = _; unfold clB; rw [hk10]; rfl
        have CS : Hid (clS s r = s) := by show _ = _; unfold clS; rw [hk10]; rfl
        have CK : Hid (clk s r = 10) := hk10
        clear hp0 hp1 hc0 hc1 e2 tle tge hk10 x0 x1
        subst hf
        go_wp2
        obtain ⟨V, HV⟩ : ∃ V, Hid ((wr.setCell ⟨gr, 0, none⟩ (.int .i64 0)).setCell ⟨gr, 1, none⟩ (.int .i64 0) = V) := ⟨_, rfl⟩
        have V0 : V.heap[gr]? = some (.cells #[.int .i64 0, .int .i64 0] 34 (0, 0)) := by rw [← HV.out, set_blk (set_blk k2.out 0 _) 1 _]; rfl
        have v0 : V.cell? ⟨gr, 0, none⟩ = some (.int .i64 0) := by simp [World.cell?, V0]
        have v1 : V.cell? ⟨gr, 1, none⟩ = some (.int .i64 0) := by simp [World.cell?, V0]
        have CV : Ch wr V (fun q => q = gr) := by rw [← HV.out]; exact (Ch.set _ gr 0 _).trans (Ch.set _ gr 1 _)
        have FIN : Hid (Acc V 37 G g s a m c X ∧ Ch w V (fun q => q = g)) := by
          have B : Below w.heap.size w V := L2.out.trans (CV.toBelow L2.out.size (fun k hk e => by have := Hgb.out; have := gg.out; omega))
          exact ⟨hA.out.below B, Ch.below B⟩
        rw [HV.out]
        refine bodyPost_ret (v := .tuple #[bal 0 0, .int .i64 10]) (by simp [results, Tryd.results29, go_sem, v0, v1]) rfl ⟨by rw [CB.out, CK.out]; rfl, by rw [CS.out]; exact FIN.out⟩
      · have hk0 : clk s r = 0 := by unfold clk; rw [if_neg (by rw [Htp.out]; omega)]
        have CB : Hid (clB s r = (tp + 1, s.node)) := by show _ = _; unfold clB; rw [hk0, Htp.out]; rfl
        have CS : Hid (clS s r = { s with cl := tp + 1 }) := by show _ = _; unfold clS; rw [hk0, Htp.out]; rfl
        have CK : Hid (clk s r = 0) := hk0
        have d6 := A2.out.c6
        have f6 := A2.out.fz
        obtain ⟨w3, Hw3⟩ : ∃ w3, Hid (wr.setCell ⟨g, 6, none⟩ (.int .i64 (tp + 1)) = w3) := ⟨_, rfl⟩
        have kg : w3.heap[g]? = some (.cells (accA { s with cl := tp + 1 } a m c) 37 (0, 0)) := by rw [← Hw3.out, set_blk A2.out.blk 6 _]; rfl
        have C3 : Ch wr w3 (fun q => q = g) := by rw [← Hw3.out]; exact Ch.set wr g 6 _
        have A3 : Acc w3 37 G g { s with cl := tp + 1 } a m c X := A2.out.put kg (A2.out.cms.ch C3 (fun q h1 _ e => by have := hA.out.lt; omega)) A2.out.z A2.out.e
        have n3 : w3.cell? ⟨g, 0, none⟩ = some (.int .i64 s.node) := A3.c0
        have kr3 : w3.heap[gr]? = some (.cells #[.int .i64 0, .int .i64 0] 34 (0, 0)) := (C3.block gr (Array.getElem?_eq_some_iff.1 k2.out).1 (Ne.symm gne)).trans k2.out
        have z0 : w3.cell? ⟨gr, 0, none⟩ = some (.int .i64 0) := by simp [World.cell?, kr3]
        have z1 : w3.cell? ⟨gr, 1, none⟩ = some (.int .i64 0) := by simp [World.cell?, kr3]
        have fz3 : ∀ i, w3.frozen? ⟨gr, i, none⟩ = false := fun i => by simp [World.frozen?, kr3]
        obtain ⟨V, HV⟩ : ∃ V, Hid ((w3.setCell ⟨gr, 0, none⟩ (.int .i64 (tp + 1))).setCell ⟨gr, 1, none⟩ (.int .i64 s.node) = V) := ⟨_, rfl⟩
        have V0 : V.heap[gr]? = some (.cells #[.int .i64 (tp + 1), .int .i64 s.node] 34 (0, 0)) := by rw [← HV.out, set_blk (set_blk kr3 0 _) 1 _]; rfl
        have v0 : V.cell? ⟨gr, 0, none⟩ = some (.int .i64 (tp + 1)) := by simp [World.cell?, V0]
        have v1 : V.cell? ⟨gr, 1, none⟩ = some (.int .i64 s.node) := by simp [World.cell?, V0]
        have CV : Ch w3 V (fun q => q = gr) := by rw [← HV.out]; exact (Ch.set _ gr 0 _).trans (Ch.set _ gr 1 _)
        have FIN : Hid (Acc V 37 G g { s with cl := tp + 1 } a m c X ∧ Ch w V (fun q => q = g)) := by
          have C4 : Ch w V (fun q => q = g) := ((Ch.below L2.out).trans C3).then CV (fun q _ h => h) (fun q hq e => by have := Hgb.out; have := gg.out; omega)
          exact ⟨⟨(CV.block g A3.glt gne).trans A3.blk, hA.out.cms.ch C4 (fun q h1 _ e => by have := hA.out.lt; omega), hA.out.z, hA.out.e, hA.out.lt⟩, C4⟩
        clear hp0 hp1 hc0 hc1 e2 hk0 x0 x1 kg C3 A3 kr3 V0 CV
        go_upto_region 11 with (fail)
        rw [Hw3.out]
        clear d6 f6 y0 y1 fz
        go_wp2
        rw [HV.out]
        refine bodyPost_ret (v := .tuple #[bal (tp + 1) s.node, .int .i64 0]) (by simp [results, Tryd.results29, go_sem, v0, v1]) rfl ⟨by rw [CB.out, CK.out]; rfl, by rw [CS.out]; exact FIN.out⟩
end Go.Proofs.YtdfnjcjpblkmcaaDoor
