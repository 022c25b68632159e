/- The program's Claim. -/
import Derived.Test.YtdfnjcjpblkmcaaDoorAj
namespace Go.Proofs.YtdfnjcjpblkmcaaDoor
open Go.ChangeShapes Go.WideShapes Go.ChangeAt Go.RowKit
set_option maxRecDepth 20000
set_option linter.unusedVariables false
set_option linter.unusedSimpArgs false
structure Gq (W : World) (gr : Nat) (E : Nat → Addr) : Prop where
  g : W.cell? ⟨2, 0, none⟩ = some (.iface 102 (.pointer (some (E 2))))
  x0 : ∃ v, W.cell? ⟨gr, 0, none⟩ = some v
  x1 : ∃ v, W.cell? ⟨gr, 1, none⟩ = some v
  f : ∀ i, W.frozen? ⟨gr, i, none⟩ = false
structure Hq (W : World) (g gr : Nat) (t n : Int) : Prop where
  c0 : W.cell? ⟨g, 0, none⟩ = some (.int .i64 n)
  c6 : W.cell? ⟨g, 6, none⟩ = some (.int .i64 t)
  x0 : ∃ v, W.cell? ⟨gr, 0, none⟩ = some v
  x1 : ∃ v, W.cell? ⟨gr, 1, none⟩ = some v
  f : ∀ i, W.frozen? ⟨gr, i, none⟩ = false
set_option maxHeartbeats 2000000 in
theorem claim_a {M : Nat} {E : Nat → Addr} {w : World} {G g : Nat} {s : As} {a : Option Addr} {m c : Nat} {X : List Cx} (hA : Hid (Acc w 84 G g s a m c X)) (hE : Hid (Sent w M E)) (hM : 3 ≤ M) (r n : Int) (h1 : 0 ≤ r) (h2 : r ≤ 1099511627776) (tp : Int) (htp : max (max s.pR s.cl) r = tp) (hf : 1099511627776 ≤ tp) :
    Calls Tryd.prog 17 #[.pointer (some ⟨g, 0, none⟩), bal r n] w fun e w' => e = .returned (.tuple #[bal 0 0, er (E 2)]) ∧ Hid (Acc w' 84 G g s a m c X ∧ Ch w w' (fun q => q = g)) := by
  unfold er
  obtain ⟨gb, Hgb⟩ : ∃ gb, Hid (w.heap.size = gb) := ⟨_, rfl⟩
  obtain ⟨gr, Hgr⟩ : ∃ gr, Hid (w.heap.size + 1 = gr) := ⟨_, rfl⟩
  have gg : Hid (gr = gb + 1) := by show _ = _; rw [← Hgr.out, ← Hgb.out]
  obtain ⟨w0, Hw0⟩ : ∃ w0, Hid ((w.alloc (.cells #[.int .i64 r, .int .i64 n] 34)).alloc (.cells #[.int .i64 0, .int .i64 0] 34) = w0) := ⟨_, rfl⟩
  have L0 : Hid (Below w.heap.size w w0) := by rw [← Hw0.out]; exact alloc2 w _ _
  have kr : Hid (w0.heap[gr]? = some (.cells #[.int .i64 0, .int .i64 0] 34 (0, 0))) := by show _ = _; rw [← Hw0.out, ← Hgr.out]; have h := heap_alloc_new (w.alloc (.cells #[.int .i64 r, .int .i64 n] 34)) (.cells #[.int .i64 0, .int .i64 0] 34); simpa using h
  have A0 : Hid (Acc w0 84 G g s a m c X) := hA.out.below L0.out
  have lg : Hid (g < gb) := by have := hA.out.glt; have := Hgb.out; show g < gb; omega
  have b0 : w0.cell? ⟨gb, 0, none⟩ = some (.int .i64 r) := by rw [← Hw0.out, ← Hgb.out]; simp
  have c1 : ∀ j, (w0.drewN j).cell? ⟨g, 1, none⟩ = some (.int .i64 s.pR) := fun j => A0.out.c1
  have c6 : ∀ j, (w0.drewN j).cell? ⟨g, 6, none⟩ = some (.int .i64 s.cl) := fun j => A0.out.c6
  obtain ⟨t1, Ht1⟩ : ∃ t1, Hid (max s.pR s.cl = t1) := ⟨_, rfl⟩
  have Ht2 : Hid (max t1 r = tp) := by show _ = _; rw [← Ht1.out]; exact htp
  clear htp
  have g1 : r ≥ 0 := h1
  go_enter Tryd.func17, Tryd.ntmps17
  go_upto_region 1 with (fail)
  rw [Hgr.out, Hw0.out, Hgb.out]
  go_quiet (fail)
  rw [Ht1.out]
  clear c1 c6
  obtain ⟨w1, Hw1⟩ : ∃ w1, Hid (w0.drewN nq = w1) := ⟨_, rfl⟩
  have b0' : w1.cell? ⟨gb, 0, none⟩ = some (.int .i64 r) := by rw [← Hw1.out]; exact b0
  have L1 : Hid (Below w.heap.size w w1) := by rw [← Hw1.out]; exact below_drewN L0.out nq
  have k1 : Hid (w1.heap[gr]? = some (.cells #[.int .i64 0, .int .i64 0] 34 (0, 0))) := by rw [← Hw1.out]; exact kr.out
  have A1 : Hid (Acc w1 84 G g s a m c X) := hA.out.below L1.out
  rw [Hw1.out]
  clear b0 kr A0 L0 Hw0 Hw1
  go_upto_region 4 with (fail)
  rw [Ht2.out]
  clear b0' g1 h1 h2 Ht2
  · skip
    have hf' : tp ≥ 1099511627776 := hf
    go_upto_region 5 with (fail)
    obtain ⟨wd, Hwd⟩ : ∃ wd, Hid (w1.drew = wd) := ⟨_, rfl⟩
    have Ld : Hid (Below w.heap.size w wd) := by rw [← Hwd.out]; exact L1.out.drew
    have kd : Hid (wd.heap[gr]? = some (.cells #[.int .i64 0, .int .i64 0] 34 (0, 0))) := by rw [← Hwd.out]; exact k1.out
    have Q0 : Gq wd gr E := ⟨(hE.out.below Ld.out).c 2 (by omega), by simp [World.cell?, kd.out], by simp [World.cell?, kd.out], fun i => by simp [World.frozen?, kd.out]⟩
    obtain ⟨V, HV⟩ : ∃ V, Hid ((wd.setCell ⟨gr, 0, none⟩ (.int .i64 0)).setCell ⟨gr, 1, none⟩ (.int .i64 0) = V) := ⟨_, rfl⟩
    have V0 : V.heap[gr]? = some (.cells #[.int .i64 0, .int .i64 0] 34 (0, 0)) := by rw [← HV.out, set_blk (set_blk kd.out 0 _) 1 _]; rfl
    have CV : Ch wd V (fun q => q = gr) := by rw [← HV.out]; exact (Ch.set _ gr 0 _).trans (Ch.set _ gr 1 _)
    have grw : w.heap.size ≤ gr := by have := Hgb.out; have := gg.out; omega
    have QV : Gq ((wd.setCell ⟨gr, 0, none⟩ (.int .i64 0)).setCell ⟨gr, 1, none⟩ (.int .i64 0)) gr E := by
      rw [HV.out]
      exact ⟨(Ch.cell CV (p := ⟨2, 0, none⟩) (cell_lt Q0.g) (fun e => by have h1 := cell_lt (hE.out.c 2 (by omega)); have e2 : 2 = gr := e; omega)).trans Q0.g, by simp [World.cell?, V0], by simp [World.cell?, V0], fun i => by simp [World.frozen?, V0]⟩
    refine wp_region_till (S := fun L W => Gq W gr E) (by kernel_rfl) (by rw [Hwd.out]; exact Q0) (fun hS => ?_)
    rw [Hwd.out] at hS ⊢
    refine till_take (i := 0) (v := bal 0 0) rfl (by kernel_rfl) (by kernel_rfl) (by kernel_rfl) (fun _ _ _ h => h) (fun L w => Iff.rfl) (Or.inl ⟨by rfl, fun w => by go_simp⟩) hS (fun hSb => ?_)
    simp only [List.getElem_toArray, List.getElem_cons_zero, List.getElem_cons_succ, Act.put, List.setIfInBounds_toArray, List.set_cons_zero, List.set_cons_succ]
    clear hS
    refine till_read (i := 1) (c := 3) (v := .iface 102 (.pointer (some (E 2)))) (T := fun W => Gq W gr E) rfl rfl (by kernel_rfl) (by kernel_rfl) (by kernel_rfl) (by kernel_rfl) (by kernel_rfl) (fun _ _ _ h => h) (fun L w => Iff.rfl) (fun L w h1 h2 => h2) (Or.inl ⟨by rfl, fun w h => by have q1 := h.g; go_simp⟩) hSb (fun hS => ?_)
    simp only [List.getElem_toArray, List.getElem_cons_zero, List.getElem_cons_succ, Act.put, List.setIfInBounds_toArray, List.set_cons_zero, List.set_cons_succ]
    clear hSb
    refine till_one (i := 2) (by kernel_rfl) rfl (fun K hK => ?_)
    simp only [List.getElem_toArray, List.getElem_cons_zero, List.getElem_cons_succ]
    rw [if_pos (by rfl)]
    obtain ⟨u0, x0⟩ := hS.x0
    obtain ⟨u1, x1⟩ := hS.x1
    have f0 := hS.f
    go_simp
    refine hK.out _ _ (QV) (fun hSb => ?_)
    clear hK K
    try simp only [List.getElem_toArray, List.getElem_cons_zero, List.getElem_cons_succ, Act.put, List.setIfInBounds_toArray, List.set_cons_zero, List.set_cons_succ]
    clear hS
    refine till_one (i := 3) (by kernel_rfl) rfl (fun K hK => ?_)
    simp only [List.getElem_toArray, List.getElem_cons_zero, List.getElem_cons_succ]
    rw [if_pos (by rfl)]
    go_simp
    refine hK.out _ _ (hSb) (fun hS => ?_)
    clear hK K
    try simp only [List.getElem_toArray, List.getElem_cons_zero, List.getElem_cons_succ, Act.put, List.setIfInBounds_toArray, List.set_cons_zero, List.set_cons_succ]
    clear hSb
    refine till_done (by kernel_rfl) ?_ _
    clear hS
    have v0 : V.cell? ⟨gr, 0, none⟩ = some (.int .i64 0) := by simp [World.cell?, V0]
    have v1 : V.cell? ⟨gr, 1, none⟩ = some (.int .i64 0) := by simp [World.cell?, V0]
    have FIN : Hid (Acc V 84 G g s a m c X ∧ Ch w V (fun q => q = g)) := by
      have B : Below w.heap.size w V := Ld.out.trans (CV.toBelow Ld.out.size (fun k hk e => by omega))
      exact ⟨hA.out.below B, Ch.below B⟩
    rw [HV.out]
    clear CV V0 Q0 QV HV kd k1
    go_wp2
    refine bodyPost_ret (v := .tuple #[bal 0 0, .iface 102 (.pointer (some (E 2)))]) (by simp [results, Tryd.results17, go_sem, v0, v1]) rfl ⟨rfl, FIN.out⟩
set_option maxHeartbeats 2000000 in
theorem claim_b {M : Nat} {E : Nat → Addr} {w : World} {G g : Nat} {s : As} {a : Option Addr} {m c : Nat} {X : List Cx} (hA : Hid (Acc w 84 G g s a m c X)) (hE : Hid (Sent w M E)) (hM : 3 ≤ M) (r n : Int) (h1 : 0 ≤ r) (h2 : r ≤ 1099511627776) (tp : Int) (htp : max (max s.pR s.cl) r = tp) (hf : ¬ (1099511627776 ≤ tp)) (hp : 0 ≤ tp) :
    Calls Tryd.prog 17 #[.pointer (some ⟨g, 0, none⟩), bal r n] w fun e w' => e = .returned (.tuple #[bal (tp + 1) s.node, .nilIface]) ∧ Hid (Acc w' 84 G g { s with cl := tp + 1 } a m c X ∧ Ch w w' (fun q => q = g)) := by
  obtain ⟨gb, Hgb⟩ : ∃ gb, Hid (w.heap.size = gb) := ⟨_, rfl⟩
  obtain ⟨gr, Hgr⟩ : ∃ gr, Hid (w.heap.size + 1 = gr) := ⟨_, rfl⟩
  have gg : Hid (gr = gb + 1) := by show _ = _; rw [← Hgr.out, ← Hgb.out]
  obtain ⟨w0, Hw0⟩ : ∃ w0, Hid ((w.alloc (.cells #[.int .i64 r, .int .i64 n] 34)).alloc (.cells #[.int .i64 0, .int .i64 0] 34) = w0) := ⟨_, rfl⟩
  have L0 : Hid (Below w.heap.size w w0) := by rw [← Hw0.out]; exact alloc2 w _ _
  have kr : Hid (w0.heap[gr]? = some (.cells #[.int .i64 0, .int .i64 0] 34 (0, 0))) := by show _ = _; rw [← Hw0.out, ← Hgr.out]; have h := heap_alloc_new (w.alloc (.cells #[.int .i64 r, .int .i64 n] 34)) (.cells #[.int .i64 0, .int .i64 0] 34); simpa using h
  have A0 : Hid (Acc w0 84 G g s a m c X) := hA.out.below L0.out
  have lg : Hid (g < gb) := by have := hA.out.glt; have := Hgb.out; show g < gb; omega
  have b0 : w0.cell? ⟨gb, 0, none⟩ = some (.int .i64 r) := by rw [← Hw0.out, ← Hgb.out]; simp
  have c1 : ∀ j, (w0.drewN j).cell? ⟨g, 1, none⟩ = some (.int .i64 s.pR) := fun j => A0.out.c1
  have c6 : ∀ j, (w0.drewN j).cell? ⟨g, 6, none⟩ = some (.int .i64 s.cl) := fun j => A0.out.c6
  obtain ⟨t1, Ht1⟩ : ∃ t1, Hid (max s.pR s.cl = t1) := ⟨_, rfl⟩
  have Ht2 : Hid (max t1 r = tp) := by show _ = _; rw [← Ht1.out]; exact htp
  clear htp
  have g1 : r ≥ 0 := h1
  go_enter Tryd.func17, Tryd.ntmps17
  go_upto_region 1 with (fail)
  rw [Hgr.out, Hw0.out, Hgb.out]
  go_quiet (fail)
  rw [Ht1.out]
  clear c1 c6
  obtain ⟨w1, Hw1⟩ : ∃ w1, Hid (w0.drewN nq = w1) := ⟨_, rfl⟩
  have b0' : w1.cell? ⟨gb, 0, none⟩ = some (.int .i64 r) := by rw [← Hw1.out]; exact b0
  have L1 : Hid (Below w.heap.size w w1) := by rw [← Hw1.out]; exact below_drewN L0.out nq
  have k1 : Hid (w1.heap[gr]? = some (.cells #[.int .i64 0, .int .i64 0] 34 (0, 0))) := by rw [← Hw1.out]; exact kr.out
  have A1 : Hid (Acc w1 84 G g s a m c X) := hA.out.below L1.out
  rw [Hw1.out]
  clear b0 kr A0 L0 Hw0 Hw1
  go_upto_region 4 with (fail)
  rw [Ht2.out]
  clear b0' g1 h1 h2 Ht2
  · skip
    have hf' : ¬ (tp ≥ 1099511627776) := hf
    have c6 := A1.out.c6
    have f6 := A1.out.fz 6
    go_upto_region 7 with (fail)
    obtain ⟨w2, Hw2⟩ : ∃ w2, Hid (w1.setCell ⟨g, 6, none⟩ (.int .i64 (tp + 1)) = w2) := ⟨_, rfl⟩
    rw [Hw2.out]
    have kg : w2.heap[g]? = some (.cells (accA { s with cl := tp + 1 } a m c) 84 (0, 0)) := by rw [← Hw2.out, set_blk A1.out.blk 6 _]; rfl
    have C2 : Ch w1 w2 (fun q => q = g) := by rw [← Hw2.out]; exact Ch.set w1 g 6 _
    have A2 : Hid (Acc w2 84 G g { s with cl := tp + 1 } a m c X) := A1.out.put kg (A1.out.cms.ch C2 (fun q h1 _ e => by have := hA.out.lt; omega)) A1.out.z A1.out.e
    obtain ⟨wd, Hwd⟩ : ∃ wd, Hid (w2.drew = wd) := ⟨_, rfl⟩
    have kd : Hid (wd.heap[gr]? = some (.cells #[.int .i64 0, .int .i64 0] 34 (0, 0))) := by rw [← Hwd.out]; exact (C2.block gr (Array.getElem?_eq_some_iff.1 k1.out).1 (by have := gg.out; have := lg.out; omega)).trans k1.out
    have Ad : Acc wd 84 G g { s with cl := tp + 1 } a m c X := by rw [← Hwd.out]; exact A2.out.below (Below.refl _ _).drew
    have Q0 : Hq wd g gr (tp + 1) s.node := ⟨Ad.c0, Ad.c6, by simp [World.cell?, kd.out], by simp [World.cell?, kd.out], fun i => by simp [World.frozen?, kd.out]⟩
    obtain ⟨V, HV⟩ : ∃ V, Hid ((wd.setCell ⟨gr, 0, none⟩ (.int .i64 (tp + 1))).setCell ⟨gr, 1, none⟩ (.int .i64 s.node) = V) := ⟨_, rfl⟩
    have V0 : V.heap[gr]? = some (.cells #[.int .i64 (tp + 1), .int .i64 s.node] 34 (0, 0)) := by rw [← HV.out, set_blk (set_blk kd.out 0 _) 1 _]; rfl
    have CV : Ch wd V (fun q => q = gr) := by rw [← HV.out]; exact (Ch.set _ gr 0 _).trans (Ch.set _ gr 1 _)
    have grw : w.heap.size ≤ gr := by have := Hgb.out; have := gg.out; omega
    have gne : g ≠ gr := by have := gg.out; have := lg.out; omega
    have QV : Hq ((wd.setCell ⟨gr, 0, none⟩ (.int .i64 (tp + 1))).setCell ⟨gr, 1, none⟩ (.int .i64 s.node)) g gr (tp + 1) s.node := by
      rw [HV.out]
      exact ⟨(Ch.cell CV (p := ⟨g, 0, none⟩) (cell_lt Q0.c0) gne).trans Q0.c0, (Ch.cell CV (p := ⟨g, 6, none⟩) (cell_lt Q0.c6) gne).trans Q0.c6, by simp [World.cell?, V0], by simp [World.cell?, V0], fun i => by simp [World.frozen?, V0]⟩
    clear c6 f6 kg
    refine wp_region_till (S := fun L W => Hq W g gr (tp + 1) s.node) (by kernel_rfl) (by rw [Hwd.out]; exact Q0) (fun hS => ?_)
    rw [Hwd.out] at hS ⊢
    refine till_take (i := 0) (v := .pointer (some ⟨g, 0, none⟩)) rfl (by kernel_rfl) (by kernel_rfl) (by kernel_rfl) (fun _ _ _ h => h) (fun L w => Iff.rfl) (Or.inl ⟨by rfl, fun w => by go_simp⟩) hS (fun hSb => ?_)
    simp only [List.getElem_toArray, List.getElem_cons_zero, List.getElem_cons_succ, Act.put, List.setIfInBounds_toArray, List.set_cons_zero, List.set_cons_succ]
    clear hS
    refine till_take (i := 1) (v := .pointer (some ⟨g, 0, none⟩)) rfl (by kernel_rfl) (by kernel_rfl) (by kernel_rfl) (fun _ _ _ h => h) (fun L w => Iff.rfl) (Or.inl ⟨by rfl, fun w => by go_simp⟩) hSb (fun hS => ?_)
    simp only [List.getElem_toArray, List.getElem_cons_zero, List.getElem_cons_succ, Act.put, List.setIfInBounds_toArray, List.set_cons_zero, List.set_cons_succ]
    clear hSb
    refine till_take (i := 2) (v := .pointer (some ⟨g, 6, none⟩)) rfl (by kernel_rfl) (by kernel_rfl) (by kernel_rfl) (fun _ _ _ h => h) (fun L w => Iff.rfl) (Or.inl ⟨by rfl, fun w => by go_simp⟩) hS (fun hSb => ?_)
    simp only [List.getElem_toArray, List.getElem_cons_zero, List.getElem_cons_succ, Act.put, List.setIfInBounds_toArray, List.set_cons_zero, List.set_cons_succ]
    clear hS
    refine till_read (i := 3) (c := 8) (v := .int .i64 (tp + 1)) (T := fun W => Hq W g gr (tp + 1) s.node) rfl rfl (by kernel_rfl) (by kernel_rfl) (by kernel_rfl) (by kernel_rfl) (by kernel_rfl) (fun _ _ _ h => h) (fun L w => Iff.rfl) (fun L w h1 h2 => h2) (Or.inl ⟨by rfl, fun w h => by have q1 := h.c6; go_simp⟩) hSb (fun hS => ?_)
    simp only [List.getElem_toArray, List.getElem_cons_zero, List.getElem_cons_succ, Act.put, List.setIfInBounds_toArray, List.set_cons_zero, List.set_cons_succ]
    clear hSb
    refine till_take (i := 4) (v := .pointer (some ⟨g, 0, none⟩)) rfl (by kernel_rfl) (by kernel_rfl) (by kernel_rfl) (fun _ _ _ h => h) (fun L w => Iff.rfl) (Or.inl ⟨by rfl, fun w => by go_simp⟩) hS (fun hSb => ?_)
    simp only [List.getElem_toArray, List.getElem_cons_zero, List.getElem_cons_succ, Act.put, List.setIfInBounds_toArray, List.set_cons_zero, List.set_cons_succ]
    clear hS
    refine till_take (i := 5) (v := .pointer (some ⟨g, 0, none⟩)) rfl (by kernel_rfl) (by kernel_rfl) (by kernel_rfl) (fun _ _ _ h => h) (fun L w => Iff.rfl) (Or.inl ⟨by rfl, fun w => by go_simp⟩) hSb (fun hS => ?_)
    simp only [List.getElem_toArray, List.getElem_cons_zero, List.getElem_cons_succ, Act.put, List.setIfInBounds_toArray, List.set_cons_zero, List.set_cons_succ]
    clear hSb
    refine till_take (i := 6) (v := .pointer (some ⟨g, 0, none⟩)) rfl (by kernel_rfl) (by kernel_rfl) (by kernel_rfl) (fun _ _ _ h => h) (fun L w => Iff.rfl) (Or.inl ⟨by rfl, fun w => by go_simp⟩) hS (fun hSb => ?_)
    simp only [List.getElem_toArray, List.getElem_cons_zero, List.getElem_cons_succ, Act.put, List.setIfInBounds_toArray, List.set_cons_zero, List.set_cons_succ]
    clear hS
    refine till_read (i := 7) (c := 8) (v := .int .i64 s.node) (T := fun W => Hq W g gr (tp + 1) s.node) rfl rfl (by kernel_rfl) (by kernel_rfl) (by kernel_rfl) (by kernel_rfl) (by kernel_rfl) (fun _ _ _ h => h) (fun L w => Iff.rfl) (fun L w h1 h2 => h2) (Or.inl ⟨by rfl, fun w h => by have q1 := h.c0; go_simp⟩) hSb (fun hS => ?_)
    simp only [List.getElem_toArray, List.getElem_cons_zero, List.getElem_cons_succ, Act.put, List.setIfInBounds_toArray, List.set_cons_zero, List.set_cons_succ]
    clear hSb
    refine till_take (i := 8) (v := bal (tp + 1) s.node) rfl (by kernel_rfl) (by kernel_rfl) (by kernel_rfl) (fun _ _ _ h => h) (fun L w => Iff.rfl) (Or.inl ⟨by rfl, fun w => by go_simp⟩) hS (fun hSb => ?_)
    simp only [List.getElem_toArray, List.getElem_cons_zero, List.getElem_cons_succ, Act.put, List.setIfInBounds_toArray, List.set_cons_zero, List.set_cons_succ]
    clear hS
    refine till_one (i := 9) (by kernel_rfl) rfl (fun K hK => ?_)
    simp only [List.getElem_toArray, List.getElem_cons_zero, List.getElem_cons_succ]
    rw [if_pos (by rfl)]
    obtain ⟨u0, x0⟩ := hSb.x0
    obtain ⟨u1, x1⟩ := hSb.x1
    have f0 := hSb.f
    go_simp
    refine hK.out _ _ (QV) (fun hS => ?_)
    clear hK K
    try simp only [List.getElem_toArray, List.getElem_cons_zero, List.getElem_cons_succ, Act.put, List.setIfInBounds_toArray, List.set_cons_zero, List.set_cons_succ]
    clear hSb
    refine till_one (i := 10) (by kernel_rfl) rfl (fun K hK => ?_)
    simp only [List.getElem_toArray, List.getElem_cons_zero, List.getElem_cons_succ]
    rw [if_pos (by rfl)]
    go_simp
    refine hK.out _ _ (hS) (fun hSb => ?_)
    clear hK K
    try simp only [List.getElem_toArray, List.getElem_cons_zero, List.getElem_cons_succ, Act.put, List.setIfInBounds_toArray, List.set_cons_zero, List.set_cons_succ]
    clear hS
    refine till_done (by kernel_rfl) ?_ _
    clear hSb
    have v0 : V.cell? ⟨gr, 0, none⟩ = some (.int .i64 (tp + 1)) := by simp [World.cell?, V0]
    have v1 : V.cell? ⟨gr, 1, none⟩ = some (.int .i64 s.node) := by simp [World.cell?, V0]
    have FIN : Hid (Acc V 84 G g { s with cl := tp + 1 } a m c X ∧ Ch w V (fun q => q = g)) := by
      have C3 : Ch w wd (fun q => q = g) := by rw [← Hwd.out]; exact ((Ch.below L1.out).trans C2).trans (Ch.drew w2 _)
      have C4 : Ch w V (fun q => q = g) := C3.then CV (fun q _ h => h) (fun q hq e => by omega)
      exact ⟨⟨(CV.block g Ad.glt gne).trans Ad.blk, hA.out.cms.ch C4 (fun q h1 _ e => by have := hA.out.lt; omega), hA.out.z, hA.out.e, hA.out.lt⟩, C4⟩
    rw [HV.out]
    clear CV V0 Q0 QV HV kd k1 C2
    go_wp2
    refine bodyPost_ret (v := .tuple #[bal (tp + 1) s.node, .nilIface]) (by simp [results, Tryd.results17, go_sem, v0, v1]) rfl ⟨rfl, FIN.out⟩
set_option maxHeartbeats 2000000 in
theorem claim_c {M : Nat} {E : Nat → Addr} {w : World} {G g : Nat} {s : As} {a : Option Addr} {m c : Nat} {X : List Cx} (hA : Hid (Acc w 84 G g s a m c X)) (hE : Hid (Sent w M E)) (hM : 3 ≤ M) (r n : Int) (h1 : ¬ (0 ≤ r ∧ r ≤ 1099511627776)) (tp : Int) (htp : max s.pR s.cl = tp) (hf : 1099511627776 ≤ tp) :
    Calls Tryd.prog 17 #[.pointer (some ⟨g, 0, none⟩), bal r n] w fun e w' => e = .returned (.tuple #[bal 0 0, er (E 2)]) ∧ Hid (Acc w' 84 G g s a m c X ∧ Ch w w' (fun q => q = g)) := by
  unfold er
  obtain ⟨gb, Hgb⟩ : ∃ gb, Hid (w.heap.size = gb) := ⟨_, rfl⟩
  obtain ⟨gr, Hgr⟩ : ∃ gr, Hid (w.heap.size + 1 = gr) := ⟨_, rfl⟩
  have gg : Hid (gr = gb + 1) := by show _ = _; rw [← Hgr.out, ← Hgb.out]
  obtain ⟨w0, Hw0⟩ : ∃ w0, Hid ((w.alloc (.cells #[.int .i64 r, .int .i64 n] 34)).alloc (.cells #[.int .i64 0, .int .i64 0] 34) = w0) := ⟨_, rfl⟩
  have L0 : Hid (Below w.heap.size w w0) := by rw [← Hw0.out]; exact alloc2 w _ _
  have kr : Hid (w0.heap[gr]? = some (.cells #[.int .i64 0, .int .i64 0] 34 (0, 0))) := by show _ = _; rw [← Hw0.out, ← Hgr.out]; have h := heap_alloc_new (w.alloc (.cells #[.int .i64 r, .int .i64 n] 34)) (.cells #[.int .i64 0, .int .i64 0] 34); simpa using h
  have A0 : Hid (Acc w0 84 G g s a m c X) := hA.out.below L0.out
  have lg : Hid (g < gb) := by have := hA.out.glt; have := Hgb.out; show g < gb; omega
  have b0 : w0.cell? ⟨gb, 0, none⟩ = some (.int .i64 r) := by rw [← Hw0.out, ← Hgb.out]; simp
  have c1 : ∀ j, (w0.drewN j).cell? ⟨g, 1, none⟩ = some (.int .i64 s.pR) := fun j => A0.out.c1
  have c6 : ∀ j, (w0.drewN j).cell? ⟨g, 6, none⟩ = some (.int .i64 s.cl) := fun j => A0.out.c6
  obtain ⟨t1, Ht1⟩ : ∃ t1, Hid (max s.pR s.cl = t1) := ⟨_, rfl⟩
  have Ht2 : Hid (t1 = tp) := by show _ = _; rw [← Ht1.out]; exact htp
  clear htp
  go_enter Tryd.func17, Tryd.ntmps17
  go_upto_region 1 with (fail)
  rw [Hgr.out, Hw0.out, Hgb.out]
  go_quiet (fail)
  rw [Ht1.out]
  clear c1 c6
  obtain ⟨w1, Hw1⟩ : ∃ w1, Hid (w0.drewN nq = w1) := ⟨_, rfl⟩
  have b0' : w1.cell? ⟨gb, 0, none⟩ = some (.int .i64 r) := by rw [← Hw1.out]; exact b0
  have L1 : Hid (Below w.heap.size w w1) := by rw [← Hw1.out]; exact below_drewN L0.out nq
  have k1 : Hid (w1.heap[gr]? = some (.cells #[.int .i64 0, .int .i64 0] 34 (0, 0))) := by rw [← Hw1.out]; exact kr.out
  have A1 : Hid (Acc w1 84 G g s a m c X) := hA.out.below L1.out
  rw [Hw1.out]
  clear b0 kr A0 L0 Hw0 Hw1
  by_cases h3 : 0 ≤ r
  · have h4 : ¬ (r ≤ 1099511627776) := fun h => h1 ⟨h3, h⟩
    clear h1
    go_upto_region 4 with (fail)
    rw [Ht2.out]
    clear h3 h4
    have hf' : tp ≥ 1099511627776 := hf
    go_upto_region 5 with (fail)
    obtain ⟨wd, Hwd⟩ : ∃ wd, Hid (w1.drew = wd) := ⟨_, rfl⟩
    have Ld : Hid (Below w.heap.size w wd) := by rw [← Hwd.out]; exact L1.out.drew
    have kd : Hid (wd.heap[gr]? = some (.cells #[.int .i64 0, .int .i64 0] 34 (0, 0))) := by rw [← Hwd.out]; exact k1.out
    have Q0 : Gq wd gr E := ⟨(hE.out.below Ld.out).c 2 (by omega), by simp [World.cell?, kd.out], by simp [World.cell?, kd.out], fun i => by simp [World.frozen?, kd.out]⟩
    obtain ⟨V, HV⟩ : ∃ V, Hid ((wd.setCell ⟨gr, 0, none⟩ (.int .i64 0)).setCell ⟨gr, 1, none⟩ (.int .i64 0) = V) := ⟨_, rfl⟩
    have V0 : V.heap[gr]? = some (.cells #[.int .i64 0, .int .i64 0] 34 (0, 0)) := by rw [← HV.out, set_blk (set_blk kd.out 0 _) 1 _]; rfl
    have CV : Ch wd V (fun q => q = gr) := by rw [← HV.out]; exact (Ch.set _ gr 0 _).trans (Ch.set _ gr 1 _)
    have grw : w.heap.size ≤ gr := by have := Hgb.out; have := gg.out; omega
    have QV : Gq ((wd.setCell ⟨gr, 0, none⟩ (.int .i64 0)).setCell ⟨gr, 1, none⟩ (.int .i64 0)) gr E := by
      rw [HV.out]
      exact ⟨(Ch.cell CV (p := ⟨2, 0, none⟩) (cell_lt Q0.g) (fun e => by have h1 := cell_lt (hE.out.c 2 (by omega)); have e2 : 2 = gr := e; omega)).trans Q0.g, by simp [World.cell?, V0], by simp [World.cell?, V0], fun i => by simp [World.frozen?, V0]⟩
    refine wp_region_till (S := fun L W => Gq W gr E) (by kernel_rfl) (by rw [Hwd.out]; exact Q0) (fun hS => ?_)
    rw [Hwd.out] at hS ⊢
    refine till_take (i := 0) (v := bal 0 0) rfl (by kernel_rfl) (by kernel_rfl) (by kernel_rfl) (fun _ _ _ h => h) (fun L w => Iff.rfl) (Or.inl ⟨by rfl, fun w => by go_simp⟩) hS (fun hSb => ?_)
    simp only [List.getElem_toArray, List.getElem_cons_zero, List.getElem_cons_succ, Act.put, List.setIfInBounds_toArray, List.set_cons_zero, List.set_cons_succ]
    clear hS
    refine till_read (i := 1) (c := 3) (v := .iface 102 (.pointer (some (E 2)))) (T := fun W => Gq W gr E) rfl rfl (by kernel_rfl) (by kernel_rfl) (by kernel_rfl) (by kernel_rfl) (by kernel_rfl) (fun _ _ _ h => h) (fun L w => Iff.rfl) (fun L w h1 h2 => h2) (Or.inl ⟨by rfl, fun w h => by have q1 := h.g; go_simp⟩) hSb (fun hS => ?_)
    simp only [List.getElem_toArray, List.getElem_cons_zero, List.getElem_cons_succ, Act.put, List.setIfInBounds_toArray, List.set_cons_zero, List.set_cons_succ]
    clear hSb
    refine till_one (i := 2) (by kernel_rfl) rfl (fun K hK => ?_)
    simp only [List.getElem_toArray, List.getElem_cons_zero, List.getElem_cons_succ]
    rw [if_pos (by rfl)]
    obtain ⟨u0, x0⟩ := hS.x0
    obtain ⟨u1, x1⟩ := hS.x1
    have f0 := hS.f
    go_simp
    refine hK.out _ _ (QV) (fun hSb => ?_)
    clear hK K
    try simp only [List.getElem_toArray, List.getElem_cons_zero, List.getElem_cons_succ, Act.put, List.setIfInBounds_toArray, List.set_cons_zero, List.set_cons_succ]
    clear hS
    refine till_one (i := 3) (by kernel_rfl) rfl (fun K hK => ?_)
    simp only [List.getElem_toArray, List.getElem_cons_zero, List.getElem_cons_succ]
    rw [if_pos (by rfl)]
    go_simp
    refine hK.out _ _ (hSb) (fun hS => ?_)
    clear hK K
    try simp only [List.getElem_toArray, List.getElem_cons_zero, List.getElem_cons_succ, Act.put, List.setIfInBounds_toArray, List.set_cons_zero, List.set_cons_succ]
    clear hSb
    refine till_done (by kernel_rfl) ?_ _
    clear hS
    have v0 : V.cell? ⟨gr, 0, none⟩ = some (.int .i64 0) := by simp [World.cell?, V0]
    have v1 : V.cell? ⟨gr, 1, none⟩ = some (.int .i64 0) := by simp [World.cell?, V0]
    have FIN : Hid (Acc V 84 G g s a m c X ∧ Ch w V (fun q => q = g)) := by
      have B : Below w.heap.size w V := Ld.out.trans (CV.toBelow Ld.out.size (fun k hk e => by omega))
      exact ⟨hA.out.below B, Ch.below B⟩
    rw [HV.out]
    clear CV V0 Q0 QV HV kd k1
    go_wp2
    refine bodyPost_ret (v := .tuple #[bal 0 0, .iface 102 (.pointer (some (E 2)))]) (by simp [results, Tryd.results17, go_sem, v0, v1]) rfl ⟨rfl, FIN.out⟩
  · clear h1
    go_upto_region 4 with (fail)
    rw [Ht2.out]
    clear h3
    have hf' : tp ≥ 1099511627776 := hf
    go_upto_region 5 with (fail)
    obtain ⟨wd, Hwd⟩ : ∃ wd, Hid (w1.drew = wd) := ⟨_, rfl⟩
    have Ld : Hid (Below w.heap.size w wd) := by rw [← Hwd.out]; exact L1.out.drew
    have kd : Hid (wd.heap[gr]? = some (.cells #[.int .i64 0, .int .i64 0] 34 (0, 0))) := by rw [← Hwd.out]; exact k1.out
    have Q0 : Gq wd gr E := ⟨(hE.out.below Ld.out).c 2 (by omega), by simp [World.cell?, kd.out], by simp [World.cell?, kd.out], fun i => by simp [World.frozen?, kd.out]⟩
    obtain ⟨V, HV⟩ : ∃ V, Hid ((wd.setCell ⟨gr, 0, none⟩ (.int .i64 0)).setCell ⟨gr, 1, none⟩ (.int .i64 0) = V) := ⟨_, rfl⟩
    have V0 : V.heap[gr]? = some (.cells #[.int .i64 0, .int .i64 0] 34 (0, 0)) := by rw [← HV.out, set_blk (set_blk kd.out 0 _) 1 _]; rfl
    have CV : Ch wd V (fun q => q = gr) := by rw [← HV.out]; exact (Ch.set _ gr 0 _).trans (Ch.set _ gr 1 _)
    have grw : w.heap.size ≤ gr := by have := Hgb.out; have := gg.out; omega
    have QV : Gq ((wd.setCell ⟨gr, 0, none⟩ (.int .i64 0)).setCell ⟨gr, 1, none⟩ (.int .i64 0)) gr E := by
      rw [HV.out]
      exact ⟨(Ch.cell CV (p := ⟨2, 0, none⟩) (cell_lt Q0.g) (fun e => by have h1 := cell_lt (hE.out.c 2 (by omega)); have e2 : 2 = gr := e; omega)).trans Q0.g, by simp [World.cell?, V0], by simp [World.cell?, V0], fun i => by simp [World.frozen?, V0]⟩
    refine wp_region_till (S := fun L W => Gq W gr E) (by kernel_rfl) (by rw [Hwd.out]; exact Q0) (fun hS => ?_)
    rw [Hwd.out] at hS ⊢
    refine till_take (i := 0) (v := bal 0 0) rfl (by kernel_rfl) (by kernel_rfl) (by kernel_rfl) (fun _ _ _ h => h) (fun L w => Iff.rfl) (Or.inl ⟨by rfl, fun w => by go_simp⟩) hS (fun hSb => ?_)
    simp only [List.getElem_toArray, List.getElem_cons_zero, List.getElem_cons_succ, Act.put, List.setIfInBounds_toArray, List.set_cons_zero, List.set_cons_succ]
    clear hS
    refine till_read (i := 1) (c := 3) (v := .iface 102 (.pointer (some (E 2)))) (T := fun W => Gq W gr E) rfl rfl (by kernel_rfl) (by kernel_rfl) (by kernel_rfl) (by kernel_rfl) (by kernel_rfl) (fun _ _ _ h => h) (fun L w => Iff.rfl) (fun L w h1 h2 => h2) (Or.inl ⟨by rfl, fun w h => by have q1 := h.g; go_simp⟩) hSb (fun hS => ?_)
    simp only [List.getElem_toArray, List.getElem_cons_zero, List.getElem_cons_succ, Act.put, List.setIfInBounds_toArray, List.set_cons_zero, List.set_cons_succ]
    clear hSb
    refine till_one (i := 2) (by kernel_rfl) rfl (fun K hK => ?_)
    simp only [List.getElem_toArray, List.getElem_cons_zero, List.getElem_cons_succ]
    rw [if_pos (by rfl)]
    obtain ⟨u0, x0⟩ := hS.x0
    obtain ⟨u1, x1⟩ := hS.x1
    have f0 := hS.f
    go_simp
    refine hK.out _ _ (QV) (fun hSb => ?_)
    clear hK K
    try simp only [List.getElem_toArray, List.getElem_cons_zero, List.getElem_cons_succ, Act.put, List.setIfInBounds_toArray, List.set_cons_zero, List.set_cons_succ]
    clear hS
    refine till_one (i := 3) (by kernel_rfl) rfl (fun K hK => ?_)
    simp only [List.getElem_toArray, List.getElem_cons_zero, List.getElem_cons_succ]
    rw [if_pos (by rfl)]
    go_simp
    refine hK.out _ _ (hSb) (fun hS => ?_)
    clear hK K
    try simp only [List.getElem_toArray, List.getElem_cons_zero, List.getElem_cons_succ, Act.put, List.setIfInBounds_toArray, List.set_cons_zero, List.set_cons_succ]
    clear hSb
    refine till_done (by kernel_rfl) ?_ _
    clear hS
    have v0 : V.cell? ⟨gr, 0, none⟩ = some (.int .i64 0) := by simp [World.cell?, V0]
    have v1 : V.cell? ⟨gr, 1, none⟩ = some (.int .i64 0) := by simp [World.cell?, V0]
    have FIN : Hid (Acc V 84 G g s a m c X ∧ Ch w V (fun q => q = g)) := by
      have B : Below w.heap.size w V := Ld.out.trans (CV.toBelow Ld.out.size (fun k hk e => by omega))
      exact ⟨hA.out.below B, Ch.below B⟩
    rw [HV.out]
    clear CV V0 Q0 QV HV kd k1
    go_wp2
    refine bodyPost_ret (v := .tuple #[bal 0 0, .iface 102 (.pointer (some (E 2)))]) (by simp [results, Tryd.results17, go_sem, v0, v1]) rfl ⟨rfl, FIN.out⟩
set_option maxHeartbeats 2000000 in
theorem claim_d {M : Nat} {E : Nat → Addr} {w : World} {G g : Nat} {s : As} {a : Option Addr} {m c : Nat} {X : List Cx} (hA : Hid (Acc w 84 G g s a m c X)) (hE : Hid (Sent w M E)) (hM : 3 ≤ M) (r n : Int) (h1 : ¬ (0 ≤ r ∧ r ≤ 1099511627776)) (tp : Int) (htp : max s.pR s.cl = tp) (hf : ¬ (1099511627776 ≤ tp)) (hp : 0 ≤ tp) :
    Calls Tryd.prog 17 #[.pointer (some ⟨g, 0, none⟩), bal r n] w fun e w' => e = .returned (.tuple #[bal (tp + 1) s.node, .nilIface]) ∧ Hid (Acc w' 84 G g { s with cl := tp + 1 } a m c X ∧ Ch w w' (fun q => q = g)) := by
  obtain ⟨gb, Hgb⟩ : ∃ gb, Hid (w.heap.size = gb) := ⟨_, rfl⟩
  obtain ⟨gr, Hgr⟩ : ∃ gr, Hid (w.heap.size + 1 = gr) := ⟨_, rfl⟩
  have gg : Hid (gr = gb + 1) := by show _ = _; rw [← Hgr.out, ← Hgb.out]
  obtain ⟨w0, Hw0⟩ : ∃ w0, Hid ((w.alloc (.cells #[.int .i64 r, .int .i64 n] 34)).alloc (.cells #[.int .i64 0, .int .i64 0] 34) = w0) := ⟨_, rfl⟩
  have L0 : Hid (Below w.heap.size w w0) := by rw [← Hw0.out]; exact alloc2 w _ _
  have kr : Hid (w0.heap[gr]? = some (.cells #[.int .i64 0, .int .i64 0] 34 (0, 0))) := by show _ = _; rw [← Hw0.out, ← Hgr.out]; have h := heap_alloc_new (w.alloc (.cells #[.int .i64 r, .int .i64 n] 34)) (.cells #[.int .i64 0, .int .i64 0] 34); simpa using h
  have A0 : Hid (Acc w0 84 G g s a m c X) := hA.out.below L0.out
  have lg : Hid (g < gb) := by have := hA.out.glt; have := Hgb.out; show g < gb; omega
  have b0 : w0.cell? ⟨gb, 0, none⟩ = some (.int .i64 r) := by rw [← Hw0.out, ← Hgb.out]; simp
  have c1 : ∀ j, (w0.drewN j).cell? ⟨g, 1, none⟩ = some (.int .i64 s.pR) := fun j => A0.out.c1
  have c6 : ∀ j, (w0.drewN j).cell? ⟨g, 6, none⟩ = some (.int .i64 s.cl) := fun j => A0.out.c6
  obtain ⟨t1, Ht1⟩ : ∃ t1, Hid (max s.pR s.cl = t1) := ⟨_, rfl⟩
  have Ht2 : Hid (t1 = tp) := by show _ = _; rw [← Ht1.out]; exact htp
  clear htp
  go_enter Tryd.func17, Tryd.ntmps17
  go_upto_region 1 with (fail)
  rw [Hgr.out, Hw0.out, Hgb.out]
  go_quiet (fail)
  rw [Ht1.out]
  clear c1 c6
  obtain ⟨w1, Hw1⟩ : ∃ w1, Hid (w0.drewN nq = w1) := ⟨_, rfl⟩
  have b0' : w1.cell? ⟨gb, 0, none⟩ = some (.int .i64 r) := by rw [← Hw1.out]; exact b0
  have L1 : Hid (Below w.heap.size w w1) := by rw [← Hw1.out]; exact below_drewN L0.out nq
  have k1 : Hid (w1.heap[gr]? = some (.cells #[.int .i64 0, .int .i64 0] 34 (0, 0))) := by rw [← Hw1.out]; exact kr.out
  have A1 : Hid (Acc w1 84 G g s a m c X) := hA.out.below L1.out
  rw [Hw1.out]
  clear b0 kr A0 L0 Hw0 Hw1
  by_cases h3 : 0 ≤ r
  · have h4 : ¬ (r ≤ 1099511627776) := fun h => h1 ⟨h3, h⟩
    clear h1
    go_upto_region 4 with (fail)
    rw [Ht2.out]
    clear h3 h4
    have hf' : ¬ (tp ≥ 1099511627776) := hf
    have c6 := A1.out.c6
    have f6 := A1.out.fz 6
    go_upto_region 7 with (fail)
    obtain ⟨w2, Hw2⟩ : ∃ w2, Hid (w1.setCell ⟨g, 6, none⟩ (.int .i64 (tp + 1)) = w2) := ⟨_, rfl⟩
    rw [Hw2.out]
    have kg : w2.heap[g]? = some (.cells (accA { s with cl := tp + 1 } a m c) 84 (0, 0)) := by rw [← Hw2.out, set_blk A1.out.blk 6 _]; rfl
    have C2 : Ch w1 w2 (fun q => q = g) := by rw [← Hw2.out]; exact Ch.set w1 g 6 _
    have A2 : Hid (Acc w2 84 G g { s with cl := tp + 1 } a m c X) := A1.out.put kg (A1.out.cms.ch C2 (fun q h1 _ e => by have := hA.out.lt; omega)) A1.out.z A1.out.e
    obtain ⟨wd, Hwd⟩ : ∃ wd, Hid (w2.drew = wd) := ⟨_, rfl⟩
    have kd : Hid (wd.heap[gr]? = some (.cells #[.int .i64 0, .int .i64 0] 34 (0, 0))) := by rw [← Hwd.out]; exact (C2.block gr (Array.getElem?_eq_some_iff.1 k1.out).1 (by have := gg.out; have := lg.out; omega)).trans k1.out
    have Ad : Acc wd 84 G g { s with cl := tp + 1 } a m c X := by rw [← Hwd.out]; exact A2.out.below (Below.refl _ _).drew
    have Q0 : Hq wd g gr (tp + 1) s.node := ⟨Ad.c0, Ad.c6, by simp [World.cell?, kd.out], by simp [World.cell?, kd.out], fun i => by simp [World.frozen?, kd.out]⟩
    obtain ⟨V, HV⟩ : ∃ V, Hid ((wd.setCell ⟨gr, 0, none⟩ (.int .i64 (tp + 1))).setCell ⟨gr, 1, none⟩ (.int .i64 s.node) = V) := ⟨_, rfl⟩
    have V0 : V.heap[gr]? = some (.cells #[.int .i64 (tp + 1), .int .i64 s.node] 34 (0, 0)) := by rw [← HV.out, set_blk (set_blk kd.out 0 _) 1 _]; rfl
    have CV : Ch wd V (fun q => q = gr) := by rw [← HV.out]; exact (Ch.set _ gr 0 _).trans (Ch.set _ gr 1 _)
    have grw : w.heap.size ≤ gr := by have := Hgb.out; have := gg.out; omega
    have gne : g ≠ gr := by have := gg.out; have := lg.out; omega
    have QV : Hq ((wd.setCell ⟨gr, 0, none⟩ (.int .i64 (tp + 1))).setCell ⟨gr, 1, none⟩ (.int .i64 s.node)) g gr (tp + 1) s.node := by
      rw [HV.out]
      exact ⟨(Ch.cell CV (p := ⟨g, 0, none⟩) (cell_lt Q0.c0) gne).trans Q0.c0, (Ch.cell CV (p := ⟨g, 6, none⟩) (cell_lt Q0.c6) gne).trans Q0.c6, by simp [World.cell?, V0], by simp [World.cell?, V0], fun i => by simp [World.frozen?, V0]⟩
    clear c6 f6 kg
    refine wp_region_till (S := fun L W => Hq W g gr (tp + 1) s.node) (by kernel_rfl) (by rw [Hwd.out]; exact Q0) (fun hS => ?_)
    rw [Hwd.out] at hS ⊢
    refine till_take (i := 0) (v := .pointer (some ⟨g, 0, none⟩)) rfl (by kernel_rfl) (by kernel_rfl) (by kernel_rfl) (fun _ _ _ h => h) (fun L w => Iff.rfl) (Or.inl ⟨by rfl, fun w => by go_simp⟩) hS (fun hSb => ?_)
    simp only [List.getElem_toArray, List.getElem_cons_zero, List.getElem_cons_succ, Act.put, List.setIfInBounds_toArray, List.set_cons_zero, List.set_cons_succ]
    clear hS
    refine till_take (i := 1) (v := .pointer (some ⟨g, 0, none⟩)) rfl (by kernel_rfl) (by kernel_rfl) (by kernel_rfl) (fun _ _ _ h => h) (fun L w => Iff.rfl) (Or.inl ⟨by rfl, fun w => by go_simp⟩) hSb (fun hS => ?_)
    simp only [List.getElem_toArray, List.getElem_cons_zero, List.getElem_cons_succ, Act.put, List.setIfInBounds_toArray, List.set_cons_zero, List.set_cons_succ]
    clear hSb
    refine till_take (i := 2) (v := .pointer (some ⟨g, 6, none⟩)) rfl (by kernel_rfl) (by kernel_rfl) (by kernel_rfl) (fun _ _ _ h => h) (fun L w => Iff.rfl) (Or.inl ⟨by rfl, fun w => by go_simp⟩) hS (fun hSb => ?_)
    simp only [List.getElem_toArray, List.getElem_cons_zero, List.getElem_cons_succ, Act.put, List.setIfInBounds_toArray, List.set_cons_zero, List.set_cons_succ]
    clear hS
    refine till_read (i := 3) (c := 8) (v := .int .i64 (tp + 1)) (T := fun W => Hq W g gr (tp + 1) s.node) rfl rfl (by kernel_rfl) (by kernel_rfl) (by kernel_rfl) (by kernel_rfl) (by kernel_rfl) (fun _ _ _ h => h) (fun L w => Iff.rfl) (fun L w h1 h2 => h2) (Or.inl ⟨by rfl, fun w h => by have q1 := h.c6; go_simp⟩) hSb (fun hS => ?_)
    simp only [List.getElem_toArray, List.getElem_cons_zero, List.getElem_cons_succ, Act.put, List.setIfInBounds_toArray, List.set_cons_zero, List.set_cons_succ]
    clear hSb
    refine till_take (i := 4) (v := .pointer (some ⟨g, 0, none⟩)) rfl (by kernel_rfl) (by kernel_rfl) (by kernel_rfl) (fun _ _ _ h => h) (fun L w => Iff.rfl) (Or.inl ⟨by rfl, fun w => by go_simp⟩) hS (fun hSb => ?_)
    simp only [List.getElem_toArray, List.getElem_cons_zero, List.getElem_cons_succ, Act.put, List.setIfInBounds_toArray, List.set_cons_zero, List.set_cons_succ]
    clear hS
    refine till_take (i := 5) (v := .pointer (some ⟨g, 0, none⟩)) rfl (by kernel_rfl) (by kernel_rfl) (by kernel_rfl) (fun _ _ _ h => h) (fun L w => Iff.rfl) (Or.inl ⟨by rfl, fun w => by go_simp⟩) hSb (fun hS => ?_)
    simp only [List.getElem_toArray, List.getElem_cons_zero, List.getElem_cons_succ, Act.put, List.setIfInBounds_toArray, List.set_cons_zero, List.set_cons_succ]
    clear hSb
    refine till_take (i := 6) (v := .pointer (some ⟨g, 0, none⟩)) rfl (by kernel_rfl) (by kernel_rfl) (by kernel_rfl) (fun _ _ _ h => h) (fun L w => Iff.rfl) (Or.inl ⟨by rfl, fun w => by go_simp⟩) hS (fun hSb => ?_)
    simp only [List.getElem_toArray, List.getElem_cons_zero, List.getElem_cons_succ, Act.put, List.setIfInBounds_toArray, List.set_cons_zero, List.set_cons_succ]
    clear hS
    refine till_read (i := 7) (c := 8) (v := .int .i64 s.node) (T := fun W => Hq W g gr (tp + 1) s.node) rfl rfl (by kernel_rfl) (by kernel_rfl) (by kernel_rfl) (by kernel_rfl) (by kernel_rfl) (fun _ _ _ h => h) (fun L w => Iff.rfl) (fun L w h1 h2 => h2) (Or.inl ⟨by rfl, fun w h => by have q1 := h.c0; go_simp⟩) hSb (fun hS => ?_)
    simp only [List.getElem_toArray, List.getElem_cons_zero, List.getElem_cons_succ, Act.put, List.setIfInBounds_toArray, List.set_cons_zero, List.set_cons_succ]
    clear hSb
    refine till_take (i := 8) (v := bal (tp + 1) s.node) rfl (by kernel_rfl) (by kernel_rfl) (by kernel_rfl) (fun _ _ _ h => h) (fun L w => Iff.rfl) (Or.inl ⟨by rfl, fun w => by go_simp⟩) hS (fun hSb => ?_)
    simp only [List.getElem_toArray, List.getElem_cons_zero, List.getElem_cons_succ, Act.put, List.setIfInBounds_toArray, List.set_cons_zero, List.set_cons_succ]
    clear hS
    refine till_one (i := 9) (by kernel_rfl) rfl (fun K hK => ?_)
    simp only [List.getElem_toArray, List.getElem_cons_zero, List.getElem_cons_succ]
    rw [if_pos (by rfl)]
    obtain ⟨u0, x0⟩ := hSb.x0
    obtain ⟨u1, x1⟩ := hSb.x1
    have f0 := hSb.f
    go_simp
    refine hK.out _ _ (QV) (fun hS => ?_)
    clear hK K
    try simp only [List.getElem_toArray, List.getElem_cons_zero, List.getElem_cons_succ, Act.put, List.setIfInBounds_toArray, List.set_cons_zero, List.set_cons_succ]
    clear hSb
    refine till_one (i := 10) (by kernel_rfl) rfl (fun K hK => ?_)
    simp only [List.getElem_toArray, List.getElem_cons_zero, List.getElem_cons_succ]
    rw [if_pos (by rfl)]
    go_simp
    refine hK.out _ _ (hS) (fun hSb => ?_)
    clear hK K
    try simp only [List.getElem_toArray, List.getElem_cons_zero, List.getElem_cons_succ, Act.put, List.setIfInBounds_toArray, List.set_cons_zero, List.set_cons_succ]
    clear hS
    refine till_done (by kernel_rfl) ?_ _
    clear hSb
    have v0 : V.cell? ⟨gr, 0, none⟩ = some (.int .i64 (tp + 1)) := by simp [World.cell?, V0]
    have v1 : V.cell? ⟨gr, 1, none⟩ = some (.int .i64 s.node) := by simp [World.cell?, V0]
    have FIN : Hid (Acc V 84 G g { s with cl := tp + 1 } a m c X ∧ Ch w V (fun q => q = g)) := by
      have C3 : Ch w wd (fun q => q = g) := by rw [← Hwd.out]; exact ((Ch.below L1.out).trans C2).trans (Ch.drew w2 _)
      have C4 : Ch w V (fun q => q = g) := C3.then CV (fun q _ h => h) (fun q hq e => by omega)
      exact ⟨⟨(CV.block g Ad.glt gne).trans Ad.blk, hA.out.cms.ch C4 (fun q h1 _ e => by have := hA.out.lt; omega), hA.out.z, hA.out.e, hA.out.lt⟩, C4⟩
    rw [HV.out]
    clear CV V0 Q0 QV HV kd k1 C2
    go_wp2
    refine bodyPost_ret (v := .tuple #[bal (tp + 1) s.node, .nilIface]) (by simp [results, Tryd.results17, go_sem, v0, v1]) rfl ⟨rfl, FIN.out⟩
  · clear h1
    go_upto_region 4 with (fail)
    rw [Ht2.out]
    clear h3
    have hf' : ¬ (tp ≥ 1099511627776) := hf
    have c6 := A1.out.c6
    have f6 := A1.out.fz 6
    go_upto_region 7 with (fail)
    obtain ⟨w2, Hw2⟩ : ∃ w2, Hid (w1.setCell ⟨g, 6, none⟩ (.int .i64 (tp + 1)) = w2) := ⟨_, rfl⟩
    rw [Hw2.out]
    have kg : w2.heap[g]? = some (.cells (accA { s with cl := tp + 1 } a m c) 84 (0, 0)) := by rw [← Hw2.out, set_blk A1.out.blk 6 _]; rfl
    have C2 : Ch w1 w2 (fun q => q = g) := by rw [← Hw2.out]; exact Ch.set w1 g 6 _
    have A2 : Hid (Acc w2 84 G g { s with cl := tp + 1 } a m c X) := A1.out.put kg (A1.out.cms.ch C2 (fun q h1 _ e => by have := hA.out.lt; omega)) A1.out.z A1.out.e
    obtain ⟨wd, Hwd⟩ : ∃ wd, Hid (w2.drew = wd) := ⟨_, rfl⟩
    have kd : Hid (wd.heap[gr]? = some (.cells #[.int .i64 0, .int .i64 0] 34 (0, 0))) := by rw [← Hwd.out]; exact (C2.block gr (Array.getElem?_eq_some_iff.1 k1.out).1 (by have := gg.out; have := lg.out; omega)).trans k1.out
    have Ad : Acc wd 84 G g { s with cl := tp + 1 } a m c X := by rw [← Hwd.out]; exact A2.out.below (Below.refl _ _).drew
    have Q0 : Hq wd g gr (tp + 1) s.node := ⟨Ad.c0, Ad.c6, by simp [World.cell?, kd.out], by simp [World.cell?, kd.out], fun i => by simp [World.frozen?, kd.out]⟩
    obtain ⟨V, HV⟩ : ∃ V, Hid ((wd.setCell ⟨gr, 0, none⟩ (.int .i64 (tp + 1))).setCell ⟨gr, 1, none⟩ (.int .i64 s.node) = V) := ⟨_, rfl⟩
    have V0 : V.heap[gr]? = some (.cells #[.int .i64 (tp + 1), .int .i64 s.node] 34 (0, 0)) := by rw [← HV.out, set_blk (set_blk kd.out 0 _) 1 _]; rfl
    have CV : Ch wd V (fun q => q = gr) := by rw [← HV.out]; exact (Ch.set _ gr 0 _).trans (Ch.set _ gr 1 _)
    have grw : w.heap.size ≤ gr := by have := Hgb.out; have := gg.out; omega
    have gne : g ≠ gr := by have := gg.out; have := lg.out; omega
    have QV : Hq ((wd.setCell ⟨gr, 0, none⟩ (.int .i64 (tp + 1))).setCell ⟨gr, 1, none⟩ (.int .i64 s.node)) g gr (tp + 1) s.node := by
      rw [HV.out]
      exact ⟨(Ch.cell CV (p := ⟨g, 0, none⟩) (cell_lt Q0.c0) gne).trans Q0.c0, (Ch.cell CV (p := ⟨g, 6, none⟩) (cell_lt Q0.c6) gne).trans Q0.c6, by simp [World.cell?, V0], by simp [World.cell?, V0], fun i => by simp [World.frozen?, V0]⟩
    clear c6 f6 kg
    refine wp_region_till (S := fun L W => Hq W g gr (tp + 1) s.node) (by kernel_rfl) (by rw [Hwd.out]; exact Q0) (fun hS => ?_)
    rw [Hwd.out] at hS ⊢
    refine till_take (i := 0) (v := .pointer (some ⟨g, 0, none⟩)) rfl (by kernel_rfl) (by kernel_rfl) (by kernel_rfl) (fun _ _ _ h => h) (fun L w => Iff.rfl) (Or.inl ⟨by rfl, fun w => by go_simp⟩) hS (fun hSb => ?_)
    simp only [List.getElem_toArray, List.getElem_cons_zero, List.getElem_cons_succ, Act.put, List.setIfInBounds_toArray, List.set_cons_zero, List.set_cons_succ]
    clear hS
    refine till_take (i := 1) (v := .pointer (some ⟨g, 0, none⟩)) rfl (by kernel_rfl) (by kernel_rfl) (by kernel_rfl) (fun _ _ _ h => h) (fun L w => Iff.rfl) (Or.inl ⟨by rfl, fun w => by go_simp⟩) hSb (fun hS => ?_)
    simp only [List.getElem_toArray, List.getElem_cons_zero, List.getElem_cons_succ, Act.put, List.setIfInBounds_toArray, List.set_cons_zero, List.set_cons_succ]
    clear hSb
    refine till_take (i := 2) (v := .pointer (some ⟨g, 6, none⟩)) rfl (by kernel_rfl) (by kernel_rfl) (by kernel_rfl) (fun _ _ _ h => h) (fun L w => Iff.rfl) (Or.inl ⟨by rfl, fun w => by go_simp⟩) hS (fun hSb => ?_)
    simp only [List.getElem_toArray, List.getElem_cons_zero, List.getElem_cons_succ, Act.put, List.setIfInBounds_toArray, List.set_cons_zero, List.set_cons_succ]
    clear hS
    refine till_read (i := 3) (c := 8) (v := .int .i64 (tp + 1)) (T := fun W => Hq W g gr (tp + 1) s.node) rfl rfl (by kernel_rfl) (by kernel_rfl) (by kernel_rfl) (by kernel_rfl) (by kernel_rfl) (fun _ _ _ h => h) (fun L w => Iff.rfl) (fun L w h1 h2 => h2) (Or.inl ⟨by rfl, fun w h => by have q1 := h.c6; go_simp⟩) hSb (fun hS => ?_)
    simp only [List.getElem_toArray, List.getElem_cons_zero, List.getElem_cons_succ, Act.put, List.setIfInBounds_toArray, List.set_cons_zero, List.set_cons_succ]
    clear hSb
    refine till_take (i := 4) (v := .pointer (some ⟨g, 0, none⟩)) rfl (by kernel_rfl) (by kernel_rfl) (by kernel_rfl) (fun _ _ _ h => h) (fun L w => Iff.rfl) (Or.inl ⟨by rfl, fun w => by go_simp⟩) hS (fun hSb => ?_)
    simp only [List.getElem_toArray, List.getElem_cons_zero, List.getElem_cons_succ, Act.put, List.setIfInBounds_toArray, List.set_cons_zero, List.set_cons_succ]
    clear hS
    refine till_take (i := 5) (v := .pointer (some ⟨g, 0, none⟩)) rfl (by kernel_rfl) (by kernel_rfl) (by kernel_rfl) (fun _ _ _ h => h) (fun L w => Iff.rfl) (Or.inl ⟨by rfl, fun w => by go_simp⟩) hSb (fun hS => ?_)
    simp only [List.getElem_toArray, List.getElem_cons_zero, List.getElem_cons_succ, Act.put, List.setIfInBounds_toArray, List.set_cons_zero, List.set_cons_succ]
    clear hSb
    refine till_take (i := 6) (v := .pointer (some ⟨g, 0, none⟩)) rfl (by kernel_rfl) (by kernel_rfl) (by kernel_rfl) (fun _ _ _ h => h) (fun L w => Iff.rfl) (Or.inl ⟨by rfl, fun w => by go_simp⟩) hS (fun hSb => ?_)
    simp only [List.getElem_toArray, List.getElem_cons_zero, List.getElem_cons_succ, Act.put, List.setIfInBounds_toArray, List.set_cons_zero, List.set_cons_succ]
    clear hS
    refine till_read (i := 7) (c := 8) (v := .int .i64 s.node) (T := fun W => Hq W g gr (tp + 1) s.node) rfl rfl (by kernel_rfl) (by kernel_rfl) (by kernel_rfl) (by kernel_rfl) (by kernel_rfl) (fun _ _ _ h => h) (fun L w => Iff.rfl) (fun L w h1 h2 => h2) (Or.inl ⟨by rfl, fun w h => by have q1 := h.c0; go_simp⟩) hSb (fun hS => ?_)
    simp only [List.getElem_toArray, List.getElem_cons_zero, List.getElem_cons_succ, Act.put, List.setIfInBounds_toArray, List.set_cons_zero, List.set_cons_succ]
    clear hSb
    refine till_take (i := 8) (v := bal (tp + 1) s.node) rfl (by kernel_rfl) (by kernel_rfl) (by kernel_rfl) (fun _ _ _ h => h) (fun L w => Iff.rfl) (Or.inl ⟨by rfl, fun w => by go_simp⟩) hS (fun hSb => ?_)
    simp only [List.getElem_toArray, List.getElem_cons_zero, List.getElem_cons_succ, Act.put, List.setIfInBounds_toArray, List.set_cons_zero, List.set_cons_succ]
    clear hS
    refine till_one (i := 9) (by kernel_rfl) rfl (fun K hK => ?_)
    simp only [List.getElem_toArray, List.getElem_cons_zero, List.getElem_cons_succ]
    rw [if_pos (by rfl)]
    obtain ⟨u0, x0⟩ := hSb.x0
    obtain ⟨u1, x1⟩ := hSb.x1
    have f0 := hSb.f
    go_simp
    refine hK.out _ _ (QV) (fun hS => ?_)
    clear hK K
    try simp only [List.getElem_toArray, List.getElem_cons_zero, List.getElem_cons_succ, Act.put, List.setIfInBounds_toArray, List.set_cons_zero, List.set_cons_succ]
    clear hSb
    refine till_one (i := 10) (by kernel_rfl) rfl (fun K hK => ?_)
    simp only [List.getElem_toArray, List.getElem_cons_zero, List.getElem_cons_succ]
    rw [if_pos (by rfl)]
    go_simp
    refine hK.out _ _ (hS) (fun hSb => ?_)
    clear hK K
    try simp only [List.getElem_toArray, List.getElem_cons_zero, List.getElem_cons_succ, Act.put, List.setIfInBounds_toArray, List.set_cons_zero, List.set_cons_succ]
    clear hS
    refine till_done (by kernel_rfl) ?_ _
    clear hSb
    have v0 : V.cell? ⟨gr, 0, none⟩ = some (.int .i64 (tp + 1)) := by simp [World.cell?, V0]
    have v1 : V.cell? ⟨gr, 1, none⟩ = some (.int .i64 s.node) := by simp [World.cell?, V0]
    have FIN : Hid (Acc V 84 G g { s with cl := tp + 1 } a m c X ∧ Ch w V (fun q => q = g)) := by
      have C3 : Ch w wd (fun q => q = g) := by rw [← Hwd.out]; exact ((Ch.below L1.out).trans C2).trans (Ch.drew w2 _)
      have C4 : Ch w V (fun q => q = g) := C3.then CV (fun q _ h => h) (fun q hq e => by omega)
      exact ⟨⟨(CV.block g Ad.glt gne).trans Ad.blk, hA.out.cms.ch C4 (fun q h1 _ e => by have := hA.out.lt; omega), hA.out.z, hA.out.e, hA.out.lt⟩, C4⟩
    rw [HV.out]
    clear CV V0 Q0 QV HV kd k1 C2
    go_wp2
    refine bodyPost_ret (v := .tuple #[bal (tp + 1) s.node, .nilIface]) (by simp [results, Tryd.results17, go_sem, v0, v1]) rfl ⟨rfl, FIN.out⟩
def clT (s : As) (r : Int) : Int := if 0 ≤ r ∧ r ≤ 1099511627776 then max (max s.pR s.cl) r else max s.pR s.cl
def clk (s : As) (r : Int) : Nat := if 1099511627776 ≤ clT s r then 10 else 0
def clB (s : As) (r : Int) : Int × Int := if clk s r = 0 then (clT s r + 1, s.node) else (0, 0)
def clS (s : As) (r : Int) : As := if clk s r = 0 then { s with cl := clT s r + 1 } else s
theorem clT_ge (s : As) (r : Int) : s.pR ≤ clT s r := by unfold clT; split <;> omega
theorem claim_n {M : Nat} {E : Nat → Addr} {w : World} {G g : Nat} {s : As} {a : Option Addr} {m c : Nat} {X : List Cx} (hA : Hid (Acc w 84 G g s a m c X)) (hE : Hid (Sent w M E)) (hM : 3 ≤ M) (r n : Int) (hp : 0 ≤ s.pR) :
    Calls Tryd.prog 17 #[.pointer (some ⟨g, 0, none⟩), bal r n] w fun e w' => e = .returned (.tuple #[bal (clB s r).1 (clB s r).2, errv E (clk s r)]) ∧ Hid (Acc w' 84 G g (clS s r) a m c X ∧ Ch w w' (fun q => q = g)) := by
  have hge := clT_ge s r
  by_cases hf : 1099511627776 ≤ clT s r
  · have hk : clk s r = 10 := if_pos hf
    have e1 : clB s r = (0, 0) := by unfold clB; rw [hk]; rfl
    have e2 : clS s r = s := by unfold clS; rw [hk]; rfl
    rw [e1, e2, hk]
    by_cases h : 0 ≤ r ∧ r ≤ 1099511627776
    · exact claim_a hA hE hM r n h.1 h.2 (clT s r) (by unfold clT; rw [if_pos h]) hf
    · exact claim_c hA hE hM r n h (clT s r) (by unfold clT; rw [if_neg h]) hf
  · have hk : clk s r = 0 := if_neg hf
    have e1 : clB s r = (clT s r + 1, s.node) := by unfold clB; rw [hk]; rfl
    have e2 : clS s r = { s with cl := clT s r + 1 } := by unfold clS; rw [hk]; rfl
    rw [e1, e2, hk]
    by_cases h : 0 ≤ r ∧ r ≤ 1099511627776
    · exact claim_b hA hE hM r n h.1 h.2 (clT s r) (by unfold clT; rw [if_pos h]) hf (by omega)
    · exact claim_d hA hE hM r n h (clT s r) (by unfold clT; rw [if_neg h]) hf (by omega)
end Go.Proofs.YtdfnjcjpblkmcaaDoor
