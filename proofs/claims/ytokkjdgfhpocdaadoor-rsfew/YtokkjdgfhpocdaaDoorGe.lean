/- What copied of bollardlaw02 does: the same shards, in memory of their own. -/
import Derived.Test.YtokkjdgfhpocdaaDoorGd
import Derived.Deep.RegionHeld
import Derived.Lib.AppendZeros
namespace Go.Proofs.YtokkjdgfhpocdaaDoor
open Go.ChangeShapes Go.WideShapes Go.ChangeAt Go.RowKit
set_option linter.unusedVariables false
set_option linter.unusedSimpArgs false
/- a shard whose bytes lie in a block of their own, six marks behind them -/
structure El (B : Nat) (w : World) (s : Nat) (e : Tr) : Prop where
  wf : (Lit.int .i64 e.1).wf = true
  ex : ∃ b, e.2.1 = .slice (some ⟨b, 0, none⟩) s (s + 6) ∧ Blk w b (e.2.2 ++ marks) ∧ B ≤ b
  len : e.2.2.length = s
  lt : ∀ x ∈ e.2.2, x < 256
theorem El.to {B : Nat} {w w' : World} {s : Nat} {e : Tr} (h : El B w s e) (hk : ∀ b, e.2.1 = .slice (some ⟨b, 0, none⟩) s (s + 6) → b < w.heap.size → w'.heap[b]? = w.heap[b]?) : El B w' s e := by
  obtain ⟨b, h1, h2, h3⟩ := h.ex
  exact ⟨h.wf, ⟨b, h1, (hk b h1 h2.lt).trans h2, h3⟩, h.len, h.lt⟩
theorem El.below {B : Nat} {w w' : World} {s : Nat} {e : Tr} (h : El B w s e) (hb : Below w.heap.size w w') : El B w' s e := h.to fun b _ hb2 => hb.block b hb2
theorem El.vs {B : Nat} {w : World} {s : Nat} {e : Tr} (h : El B w s e) (hs : s ≤ 1100) : Vs w e := by
  obtain ⟨b, h1, h2, h3⟩ := h.ex
  exact ⟨h.wf, _, _, _, h1, blk_begin h2 h.len.symm h.lt (by rw [h.len]; omega), by omega, by omega, by simp⟩
structure Cp (B : Nat) (w0 w : World) (g cap s : Nat) (T : List Tr) : Prop where
  own : Oro w B g cap T
  el : ∀ e ∈ T, El B w s e
  pw : T.Pairwise (fun e f => e.2.1 ≠ f.2.1)
  bel : Below B w0 w
theorem Cp.apart {B : Nat} {w0 w : World} {g cap s : Nat} {T : List Tr} (h : Cp B w0 w g cap s T) {e : Tr} (he : e ∈ T) {b : Nat} (hb : e.2.1 = .slice (some ⟨b, 0, none⟩) s (s + 6)) : b ≠ g := by
  obtain ⟨b', h1, h2, _⟩ := (h.el e he).ex
  rw [h1] at hb
  simp at hb
  subst hb
  obtain ⟨cur, hg⟩ := h.own.blk
  intro e2
  subst e2
  unfold Blk at h2
  rw [hg] at h2
  simp at h2
theorem lst_snoc (A : List Tr) (e : Tr) : lst (A ++ [e]) = lst A ++ [(e.1, e.2.2)] := by simp [lst]
set_option maxRecDepth 20000 in
set_option maxHeartbeats 2000000 in
theorem copied_n (k s b off c : Nat) (T : List Tr) (w : World) (hk : k ≤ 16) (hs : s ≤ 1100) (HL : Hid (Lie w b off T)) (HO : Hid (Ok w T)) (HK : Hid (T.length = k)) (HS : Hid (∀ e ∈ T, e.2.2.length = s)) :
    Calls Tryd.prog 21 #[.slice (some ⟨b, off, none⟩) k c] w fun e w' => ∃ g cap, e = .returned (.slice (some ⟨g, 0, none⟩) k cap) ∧ Hid (∃ T', lst T' = lst T ∧ T'.length = k ∧ Cp w.heap.size w w' g cap s T') := by
  go_enter Tryd.func21, Tryd.ntmps21
  go_wp2
  go_loopw [9, 3] (fun ti tv wr => ∃ i g cap : Nat, i ≤ k ∧ ti = .int .i64 (i : Int) ∧ tv = .slice (some ⟨g, 0, none⟩) i cap ∧ Hid (∃ T', lst T' = lst (T.take i) ∧ T'.length = i ∧ Cp w.heap.size w wr g cap s T')) (fun ti _ _ => k - (intOf ti).toNat)
  case atStart => exact ⟨0, w.heap.size, 0, by omega, rfl, rfl, [], by simp [lst], rfl, Oro.new w _ (Nat.le_refl _), (fun e he => by cases he), List.Pairwise.nil, (Below.refl _ _).alloc (Nat.le_refl _) _⟩
  case round =>
    obtain ⟨i, g, cap, hi, rfl, rfl, HI⟩ := hrel
    by_cases hlt : i < k
    · obtain ⟨T1, hT1, hT2, CP⟩ := HI.out
      have hiT : i < T.length := by rw [HK.out]; exact hlt
      have he := List.getElem?_eq_getElem hiT
      obtain ⟨e, Hee⟩ : ∃ e, Hid (T[i] = e) := ⟨T[i], (rfl : T[i] = T[i])⟩
      rw [Hee.out] at he
      have hmem : e ∈ T := by rw [← Hee.out]; exact List.getElem_mem hiT
      obtain ⟨c0, c1⟩ := cell_val (HL.out.below CP.bel) i e he
      have VS := (HO.out.below CP.bel) e hmem
      obtain ⟨a1, m1, cc, e1, s1, hmc, hcc, hnone⟩ := VS.ex
      have em : m1 = s := by rw [s1.len]; exact HS.out e hmem
      subst em
      rw [e1] at c1
      obtain ⟨z, v, l⟩ := e
      simp only at e1 c0 c1 s1 VS
      subst e1
      have WZ : Hid ((Lit.int .i64 z).wf = true) := VS.wf
      have SL : Hid (Sln wr a1 m1 l) := s1
      have HNN : Hid (a1 = none → cc = 0) := hnone
      have i1 : (i : Int) < (k : Int) := by omega
      have CPh : Hid (lst T1 = lst (T.take i) ∧ T1.length = i ∧ Cp w.heap.size w wr g cap m1 T1) := ⟨hT1, hT2, CP⟩
      have HE : Hid (lst (T.take (i + 1)) = lst (T.take i) ++ [(z, l)]) := by
        have : T.take (i + 1) = T.take i ++ [(z, .slice a1 m1 cc, l)] := by rw [List.take_add_one, he]; rfl
        have h9 : lst (T.take (i + 1)) = lst (T.take i) ++ [(z, l)] := by rw [this, lst_snoc]
        exact h9
      clear HI hT1 hT2 CP VS hnone s1 he hmem hiT Hee
      obtain ⟨w1, hw1⟩ : ∃ w1, w1 = wr.alloc (.cells #[.int .i64 z, .slice a1 m1 cc] 54) := ⟨_, rfl⟩
      have d0 : w1.cell? ⟨wr.heap.size, 0, none⟩ = some (.int .i64 z) := by rw [hw1]; simp
      have d1 : w1.cell? ⟨wr.heap.size, 1, none⟩ = some (.slice a1 m1 cc) := by rw [hw1]; simp
      have bw : Hid (Below wr.heap.size wr w1) := by rw [hw1]; exact (Below.refl _ _).alloc (Nat.le_refl _) _
      go_upto_region 5 with (fail)
      rw [← hw1]
      obtain ⟨q, hq⟩ : ∃ q, q = wr.heap.size := ⟨_, rfl⟩
      rw [← hq] at d0 d1 ⊢
      have QNE : Hid (q ≠ g) := by
        have := CPh.out.2.2.own.lt
        show q ≠ g
        omega
      clear hw1 hq c0 c1
      refine wp_region_held (S := fun w' => w'.cell? ⟨q, 0, none⟩ = some (.int .i64 z) ∧ w'.cell? ⟨q, 1, none⟩ = some (.slice a1 m1 cc)) (by kernel_rfl) ?_
      obtain ⟨w2, hw2⟩ : ∃ w2, w2 = w1.drewN 1 := ⟨_, rfl⟩
      have B2 : Hid (Below wr.heap.size wr w2) := by rw [hw2]; exact below_drewN bw.out 1
      have S0 : w2.cell? ⟨q, 0, none⟩ = some (.int .i64 z) ∧ w2.cell? ⟨q, 1, none⟩ = some (.slice a1 m1 cc) := by rw [hw2, cell_drewN, cell_drewN]; exact ⟨d0, d1⟩
      have hw3 : ({ heap := w1.heap, tape := w1.tape, drawn := w1.drawn + 1, os := w1.os, output := w1.output } : World) = w2 := hw2.symm
      refine (show _ = w2 from hw3) ▸ ?_
      clear hw2 hw3 d0 d1 bw
      have SL2 : Hid (Sln w2 a1 m1 l) := SL.out.below B2.out
      refine wpAnyH_take (i := 0) (v := .slice (some ⟨g, 0, none⟩) i cap) rfl (by kernel_rfl) (by kernel_rfl) (by kernel_rfl) (fun _ _ _ h => h) (Or.inl ⟨by rfl, fun w hSw => by (try dsimp only at hSw); go_simp⟩) (by assumption) ?_
      simp only [List.getElem_toArray, List.getElem_cons_zero, List.getElem_cons_succ, Act.put, List.setIfInBounds_toArray, List.set_cons_zero, List.set_cons_succ]
      refine wpAnyH_take (i := 1) (v := .pointer (some ⟨q, 0, none⟩)) rfl (by kernel_rfl) (by kernel_rfl) (by kernel_rfl) (fun _ _ _ h => h) (Or.inl ⟨by rfl, fun w hSw => by (try dsimp only at hSw); go_simp⟩) (by assumption) ?_
      simp only [List.getElem_toArray, List.getElem_cons_zero, List.getElem_cons_succ, Act.put, List.setIfInBounds_toArray, List.set_cons_zero, List.set_cons_succ]
      refine wpAnyH_take (i := 2) (v := .int .i64 z) rfl (by kernel_rfl) (by kernel_rfl) (by kernel_rfl) (fun _ _ _ h => h) (Or.inl ⟨by rfl, fun w hSw => by (try dsimp only at hSw); go_simp⟩) (by assumption) ?_
      simp only [List.getElem_toArray, List.getElem_cons_zero, List.getElem_cons_succ, Act.put, List.setIfInBounds_toArray, List.set_cons_zero, List.set_cons_succ]
      refine wpAnyH_take (i := 3) (v := .pointer (some ⟨q, 1, none⟩)) rfl (by kernel_rfl) (by kernel_rfl) (by kernel_rfl) (fun _ _ _ h => h) (Or.inl ⟨by rfl, fun w hSw => by (try dsimp only at hSw); go_simp⟩) (by assumption) ?_
      simp only [List.getElem_toArray, List.getElem_cons_zero, List.getElem_cons_succ, Act.put, List.setIfInBounds_toArray, List.set_cons_zero, List.set_cons_succ]
      refine wpAnyH_take (i := 4) (v := .slice a1 m1 cc) rfl (by kernel_rfl) (by kernel_rfl) (by kernel_rfl) (fun _ _ _ h => h) (Or.inl ⟨by rfl, fun w hSw => by (try dsimp only at hSw); go_simp⟩) (by assumption) ?_
      simp only [List.getElem_toArray, List.getElem_cons_zero, List.getElem_cons_succ, Act.put, List.setIfInBounds_toArray, List.set_cons_zero, List.set_cons_succ]
      refine wpAnyH_ready (rs := [5]) (by kernel_rfl) (by simp) (AllReadyH.cons rfl (fun K hK => ?_) AllReadyH.nil)
      simp only [List.getElem_toArray, List.getElem_cons_zero, List.getElem_cons_succ]
      rw [if_pos (by rfl)]
      go_simp
      go_wp2_with (go_at_call 15; refine (bytes_n SL2 HNN).mono ?_; rintro e w3 ⟨g3, N, rfl, H3⟩)
      have hN : N = m1 + 6 := H3.out.1
      subst hN
      have S3 : w3.cell? ⟨q, 0, none⟩ = some (.int .i64 z) ∧ w3.cell? ⟨q, 1, none⟩ = some (.slice a1 m1 cc) := ⟨(H3.out.2.2.2.cell (p := ⟨q, 0, none⟩) (cell_lt' S0.1)).trans S0.1, (H3.out.2.2.2.cell (p := ⟨q, 1, none⟩) (cell_lt' S0.2)).trans S0.2⟩
      refine hK.out _ _ S3 (fun hS_ => ?_)
      clear hK K
      refine wpAnyH_take (i := 6) (v := .agg #[.int .i64 z, .slice (some ⟨g3, 0, none⟩) m1 (m1 + 6)]) rfl (by kernel_rfl) (by kernel_rfl) (by kernel_rfl) (fun _ _ _ h => h) (Or.inl ⟨by rfl, fun w hSw => by (try dsimp only at hSw); go_simp⟩) (by assumption) ?_
      simp only [List.getElem_toArray, List.getElem_cons_zero, List.getElem_cons_succ, Act.put, List.setIfInBounds_toArray, List.set_cons_zero, List.set_cons_succ]
      have B3 : Hid (Below wr.heap.size wr w3) := B2.out.trans (H3.out.2.2.2.mono B2.out.size)
      obtain ⟨w4, hw4⟩ : ∃ w4, w4 = w3.alloc (.cells #[.int .i64 z, .slice (some ⟨g3, 0, none⟩) m1 (m1 + 6)] 54) := ⟨_, rfl⟩
      have B43 : Hid (Below w3.heap.size w3 w4) := by rw [hw4]; exact (Below.refl _ _).alloc (Nat.le_refl _) _
      have B4 : Hid (Below wr.heap.size wr w4) := B3.out.trans (B43.out.mono B3.out.size)
      have E4 : Hid (El w.heap.size w4 m1 (z, .slice (some ⟨g3, 0, none⟩) m1 (m1 + 6), l)) := by
        refine ⟨WZ.out, ⟨g3, rfl, H3.out.2.2.1.below B43.out H3.out.2.2.1.lt, ?_⟩, SL.out.len.symm, SL.out.lt⟩
        have z1 := CPh.out.2.2.bel.size
        have z2 := B2.out.size
        rw [H3.out.2.1]; omega
      have L4 : Hid (Lie w4 w3.heap.size 0 [(z, .slice (some ⟨g3, 0, none⟩) m1 (m1 + 6), l)]) := by
        intro j u hu
        have hj : j < 2 := by
          have := (List.getElem?_eq_some_iff.1 hu).1
          simpa [cel] using this
        have b1 : w4.heap[w3.heap.size]? = some (.cells #[.int .i64 z, .slice (some ⟨g3, 0, none⟩) m1 (m1 + 6)] 54 (0, 0)) := by
          rw [hw4]
          show (w3.heap.push _)[w3.heap.size]? = _
          simp
        simp only [World.cell?, b1]
        match j, hj with
        | 0, _ => simpa [cel] using hu
        | 1, _ => simpa [cel] using hu
      have fresh : Hid (∀ f ∈ T1, (f.2.1 ≠ .slice (some ⟨g3, 0, none⟩) m1 (m1 + 6))) := by
        intro f hf e9
        obtain ⟨b9, h9, k9, _⟩ := (CPh.out.2.2.el f hf).ex
        rw [h9] at e9
        simp at e9
        have := k9.lt
        have z2 := B2.out.size
        have := H3.out.2.1
        omega
      have own4 := CPh.out.2.2.own.below B4.out
      obtain ⟨g5, cap5, w5, ap5, own5, gr5⟩ := app_T (c := 1) own4 L4.out (fun e he => by simp at he; subst he; exact E4.out.vs hs) rfl (Nat.le_trans CPh.out.2.2.bel.size B4.out.size) (by rw [CPh.out.2.1]; simp; omega)
      have FIN : Hid (∃ T', lst T' = lst (T.take (i + 1)) ∧ T'.length = i + 1 ∧ Cp w.heap.size w w5 g5 cap5 m1 T') := by
        have hg := CPh.out.2.2.own.lt
        have cp4 : Cp w.heap.size w w4 g cap m1 T1 := ⟨own4, fun e he => (CPh.out.2.2.el e he).below B4.out, CPh.out.2.2.pw, CPh.out.2.2.bel.trans (B4.out.mono CPh.out.2.2.bel.size)⟩
        refine ⟨T1 ++ [(z, .slice (some ⟨g3, 0, none⟩) m1 (m1 + 6), l)], ?_, by simp [CPh.out.2.1], own5, fun e he => ?_, ?_, cp4.bel.grown gr5 cp4.bel.size (fun y e => by simp at e; omega)⟩
        · rw [lst_snoc, HE.out, CPh.out.1]
        · rcases List.mem_append.1 he with h | h
          · exact (cp4.el e h).to fun b hb hb2 => gr5.block b hb2 (by intro e9; simp at e9; exact cp4.apart h hb e9)
          · simp at h
            subst h
            refine E4.out.to fun b hb hb2 => gr5.block b hb2 ?_
            intro e9
            simp at e9 hb
            have z2 := B2.out.size
            have := H3.out.2.1
            omega
        · rw [List.pairwise_append]
          refine ⟨cp4.pw, by simp, fun a ha b hb => ?_⟩
          simp at hb
          subst hb
          exact fresh.out a ha
      have hl1 := CPh.out.2.1
      rw [hl1] at ap5
      have AP5 : Hid _ := ap5
      have S4 : w4.cell? ⟨q, 0, none⟩ = some (.int .i64 z) ∧ w4.cell? ⟨q, 1, none⟩ = some (.slice a1 m1 cc) := ⟨(B43.out.cell (p := ⟨q, 0, none⟩) (cell_lt' S3.1)).trans S3.1, (B43.out.cell (p := ⟨q, 1, none⟩) (cell_lt' S3.2)).trans S3.2⟩
      have S5 : w5.cell? ⟨q, 0, none⟩ = some (.int .i64 z) ∧ w5.cell? ⟨q, 1, none⟩ = some (.slice a1 m1 cc) := by
        have hqg : q ≠ g := QNE.out
        exact ⟨gr5.cell S4.1 (by intro e; simp at e; exact hqg e), gr5.cell S4.2 (by intro e; simp at e; exact hqg e)⟩
      clear own4 ap5 own5 gr5 hl1
      refine wpAnyH_ready (rs := [7]) (by kernel_rfl) (by simp) (AllReadyH.cons rfl (fun K hK => ?_) AllReadyH.nil)
      simp only [List.getElem_toArray, List.getElem_cons_zero, List.getElem_cons_succ]
      rw [if_pos (by rfl)]
      go_simp
      rw [← hw4]
      refine hK.out _ _ S4 (fun hS_ => ?_)
      clear hK K hw4
      refine wpAnyH_ready (rs := [8]) (by kernel_rfl) (by simp) (AllReadyH.cons rfl (fun K hK => ?_) AllReadyH.nil)
      simp only [List.getElem_toArray, List.getElem_cons_zero, List.getElem_cons_succ]
      rw [if_pos (by rfl)]
      refine Lib.wp_append_run _ (.tmp 13) (.tmp 20) 43 43 (by rfl) _ _ (by rfl) (by rfl) _ _ AP5.out (hK.out _ _ S5 (fun hS_ => ?_))
      simp only [List.getElem_toArray, List.getElem_cons_zero, List.getElem_cons_succ, Act.put, List.setIfInBounds_toArray, List.set_cons_zero, List.set_cons_succ]
      clear hK K
      refine wpAnyH_take (i := 9) (v := .slice (some ⟨g5, 0, none⟩) (i + 1) cap5) rfl (by kernel_rfl) (by kernel_rfl) (by kernel_rfl) (fun _ _ _ h => h) (Or.inl ⟨by rfl, fun w hSw => by (try dsimp only at hSw); go_simp⟩) (by assumption) ?_
      simp only [List.getElem_toArray, List.getElem_cons_zero, List.getElem_cons_succ, Act.put, List.setIfInBounds_toArray, List.set_cons_zero, List.set_cons_succ]
      refine wpAnyH_done (by kernel_rfl) ?_ _
      clear hS_ S0 S3 S4 S5
      go_wp2
      go_roundw
      case rel => exact ⟨i + 1, g5, cap5, by omega, by go_num, rfl, FIN.out⟩
      case measure => simp [intOf]; omega
    · have e : i = k := by omega
      subst e
      have FIN : Hid (∃ T', lst T' = lst T ∧ T'.length = i ∧ Cp w.heap.size w wr g cap s T') := by
        obtain ⟨T1, h1, h2, h4⟩ := HI.out
        exact ⟨T1, by rw [h1, List.take_of_length_le (by rw [HK.out]; exact Nat.le_refl _)], h2, h4⟩
      clear HI
      go_wp2
      go_ret
      exact ⟨g, cap, rfl, FIN.out⟩
end Go.Proofs.YtokkjdgfhpocdaaDoor
