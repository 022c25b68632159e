/- The document's acceptor: Prepare, Accept. -/
import Derived.Test.YtdfnjcjpblkmcaaDoorAj
namespace Go.Proofs.YtdfnjcjpblkmcaaDoor
open Go.ChangeShapes Go.WideShapes Go.ChangeAt Go.RowKit
set_option maxRecDepth 20000
set_option linter.unusedVariables false
set_option linter.unusedSimpArgs false
def prV (s : As) (r n : Int) (a : Option Addr) (m c : Nat) : Value := if prk s r n = 0 then .slice a m c else .slice none 0 0
set_option maxHeartbeats 2000000 in
theorem refprep_n {w : World} {G g : Nat} {s : As} {a : Option Addr} {m c : Nat} {X : List Cx} (hA : Hid (Acc w 37 G g s a m c X)) (r n : Int) :
    Calls Tryd.prog 25 #[.pointer (some ⟨g, 0, none⟩), bal r n] w fun e w' => e = .returned (.tuple #[bal (prA s r n).1 (prA s r n).2, prV s r n a m c, .int .i64 (prk s r n : Nat)]) ∧ Hid (Acc w' 37 G g (prS s r n) a m c X ∧ Ch w w' (fun q => q = g)) := by
  obtain ⟨gb, Hgb⟩ : ∃ gb, Hid (w.heap.size = gb) := ⟨_, rfl⟩
  obtain ⟨gr, Hgr⟩ : ∃ gr, Hid (w.heap.size + 1 = gr) := ⟨_, rfl⟩
  have gg : Hid (gr = gb + 1) := by show _ = _; rw [← Hgr.out, ← Hgb.out]
  obtain ⟨w0, Hw0⟩ : ∃ w0, Hid ((w.alloc (.cells #[.int .i64 r, .int .i64 n] 34)).alloc (.cells #[.int .i64 0, .int .i64 0] 34) = w0) := ⟨_, rfl⟩
  have L0 : Hid (Below w.heap.size w w0) := by rw [← Hw0.out]; exact alloc2 w _ _
  have b0 : w0.cell? ⟨gb, 0, none⟩ = some (.int .i64 r) := by rw [← Hw0.out, ← Hgb.out]; simp
  have b1 : w0.cell? ⟨gb, 1, none⟩ = some (.int .i64 n) := by rw [← Hw0.out, ← Hgb.out]; simp
  have kr : Hid (w0.heap[gr]? = some (.cells #[.int .i64 0, .int .i64 0] 34 (0, 0))) := by show _ = _; rw [← Hw0.out, ← Hgr.out]; have h := heap_alloc_new (w.alloc (.cells #[.int .i64 r, .int .i64 n] 34)) (.cells #[.int .i64 0, .int .i64 0] 34); simpa using h
  have A0 : Hid (Acc w0 37 G g s a m c X) := hA.out.below L0.out
  have NE : Hid (g < gb) := by have := hA.out.glt; have := Hgb.out; show g < gb; omega
  have P0 : Hid (Pq w0 g gb s.pR s.pN r n) := ⟨A0.out.c1, A0.out.c2, b0, b1⟩
  by_cases hl : lgl r n = true
  · have HL : Hid (lgl r n = true) := hl
    by_cases ha : abv s.pR s.pN r n = true
    · have EA : Hid (abv s.pR s.pN r n = true) := ha
      have hk : prk s r n = 12 := prk_low hl ha
      have PA : Hid (prA s r n = (0, 0)) := by show _ = _; simp [prA, hk]
      have PV : Hid (prV s r n a m c = .slice none 0 0) := by show _ = _; simp [prV, hk]
      have PS : Hid (prS s r n = s) := prS_no (by rw [hk]; decide)
      rw [PA.out, PV.out, PS.out, hk]
      clear hl ha hk
      go_enter Tryd.func25, Tryd.ntmps25
      go_upto_region 1 with (fail)
      rw [Hgr.out, Hw0.out, Hgb.out]
      go_upto_region 3 with (go_at_call 23; refine (legal_n r n _).mono ?_; rintro e w1 ⟨rfl, H1⟩; rw [HL.out])
      have P1 : Pq w1.drew g gb s.pR s.pN r n := (P0.out.below H1.out).below (Below.refl _ _).drew
      have B1 : Hid (Below w.heap.size w w1.drew) := (L0.out.trans (H1.out.mono L0.out.size)).drew
      refine wp_region_till (S := fun L W => Pq W g gb s.pR s.pN r n) (by kernel_rfl) P1 (fun hS => ?_)
      refine till_take (i := 0) (v := .pointer (some ⟨g, 0, none⟩)) rfl (by kernel_rfl) (by kernel_rfl) (by kernel_rfl) (fun _ _ _ h => h) (fun L w => Iff.rfl) (Or.inl ⟨by rfl, fun w => by go_simp⟩) hS (fun hSb => ?_)
      simp only [List.getElem_toArray, List.getElem_cons_zero, List.getElem_cons_succ, Act.put, List.setIfInBounds_toArray, List.set_cons_zero, List.set_cons_succ]
      clear hS
      refine till_take (i := 1) (v := .pointer (some ⟨g, 0, none⟩)) rfl (by kernel_rfl) (by kernel_rfl) (by kernel_rfl) (fun _ _ _ h => h) (fun L w => Iff.rfl) (Or.inl ⟨by rfl, fun w => by go_simp⟩) hSb (fun hS => ?_)
      simp only [List.getElem_toArray, List.getElem_cons_zero, List.getElem_cons_succ, Act.put, List.setIfInBounds_toArray, List.set_cons_zero, List.set_cons_succ]
      clear hSb
      refine till_take (i := 2) (v := .pointer (some ⟨g, 1, none⟩)) rfl (by kernel_rfl) (by kernel_rfl) (by kernel_rfl) (fun _ _ _ h => h) (fun L w => Iff.rfl) (Or.inl ⟨by rfl, fun w => by go_simp⟩) hS (fun hSb => ?_)
      simp only [List.getElem_toArray, List.getElem_cons_zero, List.getElem_cons_succ, Act.put, List.setIfInBounds_toArray, List.set_cons_zero, List.set_cons_succ]
      clear hS
      refine till_read (i := 3) (c := 5) (v := bal s.pR s.pN) (T := fun W => Pq W g gb s.pR s.pN r n) rfl rfl (by kernel_rfl) (by kernel_rfl) (by kernel_rfl) (by kernel_rfl) (by kernel_rfl) (fun _ _ _ h => h) (fun L w => Iff.rfl) (fun L w h1 h2 => h2) (Or.inl ⟨by rfl, fun w h => by have q1 := h.c1; have q2 := h.c2; go_simp⟩) hSb (fun hS => ?_)
      simp only [List.getElem_toArray, List.getElem_cons_zero, List.getElem_cons_succ, Act.put, List.setIfInBounds_toArray, List.set_cons_zero, List.set_cons_succ]
      clear hSb
      refine till_read (i := 4) (c := 5) (v := bal r n) (T := fun W => Pq W g gb s.pR s.pN r n) rfl rfl (by kernel_rfl) (by kernel_rfl) (by kernel_rfl) (by kernel_rfl) (by kernel_rfl) (fun _ _ _ h => h) (fun L w => Iff.rfl) (fun L w h1 h2 => h2) (Or.inl ⟨by rfl, fun w h => by have q1 := h.b0; have q2 := h.b1; go_simp⟩) hS (fun hSb => ?_)
      simp only [List.getElem_toArray, List.getElem_cons_zero, List.getElem_cons_succ, Act.put, List.setIfInBounds_toArray, List.set_cons_zero, List.set_cons_succ]
      clear hS
      refine till_one (i := 5) (by kernel_rfl) rfl (fun K hK => ?_)
      simp only [List.getElem_toArray, List.getElem_cons_zero, List.getElem_cons_succ]
      rw [if_pos (by rfl)]
      go_simp
      go_wp2_with (go_at_call 12; refine (refAbove_n s.pR s.pN r n _).mono ?_; rintro e w2 ⟨rfl, H2⟩; rw [EA.out])
      have Z2 : Pq w2 g gb s.pR s.pN r n := hSb.below H2.out
      refine hK.out _ _ (Z2) (fun hS => ?_)
      clear hK K
      try simp only [List.getElem_toArray, List.getElem_cons_zero, List.getElem_cons_succ, Act.put, List.setIfInBounds_toArray, List.set_cons_zero, List.set_cons_succ]
      clear hSb
      refine till_done (by kernel_rfl) ?_ _
      clear hS
      have BL : Hid (Below w.heap.size w w2) := B1.out.trans (H2.out.mono B1.out.size)
      have KL : Hid (w2.heap[gr]? = some (.cells #[.int .i64 0, .int .i64 0] 34 (0, 0))) := (H2.out.block gr (Nat.lt_of_lt_of_le (Array.getElem?_eq_some_iff.1 kr.out).1 H1.out.size)).trans ((H1.out.block gr (Array.getElem?_eq_some_iff.1 kr.out).1).trans kr.out)
      have x0 : w2.cell? ⟨gr, 0, none⟩ = some (.int .i64 0) := by simp [World.cell?, KL.out]
      have x1 : w2.cell? ⟨gr, 1, none⟩ = some (.int .i64 0) := by simp [World.cell?, KL.out]
      have fz : ∀ i, w2.frozen? ⟨gr, i, none⟩ = false := fun i => by simp [World.frozen?, KL.out]
      go_wp2
      obtain ⟨V, HV⟩ : ∃ V, Hid ((w2.setCell ⟨gr, 0, none⟩ (.int .i64 0)).setCell ⟨gr, 1, none⟩ (.int .i64 0) = V) := ⟨_, rfl⟩
      have V0 : V.heap[gr]? = some (.cells #[.int .i64 0, .int .i64 0] 34 (0, 0)) := by rw [← HV.out, set_blk (set_blk KL.out 0 _) 1 _]; rfl
      have v0 : V.cell? ⟨gr, 0, none⟩ = some (.int .i64 0) := by simp [World.cell?, V0]
      have v1 : V.cell? ⟨gr, 1, none⟩ = some (.int .i64 0) := by simp [World.cell?, V0]
      have CV : Ch w2 V (fun q => q = gr) := by rw [← HV.out]; exact (Ch.set _ gr 0 _).trans (Ch.set _ gr 1 _)
      have FIN : Hid (Acc V 37 G g s a m c X ∧ Ch w V (fun q => q = g)) := by
        have B : Below w.heap.size w V := BL.out.trans (CV.toBelow BL.out.size (fun k hk e => by have := Hgb.out; have := gg.out; omega))
        exact ⟨hA.out.below B, Ch.below B⟩
      rw [HV.out]
      clear CV V0 x0 x1 fz KL HV b0 b1
      refine bodyPost_ret (v := .tuple #[bal 0 0, .slice none 0 0, .int .i64 12]) (by simp [results, Tryd.results25, go_sem, v0, v1]) rfl ⟨rfl, FIN.out⟩
    · have ha' : abv s.pR s.pN r n = false := by simpa using ha
      have EA : Hid (abv s.pR s.pN r n = false) := ha'
      have hk : prk s r n = 0 := prk_ok hl ha'
      have PA : Hid (prA s r n = (s.aR, s.aN)) := by show _ = _; simp [prA, hk]
      have PV : Hid (prV s r n a m c = .slice a m c) := by show _ = _; simp [prV, hk]
      have PS : Hid (prS s r n = { s with pR := r, pN := n }) := prS_ok hk
      rw [PA.out, PV.out, PS.out, hk]
      clear hl ha hk ha'
      go_enter Tryd.func25, Tryd.ntmps25
      go_upto_region 1 with (fail)
      rw [Hgr.out, Hw0.out, Hgb.out]
      go_upto_region 3 with (go_at_call 23; refine (legal_n r n _).mono ?_; rintro e w1 ⟨rfl, H1⟩; rw [HL.out])
      have P1 : Pq w1.drew g gb s.pR s.pN r n := (P0.out.below H1.out).below (Below.refl _ _).drew
      have B1 : Hid (Below w.heap.size w w1.drew) := (L0.out.trans (H1.out.mono L0.out.size)).drew
      refine wp_region_till (S := fun L W => Pq W g gb s.pR s.pN r n) (by kernel_rfl) P1 (fun hS => ?_)
      refine till_take (i := 0) (v := .pointer (some ⟨g, 0, none⟩)) rfl (by kernel_rfl) (by kernel_rfl) (by kernel_rfl) (fun _ _ _ h => h) (fun L w => Iff.rfl) (Or.inl ⟨by rfl, fun w => by go_simp⟩) hS (fun hSb => ?_)
      simp only [List.getElem_toArray, List.getElem_cons_zero, List.getElem_cons_succ, Act.put, List.setIfInBounds_toArray, List.set_cons_zero, List.set_cons_succ]
      clear hS
      refine till_take (i := 1) (v := .pointer (some ⟨g, 0, none⟩)) rfl (by kernel_rfl) (by kernel_rfl) (by kernel_rfl) (fun _ _ _ h => h) (fun L w => Iff.rfl) (Or.inl ⟨by rfl, fun w => by go_simp⟩) hSb (fun hS => ?_)
      simp only [List.getElem_toArray, List.getElem_cons_zero, List.getElem_cons_succ, Act.put, List.setIfInBounds_toArray, List.set_cons_zero, List.set_cons_succ]
      clear hSb
      refine till_take (i := 2) (v := .pointer (some ⟨g, 1, none⟩)) rfl (by kernel_rfl) (by kernel_rfl) (by kernel_rfl) (fun _ _ _ h => h) (fun L w => Iff.rfl) (Or.inl ⟨by rfl, fun w => by go_simp⟩) hS (fun hSb => ?_)
      simp only [List.getElem_toArray, List.getElem_cons_zero, List.getElem_cons_succ, Act.put, List.setIfInBounds_toArray, List.set_cons_zero, List.set_cons_succ]
      clear hS
      refine till_read (i := 3) (c := 5) (v := bal s.pR s.pN) (T := fun W => Pq W g gb s.pR s.pN r n) rfl rfl (by kernel_rfl) (by kernel_rfl) (by kernel_rfl) (by kernel_rfl) (by kernel_rfl) (fun _ _ _ h => h) (fun L w => Iff.rfl) (fun L w h1 h2 => h2) (Or.inl ⟨by rfl, fun w h => by have q1 := h.c1; have q2 := h.c2; go_simp⟩) hSb (fun hS => ?_)
      simp only [List.getElem_toArray, List.getElem_cons_zero, List.getElem_cons_succ, Act.put, List.setIfInBounds_toArray, List.set_cons_zero, List.set_cons_succ]
      clear hSb
      refine till_read (i := 4) (c := 5) (v := bal r n) (T := fun W => Pq W g gb s.pR s.pN r n) rfl rfl (by kernel_rfl) (by kernel_rfl) (by kernel_rfl) (by kernel_rfl) (by kernel_rfl) (fun _ _ _ h => h) (fun L w => Iff.rfl) (fun L w h1 h2 => h2) (Or.inl ⟨by rfl, fun w h => by have q1 := h.b0; have q2 := h.b1; go_simp⟩) hS (fun hSb => ?_)
      simp only [List.getElem_toArray, List.getElem_cons_zero, List.getElem_cons_succ, Act.put, List.setIfInBounds_toArray, List.set_cons_zero, List.set_cons_succ]
      clear hS
      refine till_one (i := 5) (by kernel_rfl) rfl (fun K hK => ?_)
      simp only [List.getElem_toArray, List.getElem_cons_zero, List.getElem_cons_succ]
      rw [if_pos (by rfl)]
      go_simp
      go_wp2_with (go_at_call 12; refine (refAbove_n s.pR s.pN r n _).mono ?_; rintro e w2 ⟨rfl, H2⟩; rw [EA.out])
      have Z2 : Pq w2 g gb s.pR s.pN r n := hSb.below H2.out
      refine hK.out _ _ (Z2) (fun hS => ?_)
      clear hK K
      try simp only [List.getElem_toArray, List.getElem_cons_zero, List.getElem_cons_succ, Act.put, List.setIfInBounds_toArray, List.set_cons_zero, List.set_cons_succ]
      clear hSb
      refine till_done (by kernel_rfl) ?_ _
      clear hS
      have BL : Hid (Below w.heap.size w w2) := B1.out.trans (H2.out.mono B1.out.size)
      have KL : Hid (w2.heap[gr]? = some (.cells #[.int .i64 0, .int .i64 0] 34 (0, 0))) := (H2.out.block gr (Nat.lt_of_lt_of_le (Array.getElem?_eq_some_iff.1 kr.out).1 H1.out.size)).trans ((H1.out.block gr (Array.getElem?_eq_some_iff.1 kr.out).1).trans kr.out)
      have A2 := hA.out.below BL.out
      have x1 := Z2.c1
      have x2 := Z2.c2
      have y0 := Z2.b0
      have y1 := Z2.b1
      have f1 := A2.fz
      have HA2 : Hid (Acc w2 37 G g s a m c X) := A2
      clear A2 Z2
      go_upto_region 6 with (fail)
      obtain ⟨w3, Hw3⟩ : ∃ w3, Hid (((w2.setCell ⟨g, 1, none⟩ (.int .i64 r)).setCell ⟨g, 2, none⟩ (.int .i64 n)).drew = w3) := ⟨_, rfl⟩
      have C3 : Ch w2 w3 (fun q => q = g) := by rw [← Hw3.out]; exact ((Ch.set w2 g 1 _).trans (Ch.set _ g 2 _)).trans (Ch.drew _ _)
      have k3 : w3.heap[g]? = some (.cells (accA { s with pR := r, pN := n } a m c) 37 (0, 0)) := by
        rw [← Hw3.out]
        show ((w2.setCell ⟨g, 1, none⟩ (.int .i64 r)).setCell ⟨g, 2, none⟩ (.int .i64 n)).heap[g]? = _
        rw [set_blk (set_blk HA2.out.blk 1 _) 2 _]
        rfl
      have A3 : Acc w3 37 G g { s with pR := r, pN := n } a m c X := HA2.out.put k3 (HA2.out.cms.ch C3 (fun q h1 _ e => by have := HA2.out.lt; omega)) HA2.out.z HA2.out.e
      have gne : g ≠ gr := by have := NE.out; have := gg.out; omega
      have kr3 : w3.heap[gr]? = some (.cells #[.int .i64 0, .int .i64 0] 34 (0, 0)) := (C3.block gr (Array.getElem?_eq_some_iff.1 KL.out).1 (Ne.symm gne)).trans KL.out
      have Q3 : Aq w3 g gr s.aR s.aN a m c := ⟨A3.c3, A3.c4, A3.c5⟩
      obtain ⟨V, HV⟩ : ∃ V, Hid ((w3.setCell ⟨gr, 0, none⟩ (.int .i64 s.aR)).setCell ⟨gr, 1, none⟩ (.int .i64 s.aN) = V) := ⟨_, rfl⟩
      have V0 : V.heap[gr]? = some (.cells #[.int .i64 s.aR, .int .i64 s.aN] 34 (0, 0)) := by rw [← HV.out, set_blk (set_blk kr3 0 _) 1 _]; rfl
      have CV : Ch w3 V (fun q => q = gr) := by rw [← HV.out]; exact (Ch.set _ gr 0 _).trans (Ch.set _ gr 1 _)
      have QV : Aq V g gr s.aR s.aN a m c := Q3.ch CV gne
      have v0 : V.cell? ⟨gr, 0, none⟩ = some (.int .i64 s.aR) := by simp [World.cell?, V0]
      have v1 : V.cell? ⟨gr, 1, none⟩ = some (.int .i64 s.aN) := by simp [World.cell?, V0]
      have FIN : Hid (Acc V 37 G g { s with pR := r, pN := n } a m c X ∧ Ch w V (fun q => q = g)) := by
        have C4 : Ch w V (fun q => q = g) := ((Ch.below BL.out).trans C3).then CV (fun q _ h => h) (fun q hq e => by have := Hgb.out; have := gg.out; omega)
        exact ⟨⟨(CV.block g A3.glt gne).trans A3.blk, hA.out.cms.ch C4 (fun q h1 _ e => by have := hA.out.lt; omega), hA.out.z, hA.out.e, hA.out.lt⟩, C4⟩
      have z0 : w3.cell? ⟨gr, 0, none⟩ = some (.int .i64 0) := by simp [World.cell?, kr3]
      have z1 : w3.cell? ⟨gr, 1, none⟩ = some (.int .i64 0) := by simp [World.cell?, kr3]
      have fz : ∀ i, w3.frozen? ⟨gr, i, none⟩ = false := fun i => by simp [World.frozen?, kr3]
      refine wp_region_till (S := fun L W => Aq W g gr s.aR s.aN a m c) (by kernel_rfl) (by rw [Hw3.out]; exact Q3) (fun hS => ?_)
      rw [Hw3.out] at hS ⊢
      clear x1 x2 y0 y1 f1 C3 k3 A3 kr3 Q3 V0 CV b0 b1
      refine till_take (i := 0) (v := .pointer (some ⟨g, 0, none⟩)) rfl (by kernel_rfl) (by kernel_rfl) (by kernel_rfl) (fun _ _ _ h => h) (fun L w => Iff.rfl) (Or.inl ⟨by rfl, fun w => by go_simp⟩) hS (fun hSb => ?_)
      simp only [List.getElem_toArray, List.getElem_cons_zero, List.getElem_cons_succ, Act.put, List.setIfInBounds_toArray, List.set_cons_zero, List.set_cons_succ]
      clear hS
      refine till_take (i := 1) (v := .pointer (some ⟨g, 0, none⟩)) rfl (by kernel_rfl) (by kernel_rfl) (by kernel_rfl) (fun _ _ _ h => h) (fun L w => Iff.rfl) (Or.inl ⟨by rfl, fun w => by go_simp⟩) hSb (fun hS => ?_)
      simp only [List.getElem_toArray, List.getElem_cons_zero, List.getElem_cons_succ, Act.put, List.setIfInBounds_toArray, List.set_cons_zero, List.set_cons_succ]
      clear hSb
      refine till_take (i := 2) (v := .pointer (some ⟨g, 3, none⟩)) rfl (by kernel_rfl) (by kernel_rfl) (by kernel_rfl) (fun _ _ _ h => h) (fun L w => Iff.rfl) (Or.inl ⟨by rfl, fun w => by go_simp⟩) hS (fun hSb => ?_)
      simp only [List.getElem_toArray, List.getElem_cons_zero, List.getElem_cons_succ, Act.put, List.setIfInBounds_toArray, List.set_cons_zero, List.set_cons_succ]
      clear hS
      refine till_read (i := 3) (c := 8) (v := bal s.aR s.aN) (T := fun W => Aq W g gr s.aR s.aN a m c) rfl rfl (by kernel_rfl) (by kernel_rfl) (by kernel_rfl) (by kernel_rfl) (by kernel_rfl) (fun _ _ _ h => h) (fun L w => Iff.rfl) (fun L w h1 h2 => h2) (Or.inl ⟨by rfl, fun w h => by have q1 := h.c3; have q2 := h.c4; go_simp⟩) hSb (fun hS => ?_)
      simp only [List.getElem_toArray, List.getElem_cons_zero, List.getElem_cons_succ, Act.put, List.setIfInBounds_toArray, List.set_cons_zero, List.set_cons_succ]
      clear hSb
      refine till_take (i := 4) (v := .pointer (some ⟨g, 0, none⟩)) rfl (by kernel_rfl) (by kernel_rfl) (by kernel_rfl) (fun _ _ _ h => h) (fun L w => Iff.rfl) (Or.inl ⟨by rfl, fun w => by go_simp⟩) hS (fun hSb => ?_)
      simp only [List.getElem_toArray, List.getElem_cons_zero, List.getElem_cons_succ, Act.put, List.setIfInBounds_toArray, List.set_cons_zero, List.set_cons_succ]
      clear hS
      refine till_take (i := 5) (v := .pointer (some ⟨g, 0, none⟩)) rfl (by kernel_rfl) (by kernel_rfl) (by kernel_rfl) (fun _ _ _ h => h) (fun L w => Iff.rfl) (Or.inl ⟨by rfl, fun w => by go_simp⟩) hSb (fun hS => ?_)
      simp only [List.getElem_toArray, List.getElem_cons_zero, List.getElem_cons_succ, Act.put, List.setIfInBounds_toArray, List.set_cons_zero, List.set_cons_succ]
      clear hSb
      refine till_take (i := 6) (v := .pointer (some ⟨g, 5, none⟩)) rfl (by kernel_rfl) (by kernel_rfl) (by kernel_rfl) (fun _ _ _ h => h) (fun L w => Iff.rfl) (Or.inl ⟨by rfl, fun w => by go_simp⟩) hS (fun hSb => ?_)
      simp only [List.getElem_toArray, List.getElem_cons_zero, List.getElem_cons_succ, Act.put, List.setIfInBounds_toArray, List.set_cons_zero, List.set_cons_succ]
      clear hS
      refine till_read (i := 7) (c := 9) (v := .slice a m c) (T := fun W => Aq W g gr s.aR s.aN a m c) rfl rfl (by kernel_rfl) (by kernel_rfl) (by kernel_rfl) (by kernel_rfl) (by kernel_rfl) (fun _ _ _ h => h) (fun L w => Iff.rfl) (fun L w h1 h2 => h2) (Or.inl ⟨by rfl, fun w h => by have q1 := h.c5; go_simp⟩) hSb (fun hS => ?_)
      simp only [List.getElem_toArray, List.getElem_cons_zero, List.getElem_cons_succ, Act.put, List.setIfInBounds_toArray, List.set_cons_zero, List.set_cons_succ]
      clear hSb
      refine till_one (i := 8) (by kernel_rfl) rfl (fun K hK => ?_)
      simp only [List.getElem_toArray, List.getElem_cons_zero, List.getElem_cons_succ]
      rw [if_pos (by rfl)]
      go_simp
      rw [HV.out]
      refine hK.out _ _ (QV) (fun hSb => ?_)
      clear hK K
      try simp only [List.getElem_toArray, List.getElem_cons_zero, List.getElem_cons_succ, Act.put, List.setIfInBounds_toArray, List.set_cons_zero, List.set_cons_succ]
      clear hS
      refine till_one (i := 9) (by kernel_rfl) rfl (fun K hK => ?_)
      simp only [List.getElem_toArray, List.getElem_cons_zero, List.getElem_cons_succ]
      rw [if_pos (by rfl)]
      go_simp
      refine hK.out _ _ (hSb) (fun hS => ?_)
      clear hK K
      try simp only [List.getElem_toArray, List.getElem_cons_zero, List.getElem_cons_succ, Act.put, List.setIfInBounds_toArray, List.set_cons_zero, List.set_cons_succ]
      clear hSb
      refine till_one (i := 10) (by kernel_rfl) rfl (fun K hK => ?_)
      simp only [List.getElem_toArray, List.getElem_cons_zero, List.getElem_cons_succ]
      rw [if_pos (by rfl)]
      go_simp
      refine hK.out _ _ (hS) (fun hSb => ?_)
      clear hK K
      try simp only [List.getElem_toArray, List.getElem_cons_zero, List.getElem_cons_succ, Act.put, List.setIfInBounds_toArray, List.set_cons_zero, List.set_cons_succ]
      clear hS
      refine till_done (by kernel_rfl) ?_ _
      clear hSb
      clear z0 z1 fz QV HV
      go_wp2
      refine bodyPost_ret (v := .tuple #[bal s.aR s.aN, .slice a m c, .int .i64 0]) (by simp [results, Tryd.results25, go_sem, v0, v1]) rfl ⟨rfl, FIN.out⟩
  · have HL : Hid (lgl r n = false) := by show _ = _; simpa using hl
    have hk : prk s r n = 2 := prk_no HL.out
    have PA : Hid (prA s r n = (0, 0)) := by show _ = _; simp [prA, hk]
    have PV : Hid (prV s r n a m c = .slice none 0 0) := by show _ = _; simp [prV, hk]
    have PS : Hid (prS s r n = s) := prS_no (by rw [hk]; decide)
    rw [PA.out, PV.out, PS.out, hk]
    clear hl hk
    go_enter Tryd.func25, Tryd.ntmps25
    go_upto_region 1 with (fail)
    rw [Hgr.out, Hw0.out, Hgb.out]
    go_wp2_with (go_at_call 23; refine (legal_n r n _).mono ?_; rintro e w1 ⟨rfl, H1⟩; rw [HL.out]
                 have BL : Hid (Below w.heap.size w w1) := L0.out.trans (H1.out.mono L0.out.size)
                 have KL : Hid (w1.heap[gr]? = some (.cells #[.int .i64 0, .int .i64 0] 34 (0, 0))) := (H1.out.block gr (Array.getElem?_eq_some_iff.1 kr.out).1).trans kr.out
                 have x0 : w1.cell? ⟨gr, 0, none⟩ = some (.int .i64 0) := by simp [World.cell?, KL.out]
                 have x1 : w1.cell? ⟨gr, 1, none⟩ = some (.int .i64 0) := by simp [World.cell?, KL.out]
                 have fz : ∀ i, w1.frozen? ⟨gr, i, none⟩ = false := fun i => by simp [World.frozen?, KL.out])
    obtain ⟨V, HV⟩ : ∃ V, Hid ((w1.setCell ⟨gr, 0, none⟩ (.int .i64 0)).setCell ⟨gr, 1, none⟩ (.int .i64 0) = V) := ⟨_, rfl⟩
    have V0 : V.heap[gr]? = some (.cells #[.int .i64 0, .int .i64 0] 34 (0, 0)) := by rw [← HV.out, set_blk (set_blk KL.out 0 _) 1 _]; rfl
    have v0 : V.cell? ⟨gr, 0, none⟩ = some (.int .i64 0) := by simp [World.cell?, V0]
    have v1 : V.cell? ⟨gr, 1, none⟩ = some (.int .i64 0) := by simp [World.cell?, V0]
    have CV : Ch w1 V (fun q => q = gr) := by rw [← HV.out]; exact (Ch.set _ gr 0 _).trans (Ch.set _ gr 1 _)
    have FIN : Hid (Acc V 37 G g s a m c X ∧ Ch w V (fun q => q = g)) := by
      have B : Below w.heap.size w V := BL.out.trans (CV.toBelow BL.out.size (fun k hk e => by have := Hgb.out; have := gg.out; omega))
      exact ⟨hA.out.below B, Ch.below B⟩
    rw [HV.out]
    clear CV V0 x0 x1 fz KL HV b0 b1
    refine bodyPost_ret (v := .tuple #[bal 0 0, .slice none 0 0, .int .i64 2]) (by simp [results, Tryd.results25, go_sem, v0, v1]) rfl ⟨rfl, FIN.out⟩
set_option maxHeartbeats 2000000 in
theorem refacc_n {w : World} {G g lo : Nat} {s : As} {a : Option Addr} {m c : Nat} {X : List Cx} {al : Option Addr} {nl cl : Nat} {XL : List Cx} (hA : Hid (Acc w 37 G g s a m c X)) (r n : Int) (hL : Hid (Cms w lo al nl XL)) (HZ : Hid (al = none → cl = 0)) (hG : Hid (G ≤ w.heap.size)) (hlo : Hid (∀ q, fpc al nl XL q → q ≠ g)) :
    Calls Tryd.prog 28 #[.pointer (some ⟨g, 0, none⟩), bal r n, .slice al nl cl] w fun e w' => e = .returned (.int .i64 (prk s r n : Nat)) ∧ Hid (∃ a' m' c' X', Acc w' 37 G g (acS s r n (led XL)) a' m' c' X' ∧ (∀ q, fpc a' m' X' q → fpc a m X q ∨ w.heap.size ≤ q) ∧ Ch w w' (fun q => q = g)) := by
  obtain ⟨gb, Hgb⟩ : ∃ gb, Hid (w.heap.size = gb) := ⟨_, rfl⟩
  obtain ⟨w0, Hw0⟩ : ∃ w0, Hid (w.alloc (.cells #[.int .i64 r, .int .i64 n] 34) = w0) := ⟨_, rfl⟩
  have L0 : Hid (Below w.heap.size w w0) := by rw [← Hw0.out]; exact alloc1 w _
  have b0 : w0.cell? ⟨gb, 0, none⟩ = some (.int .i64 r) := by rw [← Hw0.out, ← Hgb.out]; simp
  have b1 : w0.cell? ⟨gb, 1, none⟩ = some (.int .i64 n) := by rw [← Hw0.out, ← Hgb.out]; simp
  have A0 : Hid (Acc w0 37 G g s a m c X) := hA.out.below L0.out
  have lg : g < gb := by have := hA.out.glt; have := Hgb.out; omega
  have NE : Hid (gb ≠ g) := by show gb ≠ g; omega
  have Q0 : Hid (Bq w0 gb r n) := ⟨b0, b1⟩
  obtain ⟨pp, qq, Hpq⟩ : ∃ pp qq, Hid (prA s r n = (pp, qq)) := ⟨_, _, rfl⟩
  obtain ⟨ta, tm, tc, HV⟩ : ∃ ta tm tc, Hid (prV s r n a m c = .slice ta tm tc) := by
    unfold prV
    split
    · exact ⟨_, _, _, rfl⟩
    · exact ⟨_, _, _, rfl⟩
  by_cases hk : prk s r n = 0
  · have AS : Hid (acS s r n (led XL) = { s with pR := r, pN := n, aR := r, aN := n, L := led XL }) := by show _ = _; simp [acS, hk]
    have PS : Hid (prS s r n = { s with pR := r, pN := n }) := prS_ok hk
    have HK : Hid (prk s r n = 0) := hk
    rw [HK.out, AS.out]
    clear hk
    go_enter Tryd.func28, Tryd.ntmps28
    go_upto_region 1 with (fail)
    rw [Hw0.out, Hgb.out]
    go_upto_region 3 with (go_at_call 25; refine (refprep_n A0 r n).mono ?_; rintro e w1 ⟨rfl, H1⟩; rw [HK.out, Hpq.out, HV.out])
    obtain ⟨w2, Hw2⟩ : ∃ w2, Hid ((w1.alloc (.cells #[.int .i64 pp, .int .i64 qq] 34)).drew = w2) := ⟨_, rfl⟩
    have B12 : Below w1.heap.size w1 w2 := by rw [← Hw2.out]; exact (alloc1 _ _).drew
    have C2 : Hid (Ch w w2 (fun q => q = g)) := ((Ch.below L0.out).trans H1.out.2).trans (Ch.below B12)
    have A2 : Hid (Acc w2 37 G g { s with pR := r, pN := n } a m c X) := by
      rw [← PS.out]
      exact H1.out.1.below B12
    have CL : Hid (Cms w2 lo al nl XL) := hL.out.keepF C2.out.size (fun q hq => C2.out.block q (hL.out.fp_lt hq).2 (hlo.out q hq))
    have Q2 : Bq w2 gb r n := (Q0.out.ch H1.out.2 NE.out).below B12
    clear b0 b1 H1 B12
    refine wp_region_till (S := fun L W => Bq W gb r n) (by kernel_rfl) (by rw [Hw2.out]; exact Q2) (fun hS => ?_)
    rw [Hw2.out] at hS ⊢
    clear Q2
    refine till_take (i := 0) (v := .pointer (some ⟨g, 0, none⟩)) rfl (by kernel_rfl) (by kernel_rfl) (by kernel_rfl) (fun _ _ _ h => h) (fun L w => Iff.rfl) (Or.inl ⟨by rfl, fun w => by go_simp⟩) hS (fun hSb => ?_)
    simp only [List.getElem_toArray, List.getElem_cons_zero, List.getElem_cons_succ, Act.put, List.setIfInBounds_toArray, List.set_cons_zero, List.set_cons_succ]
    clear hS
    refine till_take (i := 1) (v := .pointer (some ⟨g, 0, none⟩)) rfl (by kernel_rfl) (by kernel_rfl) (by kernel_rfl) (fun _ _ _ h => h) (fun L w => Iff.rfl) (Or.inl ⟨by rfl, fun w => by go_simp⟩) hSb (fun hS => ?_)
    simp only [List.getElem_toArray, List.getElem_cons_zero, List.getElem_cons_succ, Act.put, List.setIfInBounds_toArray, List.set_cons_zero, List.set_cons_succ]
    clear hSb
    refine till_read (i := 2) (c := 7) (v := bal r n) (T := fun W => Bq W gb r n) rfl rfl (by kernel_rfl) (by kernel_rfl) (by kernel_rfl) (by kernel_rfl) (by kernel_rfl) (fun _ _ _ h => h) (fun L w => Iff.rfl) (fun L w h1 h2 => h2) (Or.inl ⟨by rfl, fun w h => by have q1 := h.b0; have q2 := h.b1; go_simp⟩) hS (fun hSb => ?_)
    simp only [List.getElem_toArray, List.getElem_cons_zero, List.getElem_cons_succ, Act.put, List.setIfInBounds_toArray, List.set_cons_zero, List.set_cons_succ]
    clear hS
    refine till_take (i := 3) (v := .slice al nl cl) rfl (by kernel_rfl) (by kernel_rfl) (by kernel_rfl) (fun _ _ _ h => h) (fun L w => Iff.rfl) (Or.inl ⟨by rfl, fun w => by go_simp⟩) hSb (fun hS => ?_)
    simp only [List.getElem_toArray, List.getElem_cons_zero, List.getElem_cons_succ, Act.put, List.setIfInBounds_toArray, List.set_cons_zero, List.set_cons_succ]
    clear hSb
    refine till_one (i := 4) (by kernel_rfl) rfl (fun K hK => ?_)
    simp only [List.getElem_toArray, List.getElem_cons_zero, List.getElem_cons_succ]
    rw [if_pos (by rfl)]
    go_simp
    go_wp2_with (go_at_call 27; refine (copy_n CL HZ).mono ?_; rintro e w3 ⟨a3, c3, rfl, H3⟩)
    obtain ⟨Y, hY1, hY2, hY3⟩ := H3.out
    have A3 := A2.out.below hY3
    have Q3 : Bq w3 gb r n := hS.below hY3
    have k3 := A3.blk
    have x3 := A3.c3
    have x4 := A3.c4
    have fz := A3.fz
    have C4 : Ch w3 ((w3.setCell ⟨g, 3, none⟩ (.int .i64 r)).setCell ⟨g, 4, none⟩ (.int .i64 n)) (fun q => q = g) := (Ch.set w3 g 3 _).trans (Ch.set _ g 4 _)
    have k4 : ((w3.setCell ⟨g, 3, none⟩ (.int .i64 r)).setCell ⟨g, 4, none⟩ (.int .i64 n)).heap[g]? = some (.cells (accA { s with pR := r, pN := n, aR := r, aN := n } a m c) 37 (0, 0)) := by rw [set_blk (set_blk k3 3 _) 4 _]; rfl
    have Q4 : Bq ((w3.setCell ⟨g, 3, none⟩ (.int .i64 r)).setCell ⟨g, 4, none⟩ (.int .i64 n)) gb r n := Q3.ch C4 NE.out
    obtain ⟨W4, HW4⟩ : ∃ W4, Hid ((w3.setCell ⟨g, 3, none⟩ (.int .i64 r)).setCell ⟨g, 4, none⟩ (.int .i64 n) = W4) := ⟨_, rfl⟩
    rw [HW4.out] at C4 k4 Q4
    have x5 : W4.cell? ⟨g, 5, none⟩ = some (.slice a m c) := by simp [World.cell?, k4]
    have f5 : W4.frozen? ⟨g, 5, none⟩ = false := by simp [World.frozen?, k4]
    have Q5 : Bq (W4.setCell ⟨g, 5, none⟩ (.slice a3 nl c3)) gb r n := Q4.ch (Ch.set W4 g 5 _) NE.out
    have C5 : Hid (Ch w3 (W4.setCell ⟨g, 5, none⟩ (.slice a3 nl c3)) (fun q => q = g)) := C4.trans (Ch.set W4 g 5 _)
    have k5 : Hid ((W4.setCell ⟨g, 5, none⟩ (.slice a3 nl c3)).heap[g]? = some (.cells (accA { s with pR := r, pN := n, aR := r, aN := n, L := led XL } a3 nl c3) 37 (0, 0))) := by show _ = _; rw [set_blk k4 5 _]; rfl
    have HY1 : Hid (led Y = led XL) := hY1
    have HY2 : Hid (Oc w3 w2.heap.size a3 nl c3 Y) := hY2
    have HY3 : Hid (Below w2.heap.size w2 w3) := hY3
    clear hY1 hY2 hY3 C4 k4 k3 H3
    refine hK.out _ _ (Q3) (fun hSb => ?_)
    clear hK K
    try simp only [List.getElem_toArray, List.getElem_cons_zero, List.getElem_cons_succ, Act.put, List.setIfInBounds_toArray, List.set_cons_zero, List.set_cons_succ]
    clear hS
    refine till_take (i := 5) (v := .pointer (some ⟨g, 0, none⟩)) rfl (by kernel_rfl) (by kernel_rfl) (by kernel_rfl) (fun _ _ _ h => h) (fun L w => Iff.rfl) (Or.inl ⟨by rfl, fun w => by go_simp⟩) hSb (fun hS => ?_)
    simp only [List.getElem_toArray, List.getElem_cons_zero, List.getElem_cons_succ, Act.put, List.setIfInBounds_toArray, List.set_cons_zero, List.set_cons_succ]
    clear hSb
    refine till_take (i := 6) (v := .pointer (some ⟨g, 3, none⟩)) rfl (by kernel_rfl) (by kernel_rfl) (by kernel_rfl) (fun _ _ _ h => h) (fun L w => Iff.rfl) (Or.inl ⟨by rfl, fun w => by go_simp⟩) hS (fun hSb => ?_)
    simp only [List.getElem_toArray, List.getElem_cons_zero, List.getElem_cons_succ, Act.put, List.setIfInBounds_toArray, List.set_cons_zero, List.set_cons_succ]
    clear hS
    refine till_one (i := 7) (by kernel_rfl) rfl (fun K hK => ?_)
    simp only [List.getElem_toArray, List.getElem_cons_zero, List.getElem_cons_succ]
    rw [if_pos (by rfl)]
    go_simp
    rw [HW4.out]
    refine hK.out _ _ (Q4) (fun hS => ?_)
    clear hK K
    try simp only [List.getElem_toArray, List.getElem_cons_zero, List.getElem_cons_succ, Act.put, List.setIfInBounds_toArray, List.set_cons_zero, List.set_cons_succ]
    clear hSb
    refine till_take (i := 8) (v := .pointer (some ⟨g, 0, none⟩)) rfl (by kernel_rfl) (by kernel_rfl) (by kernel_rfl) (fun _ _ _ h => h) (fun L w => Iff.rfl) (Or.inl ⟨by rfl, fun w => by go_simp⟩) hS (fun hSb => ?_)
    simp only [List.getElem_toArray, List.getElem_cons_zero, List.getElem_cons_succ, Act.put, List.setIfInBounds_toArray, List.set_cons_zero, List.set_cons_succ]
    clear hS
    refine till_take (i := 9) (v := .pointer (some ⟨g, 5, none⟩)) rfl (by kernel_rfl) (by kernel_rfl) (by kernel_rfl) (fun _ _ _ h => h) (fun L w => Iff.rfl) (Or.inl ⟨by rfl, fun w => by go_simp⟩) hSb (fun hS => ?_)
    simp only [List.getElem_toArray, List.getElem_cons_zero, List.getElem_cons_succ, Act.put, List.setIfInBounds_toArray, List.set_cons_zero, List.set_cons_succ]
    clear hSb
    refine till_one (i := 10) (by kernel_rfl) rfl (fun K hK => ?_)
    simp only [List.getElem_toArray, List.getElem_cons_zero, List.getElem_cons_succ]
    rw [if_pos (by rfl)]
    go_simp
    refine hK.out _ _ (Q5) (fun hSb => ?_)
    clear hK K
    try simp only [List.getElem_toArray, List.getElem_cons_zero, List.getElem_cons_succ, Act.put, List.setIfInBounds_toArray, List.set_cons_zero, List.set_cons_succ]
    clear hS
    refine till_done (by kernel_rfl) ?_ _
    clear hSb
    have FIN : Hid (∃ a' m' c' X', Acc (W4.setCell ⟨g, 5, none⟩ (.slice a3 nl c3)) 37 G g { s with pR := r, pN := n, aR := r, aN := n, L := led XL } a' m' c' X' ∧ (∀ q, fpc a' m' X' q → fpc a m X q ∨ w.heap.size ≤ q) ∧ Ch w (W4.setCell ⟨g, 5, none⟩ (.slice a3 nl c3)) (fun q => q = g)) := by
      have lo2 : G ≤ w2.heap.size := Nat.le_trans hG.out C2.out.size
      have cm5 := (HY2.out.cms.ch C5.out (fun q h1 _ e => by have := hA.out.lt; omega))
      refine ⟨a3, nl, c3, Y, ⟨k5.out, cm5.mono lo2, HY2.out.cap0, HY1.out, hA.out.lt⟩, fun q hq => .inr ?_, (C2.out.trans (Ch.below HY3.out)).trans C5.out⟩
      exact Nat.le_trans C2.out.size (cm5.fp_lt hq).1
    clear C5 k5 HY1 HY2 HY3 C2 CL A2 A3 x3 x4 fz x5 f5 Q3 Q4 Q5 HW4
    go_wp2
    go_ret
    exact ⟨rfl, FIN.out⟩
  · have AS : Hid (acS s r n (led XL) = s) := by show _ = _; simp [acS, hk]
    have PS : Hid (prS s r n = s) := prS_no hk
    rw [AS.out]
    obtain ⟨kk, Hkk⟩ : ∃ kk : Nat, Hid (prk s r n = kk) := ⟨_, rfl⟩
    have hkk : ¬ ((kk : Int) = 0) := by rw [← Hkk.out]; omega
    rw [Hkk.out]
    clear hk
    go_enter Tryd.func28, Tryd.ntmps28
    go_upto_region 1 with (fail)
    rw [Hw0.out, Hgb.out]
    go_wp2_with (go_at_call 25; refine (refprep_n A0 r n).mono ?_; rintro e w1 ⟨rfl, H1⟩; rw [Hkk.out, Hpq.out, HV.out])
    go_ret
    refine ⟨rfl, a, m, c, X, ?_, fun q hq => .inl hq, ((Ch.below L0.out).trans H1.out.2).trans (Ch.below (alloc1 _ _))⟩
    have := H1.out.1
    rw [PS.out] at this
    exact this.below (alloc1 _ _)
end Go.Proofs.YtdfnjcjpblkmcaaDoor
