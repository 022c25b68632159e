/- What the Go function RsFew does where the list is good: it returns true, and changes nothing that was there. -/
import Derived.Test.YtokkjdgfhpocdaaDoorGg
import Derived.Test.YtokkjdgfhpocdaaDoorEo
import Derived.Deep.CutBlock
namespace Go.Proofs.YtokkjdgfhpocdaaDoor
open Go.ChangeShapes Go.WideShapes Go.ChangeAt Go.RowKit
set_option linter.unusedVariables false
set_option linter.unusedSimpArgs false
set_option linter.unnecessarySimpa false
set_option maxRecDepth 40000 in
set_option maxHeartbeats 4000000 in
theorem few_ok (k m n c b off : Nat) (num dr : Int) (T : List Tr) (w : World) (h1 : 1 ≤ m) (h2 : m ≤ k) (h3 : k + m ≤ 16) (hk2 : 2 ≤ k) (hn : n ≤ 1024) (hkc : k ≤ c) (mc : c ≤ 140737488351232) (HL : Hid (Lie w b off T)) (HO : Hid (Ok w T)) (HK : Hid (T.length = k)) (HG : Hid (GoodL (k + m) (sz k n) (lst T))) (E : Nat → Addr) (hS : Hid (Sent w 4 E)) :
    Calls Tryd.prog 8 #[.agg #[.int .i64 (k : Int), .int .i64 (m : Int), .int .i64 (n : Int), .int .i64 num, .slice (some ⟨b, off, none⟩) k c], .int .i64 dr] w fun e w' => e = .returned (.bool true) ∧ Hid (Below w.heap.size w w') := by
  have hs := sz_le k n (by omega) (by omega) hn
  obtain ⟨s, Hs⟩ : ∃ s, Hid (sz k n = s) := ⟨_, rfl⟩
  rw [Hs.out] at hs
  have hs : s ≤ 1100 := by omega
  have RS : Hid (∀ w, Calls Tryd.prog 13 #[.int .i64 (k : Int), .int .i64 (m : Int), .int .i64 (n : Int)] w fun e w' => e = .returned (.tuple #[.int .i64 (s : Int), .int .i64 (0 : Int)]) ∧ w' = w) := by
    intro w
    have h := refsize_ok k m n h1 h2 h3 hn w
    rw [Hs.out] at h
    exact h
  have GS : Hid (GoodL (k + m) s (lst T)) := by rw [← Hs.out]; exact HG.out
  have k2 : (2 : Int) ≤ (k : Int) := by omega
  have k2' : ¬ ((k : Int) < 2) := by omega
  go_enter Tryd.func8, Tryd.ntmps8
  go_upto_region 3 with (go_at_call 9; refine (alive_any _).mono ?_; rintro e w1 ⟨rfl, H1⟩)
  have HX : Hid (Bx w1 w.heap.size (.int .i64 (k : Int)) (.int .i64 (m : Int)) (.int .i64 (n : Int)) (.int .i64 num) (.slice (some ⟨b, off, none⟩) k c)) := (Bx.new w _ _ _ _ _ _).below H1.out
  have HBL : Hid (Below w.heap.size w w1) := ((Below.refl w.heap.size w).alloc (Nat.le_refl _) _).trans (H1.out.mono (by simp))
  clear H1
  obtain ⟨p, Hp⟩ : ∃ p, Hid (w.heap.size = p) := ⟨_, rfl⟩
  rw [Hp.out] at HX ⊢
  have c0 := HX.out.c0
  have c1 := HX.out.c1
  have c2 := HX.out.c2
  have c4 := HX.out.c4
  have SD1 : Hid (Shd w1 (some ⟨b, off, none⟩) k (lst T)) := by
    have h := (HL.out.below HBL.out).shd (HO.out.below HBL.out) (by rw [HK.out]; omega)
    rw [HK.out] at h
    exact h
  go_upto_region 6 with (first | (go_at_call 13; refine (RS.out _).mono ?_; rintro e w0 ⟨rfl, h0⟩; rw [h0]; clear h0) | (go_at_call 26; refine (good_t k m s c (some ⟨b, off, none⟩) (lst T) _ (by omega) h3 hs SD1 GS).mono ?_; rintro e w2 ⟨rfl, H2⟩; have X2 : Hid (Bx w2 p (.int .i64 (k : Int)) (.int .i64 (m : Int)) (.int .i64 (n : Int)) (.int .i64 num) (.slice (some ⟨b, off, none⟩) k c)) := HX.out.below H2.out; have d0 := X2.out.c0; have d1 := X2.out.c1; have d2 := X2.out.c2; have d4 := X2.out.c4))
  have BL2 : Hid (Below w.heap.size w w2) := HBL.out.trans (H2.out.mono HBL.out.size)
  clear c0 c1 c2 c4 HX H2 HBL SD1
  obtain ⟨t1, d, a1, a2, a3, a4, a5, a6⟩ := mod_fit dr (k : Int) (by omega) (by omega)
  have n0 : ¬ ((k : Int) = 0) := by omega
  go_quiet (fail)
  clear a1 a2 a3 a4 a6 n0
  have X3 : Hid (Bx (w2.drewN nq) p (.int .i64 (k : Int)) (.int .i64 (m : Int)) (.int .i64 (n : Int)) (.int .i64 num) (.slice (some ⟨b, off, none⟩) k c)) := X2.out.below (below_drewN (Below.refl _ _) nq)
  have BL3 : Hid (Below w.heap.size w (w2.drewN nq)) := below_drewN BL2.out nq
  obtain ⟨w3, hw3⟩ : ∃ w3, w3 = w2.drewN nq := ⟨_, rfl⟩
  rw [← hw3] at X3 BL3 ⊢
  clear hw3 d0 d1 d2 d4 X2 BL2
  have hd : d < k := by omega
  obtain ⟨D, HD⟩ : ∃ D, Hid (D = d + 1) := ⟨d + 1, (rfl : d + 1 = d + 1)⟩
  have q9 : IntKind.i64.wrap ((d : Int) + 1) = (D : Int) := by have := HD.out; rw [IntKind.wrap_i64]; omega
  obtain ⟨n1, Hn1⟩ : ∃ n1, Hid (n1 + 1 = k) := ⟨k - 1, (by omega : k - 1 + 1 = k)⟩
  obtain ⟨o2, CD⟩ : ∃ o2, Hid ((c = D ∧ o2 = off) ∨ (¬ c = D ∧ o2 = off + D * 2)) := by
    by_cases h : c = D
    · exact ⟨off, .inl ⟨h, rfl⟩⟩
    · exact ⟨_, .inr ⟨h, rfl⟩⟩
  have HL3 : Hid (Lie w3 b off T) := HL.out.below BL3.out
  have HO3 : Hid (Ok w3 T) := HO.out.below BL3.out
  have dk : (d : Int) ≤ (c : Int) := by omega
  have Dk : (D : Int) ≤ (k : Int) := by have := HD.out; omega
  have D0 : D ≤ k := by omega
  go_wp2
  refine wp_region_held (S := fun w' => w'.cell? ⟨p, 4, none⟩ = some (.slice (some ⟨b, off, none⟩) k c)) (by kernel_rfl) ?_
  obtain ⟨w4, hw2⟩ : ∃ w2, w2 = w3.drewN 1 := ⟨_, rfl⟩
  have B34 : Hid (Below w3.heap.size w3 w4) := by rw [hw2]; exact below_drewN (Below.refl _ _) 1
  have S0 : w4.cell? ⟨p, 4, none⟩ = some (.slice (some ⟨b, off, none⟩) k c) := by rw [hw2, cell_drewN]; exact X3.out.c4
  have hw3 : ({ heap := w3.heap, tape := w3.tape, drawn := w3.drawn + 1, os := w3.os, output := w3.output } : World) = w4 := hw2.symm
  refine (show _ = w4 from hw3) ▸ ?_
  clear hw2 hw3
  have BL4 : Hid (Below w.heap.size w w4) := BL3.out.trans (B34.out.mono BL3.out.size)
  have HL4 : Hid (Lie w4 b off T) := HL3.out.below B34.out
  have HO4 : Hid (Ok w4 T) := HO3.out.below B34.out
  obtain ⟨g5, cap5, w6, g7, cap7, w7, r5, r7, b6, ml7⟩ := few_T (c := c) (o2 := o2) HL4.out HO4.out HK.out hd HD.out (by omega) (by
    rcases CD.out with ⟨h, _⟩ | ⟨_, h⟩
    · left; omega
    · exact .inr h) Hn1.out
  have R5 : Hid _ := r5
  have R7 : Hid _ := r7
  have B6 : Hid (Below w4.heap.size w4 w6) := b6
  have ML7 : Hid (Ml w4 w7 g7 cap7 (T.take d ++ T.drop D)) := ml7
  have S5 : (w4.alloc (.cells #[] 54)).cell? ⟨p, 4, none⟩ = some (.slice (some ⟨b, off, none⟩) k c) := (((Below.refl w4.heap.size w4).alloc (Nat.le_refl _) _).cell (p := ⟨p, 4, none⟩) (cell_lt' S0)).trans S0
  have S6 : w6.cell? ⟨p, 4, none⟩ = some (.slice (some ⟨b, off, none⟩) k c) := (B6.out.cell (p := ⟨p, 4, none⟩) (cell_lt' S0)).trans S0
  have S7 : w7.cell? ⟨p, 4, none⟩ = some (.slice (some ⟨b, off, none⟩) k c) := (ML7.out.bel.cell (p := ⟨p, 4, none⟩) (cell_lt' S0)).trans S0
  clear r5 r7 b6 ml7
  refine wpAnyH_take (i := 1) (v := .pointer (some ⟨p, 4, none⟩)) rfl (by kernel_rfl) (by kernel_rfl) (by kernel_rfl) (fun _ _ _ h => h) (Or.inl ⟨by rfl, fun w hSw => by (try dsimp only at hSw); go_simp⟩) (by assumption) ?_
  simp only [List.getElem_toArray, List.getElem_cons_zero, List.getElem_cons_succ, Act.put, List.setIfInBounds_toArray, List.set_cons_zero, List.set_cons_succ]
  refine wpAnyH_take (i := 2) (v := .slice (some ⟨b, off, none⟩) k c) rfl (by kernel_rfl) (by kernel_rfl) (by kernel_rfl) (fun _ _ _ h => h) (Or.inl ⟨by rfl, fun w hSw => by (try dsimp only at hSw); go_simp⟩) (by assumption) ?_
  simp only [List.getElem_toArray, List.getElem_cons_zero, List.getElem_cons_succ, Act.put, List.setIfInBounds_toArray, List.set_cons_zero, List.set_cons_succ]
  refine wpAnyH_take (i := 3) (v := .int .i64 (d : Int)) rfl (by kernel_rfl) (by kernel_rfl) (by kernel_rfl) (fun _ _ _ h => h) (Or.inl ⟨by rfl, fun w hSw => by (try dsimp only at hSw); go_simp⟩) (by assumption) ?_
  simp only [List.getElem_toArray, List.getElem_cons_zero, List.getElem_cons_succ, Act.put, List.setIfInBounds_toArray, List.set_cons_zero, List.set_cons_succ]
  refine wpAnyH_take (i := 4) (v := .slice (some ⟨b, off, none⟩) d c) rfl (by kernel_rfl) (by kernel_rfl) (by kernel_rfl) (fun _ _ _ h => h) (Or.inl ⟨by rfl, fun w hSw => by (try dsimp only at hSw); go_simp⟩) (by assumption) ?_
  simp only [List.getElem_toArray, List.getElem_cons_zero, List.getElem_cons_succ, Act.put, List.setIfInBounds_toArray, List.set_cons_zero, List.set_cons_succ]
  refine wpAnyH_take (i := 6) (v := .pointer (some ⟨p, 4, none⟩)) rfl (by kernel_rfl) (by kernel_rfl) (by kernel_rfl) (fun _ _ _ h => h) (Or.inl ⟨by rfl, fun w hSw => by (try dsimp only at hSw); go_simp⟩) (by assumption) ?_
  simp only [List.getElem_toArray, List.getElem_cons_zero, List.getElem_cons_succ, Act.put, List.setIfInBounds_toArray, List.set_cons_zero, List.set_cons_succ]
  refine wpAnyH_take (i := 7) (v := .slice (some ⟨b, off, none⟩) k c) rfl (by kernel_rfl) (by kernel_rfl) (by kernel_rfl) (fun _ _ _ h => h) (Or.inl ⟨by rfl, fun w hSw => by (try dsimp only at hSw); go_simp⟩) (by assumption) ?_
  simp only [List.getElem_toArray, List.getElem_cons_zero, List.getElem_cons_succ, Act.put, List.setIfInBounds_toArray, List.set_cons_zero, List.set_cons_succ]
  refine wpAnyH_take (i := 8) (v := .int .i64 (d : Int)) rfl (by kernel_rfl) (by kernel_rfl) (by kernel_rfl) (fun _ _ _ h => h) (Or.inl ⟨by rfl, fun w hSw => by (try dsimp only at hSw); go_simp⟩) (by assumption) ?_
  simp only [List.getElem_toArray, List.getElem_cons_zero, List.getElem_cons_succ, Act.put, List.setIfInBounds_toArray, List.set_cons_zero, List.set_cons_succ]
  refine wpAnyH_take (i := 9) (v := .int .i64 (D : Int)) rfl (by kernel_rfl) (by kernel_rfl) (by kernel_rfl) (fun _ _ _ h => h) (Or.inl ⟨by rfl, fun w hSw => by (try dsimp only at hSw); go_simp⟩) (by assumption) ?_
  simp only [List.getElem_toArray, List.getElem_cons_zero, List.getElem_cons_succ, Act.put, List.setIfInBounds_toArray, List.set_cons_zero, List.set_cons_succ]
  refine wpAnyH_take (i := 10) (v := .slice (some ⟨b, o2, none⟩) (k - D) (c - D)) rfl (by kernel_rfl) (by kernel_rfl) (by kernel_rfl) (fun _ _ _ h => h) (Or.inl ⟨by rfl, fun w hSw => by (try dsimp only at hSw); (rcases CD.out with ⟨h1, h2⟩ | ⟨h1, h2⟩ <;> (subst h2; go_simp))⟩) (by assumption) ?_
  simp only [List.getElem_toArray, List.getElem_cons_zero, List.getElem_cons_succ, Act.put, List.setIfInBounds_toArray, List.set_cons_zero, List.set_cons_succ]
  refine wpAnyH_ready (rs := [0]) (by kernel_rfl) (by simp) (AllReadyH.cons rfl (fun K hK => ?_) AllReadyH.nil)
  simp only [List.getElem_toArray, List.getElem_cons_zero, List.getElem_cons_succ]
  rw [if_pos (by rfl)]
  go_simp
  refine hK.out _ _ S5 (fun hS_ => ?_)
  clear hK K S0
  refine wpAnyH_ready (rs := [5]) (by kernel_rfl) (by simp) (AllReadyH.cons rfl (fun K hK => ?_) AllReadyH.nil)
  simp only [List.getElem_toArray, List.getElem_cons_zero, List.getElem_cons_succ]
  rw [if_pos (by rfl)]
  refine Lib.wp_append_run _ (.tmp 56) (.tmp 60) 43 43 (by rfl) _ _ (by rfl) (by rfl) _ _ R5.out (hK.out _ _ S6 (fun hS_ => ?_))
  simp only [List.getElem_toArray, List.getElem_cons_zero, List.getElem_cons_succ, Act.put, List.setIfInBounds_toArray, List.set_cons_zero, List.set_cons_succ]
  clear hK K S5
  refine wpAnyH_ready (rs := [11]) (by kernel_rfl) (by simp) (AllReadyH.cons rfl (fun K hK => ?_) AllReadyH.nil)
  simp only [List.getElem_toArray, List.getElem_cons_zero, List.getElem_cons_succ]
  rw [if_pos (by rfl)]
  refine Lib.wp_append_run _ (.tmp 61) (.tmp 66) 43 43 (by rfl) _ _ (by rfl) (by rfl) _ _ R7.out (hK.out _ _ S7 (fun hS_ => ?_))
  simp only [List.getElem_toArray, List.getElem_cons_zero, List.getElem_cons_succ, Act.put, List.setIfInBounds_toArray, List.set_cons_zero, List.set_cons_succ]
  clear hK K S6
  refine wpAnyH_take (i := 12) (v := .slice (some ⟨g7, 0, none⟩) n1 cap7) rfl (by kernel_rfl) (by kernel_rfl) (by kernel_rfl) (fun _ _ _ h => h) (Or.inl ⟨by rfl, fun w hSw => by (try dsimp only at hSw); go_simp⟩) (by assumption) ?_
  simp only [List.getElem_toArray, List.getElem_cons_zero, List.getElem_cons_succ, Act.put, List.setIfInBounds_toArray, List.set_cons_zero, List.set_cons_succ]
  refine wpAnyH_done (by kernel_rfl) ?_ _
  have BL7 : Hid (Below w.heap.size w w7) := BL4.out.trans (ML7.out.bel.mono BL4.out.size)
  have X7 : Hid (Bx w7 p (.int .i64 (k : Int)) (.int .i64 (m : Int)) (.int .i64 (n : Int)) (.int .i64 num) (.slice (some ⟨b, off, none⟩) k c)) := X3.out.below (B34.out.trans (ML7.out.bel.mono B34.out.size))
  obtain ⟨F, HF⟩ : ∃ F, Hid (T.take d ++ T.drop D = F) := ⟨_, rfl⟩
  rw [HF.out] at ML7
  have LF : Hid (F.length = n1) := by
    have := HK.out
    have := HD.out
    have := Hn1.out
    rw [← HF.out]
    show (T.take d ++ T.drop D).length = n1
    simp
    omega
  have OF7 : Hid (Oro w7 w4.heap.size g7 cap7 F) := ML7.out.own
  have LF7 : Hid (Lie w7 g7 0 F) := ML7.out.own.lie
  have KF7 : Hid (Ok w7 F) := ML7.out.ok
  have HL7 : Hid (Lie w7 b off T) := HL4.out.below ML7.out.bel
  have HO7 : Hid (Ok w7 T) := HO4.out.below ML7.out.bel
  clear S7 hS_ R5 R7 B6 HL4 HO4 HL3 HO3 BL3 BL4 B34 X3 ML7 HF HD CD q9 dk Dk
  obtain ⟨e0, He0⟩ : ∃ e0, Hid (F[0]? = some e0) := ⟨F[0]'(by have := LF.out; have := Hn1.out; omega), List.getElem?_eq_getElem _⟩
  have VE := KF7.out e0 (List.mem_of_getElem? He0.out)
  obtain ⟨f0, f1⟩ := cell_val LF7.out 0 e0 He0.out
  obtain ⟨z0, v0, l0⟩ := e0
  obtain ⟨a0, m0, cc0, ev0, _⟩ := VE.ex
  simp only at ev0 f0 f1
  subst ev0
  have VE7 : Hid (Vs w7 (z0, .slice a0 m0 cc0, l0)) := VE
  clear VE
  have n1p : (0 : Int) < (n1 : Int) := by have := Hn1.out; omega
  have hk16 : k ≤ 16 := by omega
  rw [Nat.zero_mul, Nat.add_zero] at f0 f1
  go_upto_region 8 with (fail)
  go_cut [8] from 68 to 75 (fun t wc => ∃ gT capT, t = .slice (some ⟨gT, 0, none⟩) k capT ∧ Hid (∃ W, Below w7.heap.size w7 W ∧ Ml W wc gT capT (F ++ [(z0, .slice a0 m0 cc0, l0)])))
  case first =>
    refine wp_region_held (S := fun w' => w'.cell? ⟨g7, 0, none⟩ = some (.int .i64 z0) ∧ w'.cell? ⟨g7, 1, none⟩ = some (.slice a0 m0 cc0)) (by kernel_rfl) ?_
    obtain ⟨w8, hw2⟩ : ∃ w2, w2 = w7.drewN 1 := ⟨_, rfl⟩
    have B78 : Hid (Below w7.heap.size w7 w8) := by rw [hw2]; exact below_drewN (Below.refl _ _) 1
    have S0 : w8.cell? ⟨g7, 0, none⟩ = some (.int .i64 z0) ∧ w8.cell? ⟨g7, 1, none⟩ = some (.slice a0 m0 cc0) := by rw [hw2, cell_drewN, cell_drewN]; exact ⟨f0, f1⟩
    have hw3 : ({ heap := w7.heap, tape := w7.tape, drawn := w7.drawn + 1, os := w7.os, output := w7.output } : World) = w8 := hw2.symm
    refine (show _ = w8 from hw3) ▸ ?_
    clear hw2 hw3
    have LF8 := LF7.out.below B78.out
    have KF8 := KF7.out.below B78.out
    have VE8 := VE7.out.below B78.out
    have keep : ∀ X, Below w8.heap.size w8 X → X.cell? ⟨g7, 0, none⟩ = some (.int .i64 z0) ∧ X.cell? ⟨g7, 1, none⟩ = some (.slice a0 m0 cc0) := fun X hX => ⟨(hX.cell (p := ⟨g7, 0, none⟩) (cell_lt' S0.1)).trans S0.1, (hX.cell (p := ⟨g7, 1, none⟩) (cell_lt' S0.2)).trans S0.2⟩
    have KEEP : Hid (∀ X, Below w8.heap.size w8 X → X.cell? ⟨g7, 0, none⟩ = some (.int .i64 z0) ∧ X.cell? ⟨g7, 1, none⟩ = some (.slice a0 m0 cc0)) := keep
    have KL : Hid (Lie w8 g7 0 F ∧ Ok w8 F ∧ Vs w8 (z0, .slice a0 m0 cc0, l0)) := ⟨LF8, KF8, VE8⟩
    clear keep LF8 KF8 VE8
    refine wpAnyH_take (i := 1) (v := .slice (some ⟨g7, 0, none⟩) n1 cap7) rfl (by kernel_rfl) (by kernel_rfl) (by kernel_rfl) (fun _ _ _ h => h) (Or.inl ⟨by rfl, fun w hSw => by (try dsimp only at hSw); go_simp⟩) (by assumption) ?_
    simp only [List.getElem_toArray, List.getElem_cons_zero, List.getElem_cons_succ, Act.put, List.setIfInBounds_toArray, List.set_cons_zero, List.set_cons_succ]
    refine wpAnyH_take (i := 3) (v := .slice (some ⟨g7, 0, none⟩) n1 cap7) rfl (by kernel_rfl) (by kernel_rfl) (by kernel_rfl) (fun _ _ _ h => h) (Or.inl ⟨by rfl, fun w hSw => by (try dsimp only at hSw); go_simp⟩) (by assumption) ?_
    simp only [List.getElem_toArray, List.getElem_cons_zero, List.getElem_cons_succ, Act.put, List.setIfInBounds_toArray, List.set_cons_zero, List.set_cons_succ]
    refine wpAnyH_take (i := 4) (v := .pointer (some ⟨g7, 0, none⟩)) rfl (by kernel_rfl) (by kernel_rfl) (by kernel_rfl) (fun _ _ _ h => h) (Or.inl ⟨by rfl, fun w hSw => by (try dsimp only at hSw); go_simp; intro h9; omega⟩) (by assumption) ?_
    simp only [List.getElem_toArray, List.getElem_cons_zero, List.getElem_cons_succ, Act.put, List.setIfInBounds_toArray, List.set_cons_zero, List.set_cons_succ]
    refine wpAnyH_take (i := 5) (v := .agg #[.int .i64 z0, .slice a0 m0 cc0]) rfl (by kernel_rfl) (by kernel_rfl) (by kernel_rfl) (fun _ _ _ h => h) (Or.inl ⟨by rfl, fun w hSw => by (try dsimp only at hSw); go_simp⟩) (by assumption) ?_
    simp only [List.getElem_toArray, List.getElem_cons_zero, List.getElem_cons_succ, Act.put, List.setIfInBounds_toArray, List.set_cons_zero, List.set_cons_succ]
    refine wpAnyH_ready (rs := [0, 6]) (by kernel_rfl) (by simp) (AllReadyH.cons rfl (fun K hK => ?_) (AllReadyH.cons rfl (fun K hK => ?_) AllReadyH.nil))
    · simp only [List.getElem_toArray, List.getElem_cons_zero, List.getElem_cons_succ]
      rw [if_pos (by rfl)]
      have B9 : Hid (Below w8.heap.size w8 (w8.alloc (.cells #[] 54))) := (Below.refl w8.heap.size w8).alloc (Nat.le_refl _) _
      go_simp
      refine hK.out _ _ (KEEP.out _ B9.out) (fun hS_ => ?_)
      clear hK K
      refine wpAnyH_ready (rs := [2, 6]) (by kernel_rfl) (by simp) (AllReadyH.cons rfl (fun K hK => ?_) (AllReadyH.cons rfl (fun K hK => ?_) AllReadyH.nil))
      · simp only [List.getElem_toArray, List.getElem_cons_zero, List.getElem_cons_succ]
        rw [if_pos (by rfl)]
        obtain ⟨g1, cap1, x1, g2, cap2, x2, r1, r2, b1, ml⟩ := tw_A (cF := cap7) (cap := 0) KL.out.1 KL.out.2.1 LF.out Hn1.out hk16 KL.out.2.2
        have R1 : Hid _ := r1
        have R2 : Hid _ := r2
        have BX : Hid (Below w8.heap.size w8 x1) := b1
        have ML : Hid (Ml w8 x2 g2 cap2 (F ++ [(z0, .slice a0 m0 cc0, l0)])) := ml
        clear r1 r2 b1 ml
        refine Lib.wp_append_run _ (.tmp 68) (.tmp 69) 43 43 (by rfl) _ _ (by rfl) (by rfl) _ _ R1.out (hK.out _ _ (KEEP.out _ BX.out) (fun hS_ => ?_))
        simp only [List.getElem_toArray, List.getElem_cons_zero, List.getElem_cons_succ, Act.put, List.setIfInBounds_toArray, List.set_cons_zero, List.set_cons_succ]
        clear hK K
        refine wpAnyH_ready (rs := [6]) (by kernel_rfl) (by simp) (AllReadyH.cons rfl (fun K hK => ?_) AllReadyH.nil)
        simp only [List.getElem_toArray, List.getElem_cons_zero, List.getElem_cons_succ]
        rw [if_pos (by rfl)]
        go_simp
        refine hK.out _ _ (KEEP.out _ (BX.out.alloc BX.out.size (.cells #[.int .i64 z0, .slice a0 m0 cc0] 54))) (fun hS_ => ?_)
        clear hK K
        refine wpAnyH_ready (rs := [7]) (by kernel_rfl) (by simp) (AllReadyH.cons rfl (fun K hK => ?_) AllReadyH.nil)
        simp only [List.getElem_toArray, List.getElem_cons_zero, List.getElem_cons_succ]
        rw [if_pos (by rfl)]
        refine Lib.wp_append_run _ (.tmp 70) (.tmp 74) 43 43 (by rfl) _ _ (by rfl) (by rfl) _ _ R2.out (hK.out _ _ (KEEP.out _ ML.out.bel) (fun hS_ => ?_))
        simp only [List.getElem_toArray, List.getElem_cons_zero, List.getElem_cons_succ, Act.put, List.setIfInBounds_toArray, List.set_cons_zero, List.set_cons_succ]
        clear hK K
        refine wpAnyH_take (i := 8) (v := .slice (some ⟨g2, 0, none⟩) k cap2) rfl (by kernel_rfl) (by kernel_rfl) (by kernel_rfl) (fun _ _ _ h => h) (Or.inl ⟨by rfl, fun w hSw => by (try dsimp only at hSw); go_simp⟩) (by assumption) ?_
        simp only [List.getElem_toArray, List.getElem_cons_zero, List.getElem_cons_succ, Act.put, List.setIfInBounds_toArray, List.set_cons_zero, List.set_cons_succ]
        refine wpAnyH_done (by kernel_rfl) ?_ _
        go_wp2_with fail
        go_meet
        case rel => exact ⟨g2, cap2, rfl, w8, B78.out, ML.out⟩
      · simp only [List.getElem_toArray, List.getElem_cons_zero, List.getElem_cons_succ]
        rw [if_pos (by rfl)]
        obtain ⟨g1, cap1, x1, g2, cap2, x2, r1, r2, b1, ml⟩ := tw_B (cF := cap7) (cap := 0) KL.out.1 KL.out.2.1 LF.out Hn1.out hk16 KL.out.2.2
        have R1 : Hid _ := r1
        have R2 : Hid _ := r2
        have BX : Hid (Below w8.heap.size w8 x1) := b1
        have ML : Hid (Ml w8 x2 g2 cap2 (F ++ [(z0, .slice a0 m0 cc0, l0)])) := ml
        clear r1 r2 b1 ml
        go_simp
        refine hK.out _ _ (KEEP.out _ (B9.out.alloc B9.out.size (.cells #[.int .i64 z0, .slice a0 m0 cc0] 54))) (fun hS_ => ?_)
        clear hK K
        refine wpAnyH_ready (rs := [2]) (by kernel_rfl) (by simp) (AllReadyH.cons rfl (fun K hK => ?_) AllReadyH.nil)
        simp only [List.getElem_toArray, List.getElem_cons_zero, List.getElem_cons_succ]
        rw [if_pos (by rfl)]
        refine Lib.wp_append_run _ (.tmp 68) (.tmp 69) 43 43 (by rfl) _ _ (by rfl) (by rfl) _ _ R1.out (hK.out _ _ (KEEP.out _ BX.out) (fun hS_ => ?_))
        simp only [List.getElem_toArray, List.getElem_cons_zero, List.getElem_cons_succ, Act.put, List.setIfInBounds_toArray, List.set_cons_zero, List.set_cons_succ]
        clear hK K
        refine wpAnyH_ready (rs := [7]) (by kernel_rfl) (by simp) (AllReadyH.cons rfl (fun K hK => ?_) AllReadyH.nil)
        simp only [List.getElem_toArray, List.getElem_cons_zero, List.getElem_cons_succ]
        rw [if_pos (by rfl)]
        refine Lib.wp_append_run _ (.tmp 70) (.tmp 74) 43 43 (by rfl) _ _ (by rfl) (by rfl) _ _ R2.out (hK.out _ _ (KEEP.out _ ML.out.bel) (fun hS_ => ?_))
        simp only [List.getElem_toArray, List.getElem_cons_zero, List.getElem_cons_succ, Act.put, List.setIfInBounds_toArray, List.set_cons_zero, List.set_cons_succ]
        clear hK K
        refine wpAnyH_take (i := 8) (v := .slice (some ⟨g2, 0, none⟩) k cap2) rfl (by kernel_rfl) (by kernel_rfl) (by kernel_rfl) (fun _ _ _ h => h) (Or.inl ⟨by rfl, fun w hSw => by (try dsimp only at hSw); go_simp⟩) (by assumption) ?_
        simp only [List.getElem_toArray, List.getElem_cons_zero, List.getElem_cons_succ, Act.put, List.setIfInBounds_toArray, List.set_cons_zero, List.set_cons_succ]
        refine wpAnyH_done (by kernel_rfl) ?_ _
        go_wp2_with fail
        go_meet
        case rel => exact ⟨g2, cap2, rfl, w8, B78.out, ML.out⟩
    · simp only [List.getElem_toArray, List.getElem_cons_zero, List.getElem_cons_succ]
      rw [if_pos (by rfl)]
      have B9 : Hid (Below w8.heap.size w8 (w8.alloc (.cells #[.int .i64 z0, .slice a0 m0 cc0] 54))) := (Below.refl w8.heap.size w8).alloc (Nat.le_refl _) _
      obtain ⟨g1, cap1, x1, g2, cap2, x2, r1, r2, b1, ml⟩ := tw_C (cF := cap7) (cap := 0) KL.out.1 KL.out.2.1 LF.out Hn1.out hk16 KL.out.2.2
      have R1 : Hid _ := r1
      have R2 : Hid _ := r2
      have BX : Hid (Below w8.heap.size w8 x1) := b1
      have ML : Hid (Ml w8 x2 g2 cap2 (F ++ [(z0, .slice a0 m0 cc0, l0)])) := ml
      clear r1 r2 b1 ml
      go_simp
      refine hK.out _ _ (KEEP.out _ B9.out) (fun hS_ => ?_)
      clear hK K
      refine wpAnyH_ready (rs := [0]) (by kernel_rfl) (by simp) (AllReadyH.cons rfl (fun K hK => ?_) AllReadyH.nil)
      simp only [List.getElem_toArray, List.getElem_cons_zero, List.getElem_cons_succ]
      rw [if_pos (by rfl)]
      go_simp
      refine hK.out _ _ (KEEP.out _ (B9.out.alloc B9.out.size (.cells #[] 54))) (fun hS_ => ?_)
      clear hK K
      refine wpAnyH_ready (rs := [2]) (by kernel_rfl) (by simp) (AllReadyH.cons rfl (fun K hK => ?_) AllReadyH.nil)
      simp only [List.getElem_toArray, List.getElem_cons_zero, List.getElem_cons_succ]
      rw [if_pos (by rfl)]
      refine Lib.wp_append_run _ (.tmp 68) (.tmp 69) 43 43 (by rfl) _ _ (by rfl) (by rfl) _ _ R1.out (hK.out _ _ (KEEP.out _ BX.out) (fun hS_ => ?_))
      simp only [List.getElem_toArray, List.getElem_cons_zero, List.getElem_cons_succ, Act.put, List.setIfInBounds_toArray, List.set_cons_zero, List.set_cons_succ]
      clear hK K
      refine wpAnyH_ready (rs := [7]) (by kernel_rfl) (by simp) (AllReadyH.cons rfl (fun K hK => ?_) AllReadyH.nil)
      simp only [List.getElem_toArray, List.getElem_cons_zero, List.getElem_cons_succ]
      rw [if_pos (by rfl)]
      refine Lib.wp_append_run _ (.tmp 70) (.tmp 74) 43 43 (by rfl) _ _ (by rfl) (by rfl) _ _ R2.out (hK.out _ _ (KEEP.out _ ML.out.bel) (fun hS_ => ?_))
      simp only [List.getElem_toArray, List.getElem_cons_zero, List.getElem_cons_succ, Act.put, List.setIfInBounds_toArray, List.set_cons_zero, List.set_cons_succ]
      clear hK K
      refine wpAnyH_take (i := 8) (v := .slice (some ⟨g2, 0, none⟩) k cap2) rfl (by kernel_rfl) (by kernel_rfl) (by kernel_rfl) (fun _ _ _ h => h) (Or.inl ⟨by rfl, fun w hSw => by (try dsimp only at hSw); go_simp⟩) (by assumption) ?_
      simp only [List.getElem_toArray, List.getElem_cons_zero, List.getElem_cons_succ, Act.put, List.setIfInBounds_toArray, List.set_cons_zero, List.set_cons_succ]
      refine wpAnyH_done (by kernel_rfl) ?_ _
      go_wp2_with fail
      go_meet
      case rel => exact ⟨g2, cap2, rfl, w8, B78.out, ML.out⟩
  case rest =>
    obtain ⟨gT, capT, rfl, HT⟩ := hcut
    have B7c : Hid (Below w7.heap.size w7 wc) := by
      obtain ⟨W8, bW8, mlT⟩ := HT.out
      exact bW8.trans (mlT.bel.mono bW8.size)
    have TT : Hid (Lie wc gT 0 (F ++ [(z0, .slice a0 m0 cc0, l0)]) ∧ Ok wc (F ++ [(z0, .slice a0 m0 cc0, l0)])) := by
      obtain ⟨W8, bW8, mlT⟩ := HT.out
      exact ⟨mlT.own.lie, mlT.ok⟩
    have TL : Hid ((F ++ [((z0, .slice a0 m0 cc0, l0) : Tr)]).length = k) := by
      have := LF.out
      have := Hn1.out
      show (F ++ [((z0, .slice a0 m0 cc0, l0) : Tr)]).length = k
      simp
      omega
    obtain ⟨T2, HT2⟩ : ∃ T2, Hid (F ++ [((z0, Value.slice a0 m0 cc0, l0) : Tr)] = T2) := ⟨F ++ [((z0, Value.slice a0 m0 cc0, l0) : Tr)], show _ = _ from rfl⟩
    have BAD2 : Hid (¬ GoodL (k + m) (sz k n) (lst T2)) := by rw [← HT2.out]; exact fun hh => twice_bad (M := k + m) (s := sz k n) He0.out TL.out ⟨rfl, hh⟩
    rw [HT2.out] at TT TL
    have BLc : Hid (Below w.heap.size w wc) := BL7.out.trans (B7c.out.mono BL7.out.size)
    have Xc : Hid (Bx wc p (.int .i64 (k : Int)) (.int .i64 (m : Int)) (.int .i64 (n : Int)) (.int .i64 num) (.slice (some ⟨b, off, none⟩) k c)) := X7.out.below B7c.out
    have HLc : Hid (Lie wc b off T) := HL7.out.below B7c.out
    have HOc : Hid (Ok wc T) := HO7.out.below B7c.out
    have FF : Hid (Lie wc g7 0 F ∧ Ok wc F) := ⟨LF7.out.below B7c.out, KF7.out.below B7c.out⟩
    have HSL : Hid (∀ e ∈ T, e.2.2.length = s) := by
      intro e he
      obtain ⟨i, hi, hi2⟩ := List.getElem_of_mem he
      have h9 := (GS.out i (by simp [lst]; exact hi)).2.1
      have he2 : T[i]? = some e := by rw [List.getElem?_eq_getElem hi, hi2]
      rw [(lst_get he2).2] at h9
      exact h9
    have d0 := Xc.out.c0
    have d4 := Xc.out.c4
    clear HT B7c X7 HL7 HO7 LF7 KF7 OF7 He0 VE7 f0 f1 HT2 BL7
    go_upto_region 10 with (go_at_call 21; refine (copied_n k s b off c T _ hk16 hs HLc HOc HK HSL).mono ?_; rintro e w10 ⟨gL, capL, rfl, H10⟩)
    obtain ⟨T3, hT3, hT3l, CP⟩ := H10.out
    have hd3 : d < T3.length := by rw [hT3l]; exact hd
    obtain ⟨ed, Hed⟩ : ∃ ed, Hid (T3[d]? = some ed) := ⟨T3[d], List.getElem?_eq_getElem hd3⟩
    obtain ⟨zd, vd, ld⟩ := ed
    have hll : ld.length = s := (CP.el _ (List.mem_of_getElem? Hed.out)).len
    obtain ⟨bd, w12, hv, rL, cS, fS, bl12, bl13, LieL, OkL⟩ := long_T CP Hed.out hs
    have cd := (cell_val CP.own.lie d _ Hed.out).2
    simp only at cd
    rw [hv, Nat.zero_add] at cd
    obtain ⟨w13, hw13⟩ : ∃ w13, w13 = w12.setCell ⟨gL, d * 2 + 1, none⟩ (.slice (some ⟨bd, 0, none⟩) (s + 1) (s + 6)) := ⟨_, rfl⟩
    rw [← hw13] at bl13 LieL OkL
    have RL : Hid _ := rL
    have B13 : Hid (Below wc.heap.size wc w13) := bl13
    obtain ⟨T4, HT4⟩ : ∃ T4, Hid (T3.set d (zd, Value.slice (some ⟨bd, 0, none⟩) (s + 1) (s + 6), ld ++ [0]) = T4) := ⟨T3.set d (zd, Value.slice (some ⟨bd, 0, none⟩) (s + 1) (s + 6), ld ++ [0]), show _ = _ from rfl⟩
    have L4 : Hid (T4.length = k) := by rw [← HT4.out]; show (T3.set d _).length = k; simp [hT3l]
    have BAD4 : Hid (¬ GoodL (k + m) (sz k n) (lst T4)) := by
      rw [← HT4.out, Hs.out]
      exact fun hh => long_bad (k := k) (M := k + m) (s := s) (d := d) (e := (zd, .slice (some ⟨bd, 0, none⟩) (s + 1) (s + 6), ld ++ [0])) (by simp [hd3]) (by simp [hll]) ⟨rfl, hh⟩
    rw [HT4.out] at LieL OkL
    have LL : Hid (Lie w13 gL 0 T4 ∧ Ok w13 T4) := ⟨LieL, OkL⟩
    have HW13 : Hid (w13 = w12.setCell ⟨gL, d * 2 + 1, none⟩ (.slice (some ⟨bd, 0, none⟩) (s + 1) (s + 6))) := hw13
    have i1 : (d : Int) < (k : Int) := by omega
    clear H10 CP hT3 hT3l hd3 Hed hll hv rL bl12 bl13 LieL OkL HT4 hw13 d0 d4
    go_upto_region 11 with (at_builtin; refine wpList_app (by rfl) (.tmp 85) (.tmp 86) (by rfl) (by rfl) (by rfl) (by rfl) RL ?_)
    rw [← HW13.out]
    clear cS fS cd RL HW13
    have X13 : Hid (Bx w13 p (.int .i64 (k : Int)) (.int .i64 (m : Int)) (.int .i64 (n : Int)) (.int .i64 num) (.slice (some ⟨b, off, none⟩) k c)) := Xc.out.below B13.out
    have BL13 : Hid (Below w.heap.size w w13) := BLc.out.trans (B13.out.mono BLc.out.size)
    obtain ⟨w14, hw14⟩ : ∃ w14, w14 = w13.alloc (.cells #[.slice (some ⟨g7, 0, none⟩) n1 cap7, .slice (some ⟨gT, 0, none⟩) k capT, .slice (some ⟨gL, 0, none⟩) k capL] 43) := ⟨_, rfl⟩
    have B14 : Hid (Below w13.heap.size w13 w14) := by rw [hw14]; exact (Below.refl _ _).alloc (Nat.le_refl _) _
    obtain ⟨q, hq⟩ : ∃ q, q = w13.heap.size := ⟨_, rfl⟩
    have TRI : Hid (∀ i, i < 3 → ∃ a nl c L, w14.cell? ⟨q, i, none⟩ = some (.slice a nl c) ∧ Shd w14 a nl L ∧ ¬ (nl = k ∧ GoodL (k + m) (sz k n) L)) := by
      have z0 : w14.cell? ⟨q, 0, none⟩ = some (.slice (some ⟨g7, 0, none⟩) n1 cap7) := by rw [hw14, hq]; simp
      have z1 : w14.cell? ⟨q, 1, none⟩ = some (.slice (some ⟨gT, 0, none⟩) k capT) := by rw [hw14, hq]; simp
      have z2 : w14.cell? ⟨q, 2, none⟩ = some (.slice (some ⟨gL, 0, none⟩) k capL) := by rw [hw14, hq]; simp
      have Bc : Below wc.heap.size wc w14 := B13.out.trans (B14.out.mono B13.out.size)
      intro i hi
      match i, hi with
      | 0, _ =>
        have h := (FF.out.1.below Bc).shd (FF.out.2.below Bc) (by rw [LF.out]; have := Hn1.out; omega)
        rw [LF.out] at h
        exact ⟨_, _, _, _, z0, h, few_bad LF.out Hn1.out⟩
      | 1, _ =>
        have h := (TT.out.1.below Bc).shd (TT.out.2.below Bc) (by rw [TL.out]; omega)
        rw [TL.out] at h
        exact ⟨_, _, _, _, z1, h, fun hh => BAD2.out hh.2⟩
      | 2, _ =>
        have h := (LL.out.1.below B14.out).shd (LL.out.2.below B14.out) (by rw [L4.out]; omega)
        rw [L4.out] at h
        exact ⟨_, _, _, _, z2, h, fun hh => BAD4.out hh.2⟩
    have X14 : Hid (Bx w14 p (.int .i64 (k : Int)) (.int .i64 (m : Int)) (.int .i64 (n : Int)) (.int .i64 num) (.slice (some ⟨b, off, none⟩) k c)) := X13.out.below B14.out
    have BL14 : Hid (Below w.heap.size w w14) := BL13.out.trans (B14.out.mono BL13.out.size)
    have SE14 : Hid (Sent w14 4 E) := hS.out.below BL14.out
    have HL14 : Hid (Shd w14 (some ⟨b, off, none⟩) k (lst T)) := by
      have Bc : Below wc.heap.size wc w14 := B13.out.trans (B14.out.mono B13.out.size)
      have h := (HLc.out.below Bc).shd (HOc.out.below Bc) (by rw [HK.out]; omega)
      rw [HK.out] at h
      exact h
    clear B13 B14 BL13 X13 LL L4 BAD4 BAD2 FF TT TL HLc HOc Xc BLc HSL
    go_wp2
    rw [← hw14, ← hq]
    clear hw14 hq
    go_loopw [95] (fun ti wr => ∃ i : Nat, i ≤ 3 ∧ ti = .int .i64 (i : Int) ∧ Hid (Below w14.heap.size w14 wr)) (fun ti _ => 3 - (intOf ti).toNat)
    case atStart => exact ⟨0, by omega, rfl, Below.refl _ _⟩
    case round =>
      obtain ⟨i, hi, rfl, HI⟩ := hrel
      have XR : Hid (Bx wr p (.int .i64 (k : Int)) (.int .i64 (m : Int)) (.int .i64 (n : Int)) (.int .i64 num) (.slice (some ⟨b, off, none⟩) k c)) := X14.out.below HI.out
      have c0 := XR.out.c0
      have c1 := XR.out.c1
      have c2 := XR.out.c2
      have c4 := XR.out.c4
      by_cases hlt : i < 3
      · obtain ⟨a, nl, cl, L, z1, z2, z3⟩ := TRI.out i hlt
        have e1 : wr.cell? ⟨q, i, none⟩ = some (.slice a nl cl) := (HI.out.cell (p := ⟨q, i, none⟩) (cell_lt' z1)).trans z1
        have SD : Hid (Shd wr a nl L) := z2.below HI.out
        have GB : Hid (¬ (nl = k ∧ GoodL (k + m) (sz k n) L)) := z3
        have SR : Hid (Sent wr 4 E) := SE14.out.below HI.out
        have ER : Hid (Errs wr E) := SR.out.errs (by omega)
        have i1 : (i : Int) < 3 := by omega
        clear z1 z2 z3
        go_wp2_with (go_at_call 22; refine (decode_list k m n nl cl a L _ h1 h2 h3 hn SD GB E ER).mono ?_; rintro e w15 ⟨rfl, H15⟩; have S15 : Hid (Sent w15 4 E) := SR.out.below H15.out; have e9 := S15.out.c 1 (by omega); unfold er at e9; have nq := neq_same w15 (E 1))
        have F15 : Hid (Below w14.heap.size w14 w15) := HI.out.trans (H15.out.mono HI.out.size)
        go_roundw
        case rel => exact ⟨i + 1, by omega, by go_num, F15.out⟩
        case measure => simp [intOf]; omega
      · have e : i = 3 := by omega
        have i1 : ¬ ((i : Int) < 3) := by omega
        have SDR : Hid (Shd wr (some ⟨b, off, none⟩) k (lst T)) := HL14.out.below HI.out
        clear e
        go_wp2_with (go_at_call 22; refine (decode_good k m n k c (some ⟨b, off, none⟩) (lst T) _ h1 h2 h3 hn rfl SDR HG).mono ?_; rintro e w16 ⟨g16, rfl, H16⟩; have X16 : Hid (Bx w16 p (.int .i64 (k : Int)) (.int .i64 (m : Int)) (.int .i64 (n : Int)) (.int .i64 num) (.slice (some ⟨b, off, none⟩) k c)) := XR.out.below H16.out.2.2; have e2 := X16.out.c2)
        go_ret
        exact ⟨rfl, BL14.out.trans ((HI.out.trans (H16.out.2.2.mono HI.out.size)).mono BL14.out.size)⟩
end Go.Proofs.YtokkjdgfhpocdaaDoor
