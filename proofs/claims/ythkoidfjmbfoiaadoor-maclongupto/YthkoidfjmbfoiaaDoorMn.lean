/- The law MacDerives walked: it returns true, and changes nothing that was there. -/
import Derived.Test.YthkoidfjmbfoiaaDoorMm
namespace Go.Proofs.YthkoidfjmbfoiaaDoor
open Go.ChangeShapes Go.WideShapes Go.ChangeAt Go.RowKit
set_option linter.unusedVariables false
set_option linter.unusedSimpArgs false
theorem ws_cell {w X : World} {b off n m : Nat} {ws : List ByteArray} {wd : ByteArray} (h : Sws w (some ⟨b, off, none⟩) n ws) (hb : Below w.heap.size w X) (hm : m < n) (hd : ws.getD m ByteArray.empty = wd) : X.cell? ⟨b, off + m, none⟩ = some (.string wd) := by
  obtain ⟨b', off', e, c⟩ := (h.below hb).at_ hm
  simp at e
  obtain ⟨rfl, rfl⟩ := e
  rw [← hd]
  exact c
theorem derive_last (s : ByteArray) (ws : List ByteArray) (n m : Nat) (hn : n = ws.length) (hm : n = m + 1) (wd : ByteArray) (hd : ws.getD m ByteArray.empty = wd) : Gs.mac (derive s (ws.take m)) (bytesOf wd) = derive s ws := by
  have e : (ws.take m).length = m := by simp; omega
  unfold derive
  rw [e, deriveN_take _ _ _ _ (Nat.le_refl _), ← hn, hm, ← hd]
  rfl
set_option maxRecDepth 20000 in
set_option maxHeartbeats 4000000 in
theorem derives_law (w : World) {s : ByteArray} {a : Option Addr} {n c : Nat} {ws : List ByteArray} (hs : s.size ≤ 140737488351232) (hW0 : Hid (Sws w a n ws)) (hnc : n ≤ c) (hc : c ≤ 9223372036854775807) (hKs : Hid (Kst w)) (h0 : Hid (0 < w.heap.size)) :
    Calls Tryd.prog 5 #[.string s, .slice a n c] w fun e w' => e = .returned (.bool true) ∧ Hid (Below w.heap.size w w') := by
  obtain ⟨D, HD⟩ : ∃ D, Hid (derive s ws = D) := ⟨_, rfl⟩
  have DL : Hid (∀ x ∈ D, x < 256) := by
    rw [← HD.out]
    refine deriveN_lt (fun x hx => ?_) _ _
    rcases List.mem_append.1 hx with h | h
    · have : ∀ x ∈ bol, x < 256 := by decide
      exact this x h
    · exact bytesOf_lt s x h
  have nl : n ≤ 140737488351232 := hW0.out.le
  go_enter Tryd.func5, Tryd.ntmps5
  go_upto_region 3 with (first
    | (go_at_call 14; refine (malive_n _ hKs h0).mono ?_; rintro e w1 ⟨rfl, B1⟩))
  have V1 : Hid (Sws w1 a n ws) := hW0.out.below B1.out
  have T1 : Hid (Kst w1) := hKs.out.below B1.out h0.out
  have Z1 : Hid (0 < w1.heap.size) := Nat.lt_of_lt_of_le h0.out B1.out.size
  go_upto_region 4 with (first
    | (go_at_call 17; refine (derive_n hs V1 T1 Z1).mono ?_; rintro e w2 ⟨gD, mD, cD, rfl, H2⟩))
  have B2 : Hid (Below w.heap.size w w2) := B1.out.trans (H2.out.2.bel.mono B1.out.size)
  have Q2 : Hid (Sln w2 (some ⟨gD, 0, none⟩) mD D) := by rw [← HD.out]; exact H2.out.2.s
  clear H2 V1 T1 Z1
  refine wp_region_held (S := fun w' => (convert 22 9 (.slice (some ⟨gD, 0, none⟩) mD cD)).run Tryd.prog w' = .ok (.string (spell D)) w') (by kernel_rfl) ?_
  obtain ⟨w3, hw3⟩ : ∃ w3, w3 = w2.drewN 1 := ⟨_, rfl⟩
  have b3 : Hid (Below w2.heap.size w2 w3) := by rw [hw3]; exact below_drewN (Below.refl _ _) 1
  have hw4 : ({ heap := w2.heap, tape := w2.tape, drawn := w2.drawn + 1, os := w2.os, output := w2.output } : World) = w3 := hw3.symm
  refine (show _ = w3 from hw4) ▸ ?_
  clear hw3 hw4
  have Q3 : Hid (Sln w3 (some ⟨gD, 0, none⟩) mD D) := Q2.out.below b3.out
  have hS0 : (convert 22 9 (.slice (some ⟨gD, 0, none⟩) mD cD)).run Tryd.prog w3 = .ok (.string (spell D)) w3 := conv_n Q3
  have B3 : Hid (Below w.heap.size w w3) := B2.out.trans (b3.out.mono B2.out.size)
  have V3 : Hid (Sws w3 a n ws) := hW0.out.below B3.out
  refine wpAnyH_take (i := 0) (v := .slice (some ⟨gD, 0, none⟩) mD cD) rfl (by kernel_rfl) (by kernel_rfl) (by kernel_rfl) (fun _ _ _ h => h) (Or.inl ⟨by rfl, fun w hSw => by (try dsimp only at hSw); go_simp⟩) (by assumption) ?_
  simp only [List.getElem_toArray, List.getElem_cons_zero, List.getElem_cons_succ, Act.put, List.setIfInBounds_toArray, List.set_cons_zero, List.set_cons_succ]
  refine wpAnyH_take (i := 1) (v := .string (spell D)) rfl (by kernel_rfl) (by kernel_rfl) (by kernel_rfl) (fun _ _ _ h => h) (Or.inl ⟨by rfl, fun w hSw => by (try dsimp only at hSw); go_simp⟩) (by assumption) ?_
  simp only [List.getElem_toArray, List.getElem_cons_zero, List.getElem_cons_succ, Act.put, List.setIfInBounds_toArray, List.set_cons_zero, List.set_cons_succ]
  refine wpAnyH_take (i := 2) (v := .string s) rfl (by kernel_rfl) (by kernel_rfl) (by kernel_rfl) (fun _ _ _ h => h) (Or.inl ⟨by rfl, fun w hSw => by (try dsimp only at hSw); go_simp⟩) (by assumption) ?_
  simp only [List.getElem_toArray, List.getElem_cons_zero, List.getElem_cons_succ, Act.put, List.setIfInBounds_toArray, List.set_cons_zero, List.set_cons_succ]
  refine wpAnyH_take (i := 3) (v := .slice a n c) rfl (by kernel_rfl) (by kernel_rfl) (by kernel_rfl) (fun _ _ _ h => h) (Or.inl ⟨by rfl, fun w hSw => by (try dsimp only at hSw); go_simp⟩) (by assumption) ?_
  simp only [List.getElem_toArray, List.getElem_cons_zero, List.getElem_cons_succ, Act.put, List.setIfInBounds_toArray, List.set_cons_zero, List.set_cons_succ]
  refine wpAnyH_ready (rs := [4]) (by kernel_rfl) (by simp) (AllReadyH.cons rfl (fun K hK => ?_) AllReadyH.nil)
  simp only [List.getElem_toArray, List.getElem_cons_zero, List.getElem_cons_succ]
  rw [if_pos (by rfl)]
  go_simp
  go_wp2_with (go_at_call 18; refine (refderive_n hs V3).mono ?_; rintro e w5 ⟨gE, mE, cE, rfl, H5⟩)
  have Q5 : Hid (Sln w5 (some ⟨gD, 0, none⟩) mD D) := Q3.out.below H5.out.2.bel
  have E5 : Hid (Sln w5 (some ⟨gE, 0, none⟩) mE D) := by rw [← HD.out]; exact H5.out.2.s
  have B5 : Hid (Below w.heap.size w w5) := B3.out.trans (H5.out.2.bel.mono B3.out.size)
  refine hK.out _ _ (conv_n Q5) (fun hS_ => ?_)
  clear hK K H5
  have CE : (convert 22 9 (.slice (some ⟨gE, 0, none⟩) mE cE)).run Tryd.prog w5 = .ok (.string (spell D)) w5 := conv_n E5
  refine wpAnyH_ready (rs := [5]) (by kernel_rfl) (by simp) (AllReadyH.cons rfl (fun K hK => ?_) AllReadyH.nil)
  simp only [List.getElem_toArray, List.getElem_cons_zero, List.getElem_cons_succ]
  rw [if_pos (by rfl)]
  go_simp
  refine hK.out _ _ (conv_n Q5) (fun hS_ => ?_)
  clear hK K CE
  refine wpAnyH_take (i := 6) (v := .bool false) rfl (by kernel_rfl) (by kernel_rfl) (by kernel_rfl) (fun _ _ _ h => h) (Or.inl ⟨by rfl, fun w hSw => by (try dsimp only at hSw); go_simp⟩) (by assumption) ?_
  simp only [List.getElem_toArray, List.getElem_cons_zero, List.getElem_cons_succ, Act.put, List.setIfInBounds_toArray, List.set_cons_zero, List.set_cons_succ]
  refine wpAnyH_done (by kernel_rfl) ?_ _
  clear hS_ hS0 Q2 Q3 B1 B2 B3 b3 V3 E5
  by_cases hn0 : n = 0
  · subst hn0
    have we : ws = [] := List.eq_nil_of_length_eq_zero hW0.out.len.symm
    have AD := fun X => add_bol X s hs
    obtain ⟨t, TT⟩ : ∃ t, Hid (bolB ++ s = t) := ⟨_, rfl⟩
    rw [TT.out] at AD
    have ED : Hid (spell D = t) := by
      have h : D = bytesOf t := by rw [← HD.out, we, ← TT.out, bytesOf_bol]; rfl
      rw [h]
      exact spell_bytesOf t
    have CD : (convert 22 9 (.slice (some ⟨gD, 0, none⟩) mD cD)).run Tryd.prog w5 = .ok (.string t) w5 := by rw [← ED.out]; exact conv_n Q5
    clear we
    go_wp2
    go_ret
    refine ⟨ret_bool ?_, B5.out⟩
    rw [ED.out]
    simp
  · obtain ⟨m, hm⟩ : ∃ m, n = m + 1 := ⟨n - 1, by omega⟩
    have hmn : m < n := by omega
    obtain ⟨b, off, hab, _⟩ := hW0.out.at_ hmn
    have q0 : ((n : Int) == 0) = false := by simp; omega
    have q1 : (n : Int) - 1 = (m : Int) := by omega
    obtain ⟨wd, WD⟩ : ∃ wd, Hid (ws.getD m ByteArray.empty = wd) := ⟨_, rfl⟩
    have wsz : wd.size ≤ 140737488351232 := by rw [← WD.out]; exact hW0.out.size hmn
    have DE : Hid (Gs.mac (derive s (ws.take m)) (bytesOf wd) = D) := by
      have h := derive_last s ws n m hW0.out.len hm wd WD.out
      rw [HD.out] at h
      exact h
    subst hab
    have hW : Hid (Sws w (some ⟨b, off, none⟩) n ws) := hW0
    have i1 : (0 : Int) ≤ (m : Int) := by omega
    have i2 : (m : Int) ≤ (c : Int) := by omega
    have i3 : (m : Int) < (n : Int) := by omega
    clear hW0 hm hn0
    go_upto_region 9 with (fail)
    refine wp_region_held (S := fun w' => w'.cell? ⟨b, off + m, none⟩ = some (.string wd)) (by kernel_rfl) ?_
    obtain ⟨X0, hx0⟩ : ∃ X0, X0 = w5.drewN 1 := ⟨_, rfl⟩
    have b6 : Hid (Below w5.heap.size w5 X0) := by rw [hx0]; exact below_drewN (Below.refl _ _) 1
    have hx1 : ({ heap := w5.heap, tape := w5.tape, drawn := w5.drawn + 1, os := w5.os, output := w5.output } : World) = X0 := hx0.symm
    refine (show _ = X0 from hx1) ▸ ?_
    clear hx0 hx1
    have BX : Hid (Below w.heap.size w X0) := B5.out.trans (b6.out.mono B5.out.size)
    have QD : Hid (Sln X0 (some ⟨gD, 0, none⟩) mD D) := Q5.out.below b6.out
    have hS1 : X0.cell? ⟨b, off + m, none⟩ = some (.string wd) := ws_cell hW.out BX.out hmn WD.out
    clear Q5 B5 b6
    have TX : Hid (Kst X0) := hKs.out.below BX.out h0.out
    have ZX : Hid (0 < X0.heap.size) := Nat.lt_of_lt_of_le h0.out BX.out.size
    have UX : Hid (Sws X0 (some ⟨b, off, none⟩) m (ws.take m)) := (hW.out.below BX.out).take (by omega)
    refine wpAnyH_take (i := 0) (v := .string s) rfl (by kernel_rfl) (by kernel_rfl) (by kernel_rfl) (fun _ _ _ h => h) (Or.inl ⟨by rfl, fun w hSw => by (try dsimp only at hSw); go_simp⟩) (by assumption) ?_
    simp only [List.getElem_toArray, List.getElem_cons_zero, List.getElem_cons_succ, Act.put, List.setIfInBounds_toArray, List.set_cons_zero, List.set_cons_succ]
    refine wpAnyH_take (i := 1) (v := .slice (some ⟨b, off, none⟩) n c) rfl (by kernel_rfl) (by kernel_rfl) (by kernel_rfl) (fun _ _ _ h => h) (Or.inl ⟨by rfl, fun w hSw => by (try dsimp only at hSw); go_simp⟩) (by assumption) ?_
    simp only [List.getElem_toArray, List.getElem_cons_zero, List.getElem_cons_succ, Act.put, List.setIfInBounds_toArray, List.set_cons_zero, List.set_cons_succ]
    refine wpAnyH_take (i := 2) (v := .int .i64 (m : Int)) rfl (by kernel_rfl) (by kernel_rfl) (by kernel_rfl) (fun _ _ _ h => h) (Or.inl ⟨by rfl, fun w hSw => by (try dsimp only at hSw); go_simp⟩) (by assumption) ?_
    simp only [List.getElem_toArray, List.getElem_cons_zero, List.getElem_cons_succ, Act.put, List.setIfInBounds_toArray, List.set_cons_zero, List.set_cons_succ]
    refine wpAnyH_take (i := 3) (v := .slice (some ⟨b, off, none⟩) m c) rfl (by kernel_rfl) (by kernel_rfl) (by kernel_rfl) (fun _ _ _ h => h) (Or.inl ⟨by rfl, fun w hSw => by (try dsimp only at hSw); go_simp⟩) (by assumption) ?_
    simp only [List.getElem_toArray, List.getElem_cons_zero, List.getElem_cons_succ, Act.put, List.setIfInBounds_toArray, List.set_cons_zero, List.set_cons_succ]
    refine wpAnyH_take (i := 5) (v := .slice (some ⟨b, off, none⟩) n c) rfl (by kernel_rfl) (by kernel_rfl) (by kernel_rfl) (fun _ _ _ h => h) (Or.inl ⟨by rfl, fun w hSw => by (try dsimp only at hSw); go_simp⟩) (by assumption) ?_
    simp only [List.getElem_toArray, List.getElem_cons_zero, List.getElem_cons_succ, Act.put, List.setIfInBounds_toArray, List.set_cons_zero, List.set_cons_succ]
    refine wpAnyH_take (i := 6) (v := .int .i64 (m : Int)) rfl (by kernel_rfl) (by kernel_rfl) (by kernel_rfl) (fun _ _ _ h => h) (Or.inl ⟨by rfl, fun w hSw => by (try dsimp only at hSw); go_simp⟩) (by assumption) ?_
    simp only [List.getElem_toArray, List.getElem_cons_zero, List.getElem_cons_succ, Act.put, List.setIfInBounds_toArray, List.set_cons_zero, List.set_cons_succ]
    refine wpAnyH_take (i := 7) (v := .pointer (some ⟨b, off + m, none⟩)) rfl (by kernel_rfl) (by kernel_rfl) (by kernel_rfl) (fun _ _ _ h => h) (Or.inl ⟨by rfl, fun w hSw => by (try dsimp only at hSw); go_simp⟩) (by assumption) ?_
    simp only [List.getElem_toArray, List.getElem_cons_zero, List.getElem_cons_succ, Act.put, List.setIfInBounds_toArray, List.set_cons_zero, List.set_cons_succ]
    refine wpAnyH_take (i := 8) (v := .string wd) rfl (by kernel_rfl) (by kernel_rfl) (by kernel_rfl) (fun _ _ _ h => h) (Or.inl ⟨by rfl, fun w hSw => by (try dsimp only at hSw); go_simp⟩) (by assumption) ?_
    simp only [List.getElem_toArray, List.getElem_cons_zero, List.getElem_cons_succ, Act.put, List.setIfInBounds_toArray, List.set_cons_zero, List.set_cons_succ]
    refine wpAnyH_ready (rs := [4, 9, 11]) (by kernel_rfl) (by simp) (AllReadyH.cons rfl (fun K hK => ?_) (AllReadyH.cons rfl (fun K hK => ?_) (AllReadyH.cons rfl (fun K hK => ?_) AllReadyH.nil)))
    · simp only [List.getElem_toArray, List.getElem_cons_zero, List.getElem_cons_succ]
      rw [if_pos (by rfl)]
      go_simp
      go_wp2_with (go_at_call 17; refine (derive_n hs UX TX ZX).mono ?_; rintro e X1 ⟨gK, mK, cK, rfl, HX⟩)
      have hb : Below X0.heap.size X0 X1 := HX.out.2.bel
      have SK : Hid (Sln X1 (some ⟨gK, 0, none⟩) mK (derive s (ws.take m))) := HX.out.2.s
      have CK : Hid (mK ≤ cK) := HX.out.1
      have BX : Hid (Below w.heap.size w X1) := BX.out.trans (hb.mono BX.out.size)
      have QD : Hid (Sln X1 (some ⟨gD, 0, none⟩) mD D) := QD.out.below hb
      refine hK.out _ _ (ws_cell hW.out BX.out hmn WD.out) (fun hS_ => ?_)
      clear hK K hb HX
      have TX : Hid (Kst X1) := hKs.out.below BX.out h0.out
      have ZX : Hid (0 < X1.heap.size) := Nat.lt_of_lt_of_le h0.out BX.out.size
      have UX : Hid (Sws X1 (some ⟨b, off, none⟩) m (ws.take m)) := (hW.out.below BX.out).take (by omega)
      refine wpAnyH_ready (rs := [9, 11]) (by kernel_rfl) (by simp) (AllReadyH.cons rfl (fun K hK => ?_) (AllReadyH.cons rfl (fun K hK => ?_) AllReadyH.nil))
      · simp only [List.getElem_toArray, List.getElem_cons_zero, List.getElem_cons_succ]
        rw [if_pos (by rfl)]
        have CV := run_cv X1 wd
        obtain ⟨X2, WY⟩ : ∃ Y, Hid (cvW X1 wd = Y) := ⟨_, rfl⟩
        rw [WY.out] at CV
        have hb : Below X1.heap.size X1 X2 := by rw [← WY.out]; exact cvW_below X1 wd
        have SM : Hid (Sln X2 (some ⟨X1.heap.size, 0, none⟩) wd.size (bytesOf wd)) := by rw [← WY.out]; exact cvW_sln X1 wd (by omega)
        have CM : Hid (wd.size ≤ cvC X1 wd) := cvC_ge X1 wd
        have BX : Hid (Below w.heap.size w X2) := BX.out.trans (hb.mono BX.out.size)
        have QD : Hid (Sln X2 (some ⟨gD, 0, none⟩) mD D) := QD.out.below hb
        have SK : Hid (Sln X2 (some ⟨gK, 0, none⟩) mK (derive s (ws.take m))) := SK.out.below hb
        have HB : Hid (Below X1.heap.size X1 X2) := hb
        clear hb
        go_simp
        refine hK.out _ _ (ws_cell hW.out BX.out hmn WD.out) (fun hS_ => ?_)
        clear hK K CV HB WY
        have TX : Hid (Kst X2) := hKs.out.below BX.out h0.out
        have ZX : Hid (0 < X2.heap.size) := Nat.lt_of_lt_of_le h0.out BX.out.size
        have UX : Hid (Sws X2 (some ⟨b, off, none⟩) m (ws.take m)) := (hW.out.below BX.out).take (by omega)
        refine wpAnyH_ready (rs := [10, 11]) (by kernel_rfl) (by simp) (AllReadyH.cons rfl (fun K hK => ?_) (AllReadyH.cons rfl (fun K hK => ?_) AllReadyH.nil))
        · simp only [List.getElem_toArray, List.getElem_cons_zero, List.getElem_cons_succ]
          rw [if_pos (by rfl)]
          go_simp
          go_wp2_with (go_at_call 15; refine (macsum_n SK CK.out SM CM.out TX ZX).mono ?_; rintro e X3 ⟨d, rfl, HX⟩)
          have hb : Below X2.heap.size X2 X3 := HX.out.2
          have LD : Hid (d.length = 32) := by rw [HX.out.1]; exact mac_length _ _
          have DD : Hid (d = D) := by rw [HX.out.1]; exact DE.out
          have BX : Hid (Below w.heap.size w X3) := BX.out.trans (hb.mono BX.out.size)
          have QD : Hid (Sln X3 (some ⟨gD, 0, none⟩) mD D) := QD.out.below hb
          refine hK.out _ _ (ws_cell hW.out BX.out hmn WD.out) (fun hS_ => ?_)
          clear hK K hb HX SK SM
          have TX : Hid (Kst X3) := hKs.out.below BX.out h0.out
          have ZX : Hid (0 < X3.heap.size) := Nat.lt_of_lt_of_le h0.out BX.out.size
          have UX : Hid (Sws X3 (some ⟨b, off, none⟩) m (ws.take m)) := (hW.out.below BX.out).take (by omega)
          refine wpAnyH_ready (rs := [11]) (by kernel_rfl) (by simp) (AllReadyH.cons rfl (fun K hK => ?_) AllReadyH.nil)
          simp only [List.getElem_toArray, List.getElem_cons_zero, List.getElem_cons_succ]
          rw [if_pos (by rfl)]
          obtain ⟨X4, WY⟩ : ∃ Y, Hid (X3.alloc (.cells (cs .u8 Zb32) 25) = Y) := ⟨_, rfl⟩
          have HB : Hid (Below X3.heap.size X3 X4) := by rw [← WY.out]; exact (Below.refl _ _).alloc (Nat.le_refl _) _
          have AA : Hid (Arr .u8 25 X4 X3.heap.size Zb32) := by rw [← WY.out]; exact Arr.new X3 .u8 25 Zb32
          have GA : Hid (w.heap.size ≤ X3.heap.size) := BX.out.size
          have APD : Hid (∀ b off, D ≠ [] → some (⟨gD, 0, none⟩ : Addr) = some ⟨b, off, none⟩ → b ≠ X3.heap.size) := QD.out.apart (Nat.le_refl _)
          have BX : Hid (Below w.heap.size w X4) := BX.out.trans (HB.out.mono BX.out.size)
          have QD : Hid (Sln X4 (some ⟨gD, 0, none⟩) mD D) := QD.out.below HB.out
          go_simp
          refine (show _ = X4 from WY.out) ▸ ?_
          refine hK.out _ _ (ws_cell hW.out BX.out hmn WD.out) (fun hS_ => ?_)
          clear hK K HB WY
          have TX : Hid (Kst X4) := hKs.out.below BX.out h0.out
          have ZX : Hid (0 < X4.heap.size) := Nat.lt_of_lt_of_le h0.out BX.out.size
          have UX : Hid (Sws X4 (some ⟨b, off, none⟩) m (ws.take m)) := (hW.out.below BX.out).take (by omega)
          refine wpAnyH_ready (rs := [12]) (by kernel_rfl) (by simp) (AllReadyH.cons rfl (fun K hK => ?_) AllReadyH.nil)
          simp only [List.getElem_toArray, List.getElem_cons_zero, List.getElem_cons_succ]
          rw [if_pos (by rfl)]
          obtain ⟨X5, WY⟩ : ∃ Y, Hid (X4.setRow X3.heap.size (cs .u8 d) = Y) := ⟨_, rfl⟩
          have BY : Hid (Below w.heap.size w X5) := by rw [← WY.out]; exact (Oth.setRow _).below BX.out GA.out
          have QDY : Hid (Sln X5 (some ⟨gD, 0, none⟩) mD D) := by rw [← WY.out]; exact But.sln (But.oth (Oth.setRow _)) QD.out APD.out
          have AY : Hid (Arr .u8 25 X5 X3.heap.size d) := by rw [← WY.out]; exact AA.out.setRow d
          refine wp_st (k := .u8) (t := 25) (l := Zb32) (l2 := d) (by rfl) 25 (.tmp 7) (.tmp 41) (by rfl) (by rfl) (by rfl) AA.out (by rw [LD.out]; exact sz25) (by rw [LD.out]; rfl) ?_
          refine (show _ = X5 from WY.out) ▸ ?_
          refine hK.out _ _ (ws_cell hW.out BY.out hmn WD.out) (fun hS_ => ?_)
          clear hK K hS_ WY
          refine wpAnyH_done (by kernel_rfl) ?_ _
          have QD : Hid (Sln X5 (some ⟨gD, 0, none⟩) mD D) := QDY
          have QY : Hid (Sln X5 (some ⟨X3.heap.size, 0, none⟩) 32 D) := by have h := Blk0.sln AY.out (by rw [DD.out]; exact DL.out) LD.out (by omega); rw [DD.out] at h; exact h
          have e1 : ∀ j, (convert 22 9 (.slice (some ⟨X3.heap.size, 0, none⟩) 32 32)).run Tryd.prog (X5.drewN j) = .ok (.string (spell D)) (X5.drewN j) := fun j => conv_n (QY.out.drewN j)
          have e2 : ∀ j, (convert 22 9 (.slice (some ⟨gD, 0, none⟩) mD cD)).run Tryd.prog (X5.drewN j) = .ok (.string (spell D)) (X5.drewN j) := fun j => conv_n (QD.out.drewN j)
          go_wp2
          go_quiet (fail)
          clear e1 e2
          go_wp2
          go_ret
          exact ⟨rfl, below_drewN BY.out _⟩
        · simp only [List.getElem_toArray, List.getElem_cons_zero, List.getElem_cons_succ]
          rw [if_pos (by rfl)]
          obtain ⟨X6, WY⟩ : ∃ Y, Hid (X2.alloc (.cells (cs .u8 Zb32) 25) = Y) := ⟨_, rfl⟩
          have HB : Hid (Below X2.heap.size X2 X6) := by rw [← WY.out]; exact (Below.refl _ _).alloc (Nat.le_refl _) _
          have AA : Hid (Arr .u8 25 X6 X2.heap.size Zb32) := by rw [← WY.out]; exact Arr.new X2 .u8 25 Zb32
          have GA : Hid (w.heap.size ≤ X2.heap.size) := BX.out.size
          have APD : Hid (∀ b off, D ≠ [] → some (⟨gD, 0, none⟩ : Addr) = some ⟨b, off, none⟩ → b ≠ X2.heap.size) := QD.out.apart (Nat.le_refl _)
          have BX : Hid (Below w.heap.size w X6) := BX.out.trans (HB.out.mono BX.out.size)
          have QD : Hid (Sln X6 (some ⟨gD, 0, none⟩) mD D) := QD.out.below HB.out
          have SK : Hid (Sln X6 (some ⟨gK, 0, none⟩) mK (derive s (ws.take m))) := SK.out.below HB.out
          have SM : Hid (Sln X6 (some ⟨X1.heap.size, 0, none⟩) wd.size (bytesOf wd)) := SM.out.below HB.out
          go_simp
          refine (show _ = X6 from WY.out) ▸ ?_
          refine hK.out _ _ (ws_cell hW.out BX.out hmn WD.out) (fun hS_ => ?_)
          clear hK K HB WY
          have TX : Hid (Kst X6) := hKs.out.below BX.out h0.out
          have ZX : Hid (0 < X6.heap.size) := Nat.lt_of_lt_of_le h0.out BX.out.size
          have UX : Hid (Sws X6 (some ⟨b, off, none⟩) m (ws.take m)) := (hW.out.below BX.out).take (by omega)
          refine wpAnyH_ready (rs := [10]) (by kernel_rfl) (by simp) (AllReadyH.cons rfl (fun K hK => ?_) AllReadyH.nil)
          simp only [List.getElem_toArray, List.getElem_cons_zero, List.getElem_cons_succ]
          rw [if_pos (by rfl)]
          go_simp
          go_wp2_with (go_at_call 15; refine (macsum_n SK CK.out SM CM.out TX ZX).mono ?_; rintro e X7 ⟨d, rfl, HX⟩)
          have hb : Below X6.heap.size X6 X7 := HX.out.2
          have LD : Hid (d.length = 32) := by rw [HX.out.1]; exact mac_length _ _
          have DD : Hid (d = D) := by rw [HX.out.1]; exact DE.out
          have BX : Hid (Below w.heap.size w X7) := BX.out.trans (hb.mono BX.out.size)
          have QD : Hid (Sln X7 (some ⟨gD, 0, none⟩) mD D) := QD.out.below hb
          have AA : Hid (Arr .u8 25 X7 X2.heap.size Zb32) := AA.out.below hb AA.out.lt
          refine hK.out _ _ (ws_cell hW.out BX.out hmn WD.out) (fun hS_ => ?_)
          clear hK K hb HX SK SM
          have TX : Hid (Kst X7) := hKs.out.below BX.out h0.out
          have ZX : Hid (0 < X7.heap.size) := Nat.lt_of_lt_of_le h0.out BX.out.size
          have UX : Hid (Sws X7 (some ⟨b, off, none⟩) m (ws.take m)) := (hW.out.below BX.out).take (by omega)
          refine wpAnyH_ready (rs := [12]) (by kernel_rfl) (by simp) (AllReadyH.cons rfl (fun K hK => ?_) AllReadyH.nil)
          simp only [List.getElem_toArray, List.getElem_cons_zero, List.getElem_cons_succ]
          rw [if_pos (by rfl)]
          obtain ⟨X8, WY⟩ : ∃ Y, Hid (X7.setRow X2.heap.size (cs .u8 d) = Y) := ⟨_, rfl⟩
          have BY : Hid (Below w.heap.size w X8) := by rw [← WY.out]; exact (Oth.setRow _).below BX.out GA.out
          have QDY : Hid (Sln X8 (some ⟨gD, 0, none⟩) mD D) := by rw [← WY.out]; exact But.sln (But.oth (Oth.setRow _)) QD.out APD.out
          have AY : Hid (Arr .u8 25 X8 X2.heap.size d) := by rw [← WY.out]; exact AA.out.setRow d
          refine wp_st (k := .u8) (t := 25) (l := Zb32) (l2 := d) (by rfl) 25 (.tmp 7) (.tmp 41) (by rfl) (by rfl) (by rfl) AA.out (by rw [LD.out]; exact sz25) (by rw [LD.out]; rfl) ?_
          refine (show _ = X8 from WY.out) ▸ ?_
          refine hK.out _ _ (ws_cell hW.out BY.out hmn WD.out) (fun hS_ => ?_)
          clear hK K hS_ WY
          refine wpAnyH_done (by kernel_rfl) ?_ _
          have QD : Hid (Sln X8 (some ⟨gD, 0, none⟩) mD D) := QDY
          have QY : Hid (Sln X8 (some ⟨X2.heap.size, 0, none⟩) 32 D) := by have h := Blk0.sln AY.out (by rw [DD.out]; exact DL.out) LD.out (by omega); rw [DD.out] at h; exact h
          have e1 : ∀ j, (convert 22 9 (.slice (some ⟨X2.heap.size, 0, none⟩) 32 32)).run Tryd.prog (X8.drewN j) = .ok (.string (spell D)) (X8.drewN j) := fun j => conv_n (QY.out.drewN j)
          have e2 : ∀ j, (convert 22 9 (.slice (some ⟨gD, 0, none⟩) mD cD)).run Tryd.prog (X8.drewN j) = .ok (.string (spell D)) (X8.drewN j) := fun j => conv_n (QD.out.drewN j)
          go_wp2
          go_quiet (fail)
          clear e1 e2
          go_wp2
          go_ret
          exact ⟨rfl, below_drewN BY.out _⟩
      · simp only [List.getElem_toArray, List.getElem_cons_zero, List.getElem_cons_succ]
        rw [if_pos (by rfl)]
        obtain ⟨X9, WY⟩ : ∃ Y, Hid (X1.alloc (.cells (cs .u8 Zb32) 25) = Y) := ⟨_, rfl⟩
        have HB : Hid (Below X1.heap.size X1 X9) := by rw [← WY.out]; exact (Below.refl _ _).alloc (Nat.le_refl _) _
        have AA : Hid (Arr .u8 25 X9 X1.heap.size Zb32) := by rw [← WY.out]; exact Arr.new X1 .u8 25 Zb32
        have GA : Hid (w.heap.size ≤ X1.heap.size) := BX.out.size
        have APD : Hid (∀ b off, D ≠ [] → some (⟨gD, 0, none⟩ : Addr) = some ⟨b, off, none⟩ → b ≠ X1.heap.size) := QD.out.apart (Nat.le_refl _)
        have BX : Hid (Below w.heap.size w X9) := BX.out.trans (HB.out.mono BX.out.size)
        have QD : Hid (Sln X9 (some ⟨gD, 0, none⟩) mD D) := QD.out.below HB.out
        have SK : Hid (Sln X9 (some ⟨gK, 0, none⟩) mK (derive s (ws.take m))) := SK.out.below HB.out
        go_simp
        refine (show _ = X9 from WY.out) ▸ ?_
        refine hK.out _ _ (ws_cell hW.out BX.out hmn WD.out) (fun hS_ => ?_)
        clear hK K HB WY
        have TX : Hid (Kst X9) := hKs.out.below BX.out h0.out
        have ZX : Hid (0 < X9.heap.size) := Nat.lt_of_lt_of_le h0.out BX.out.size
        have UX : Hid (Sws X9 (some ⟨b, off, none⟩) m (ws.take m)) := (hW.out.below BX.out).take (by omega)
        refine wpAnyH_ready (rs := [9]) (by kernel_rfl) (by simp) (AllReadyH.cons rfl (fun K hK => ?_) AllReadyH.nil)
        simp only [List.getElem_toArray, List.getElem_cons_zero, List.getElem_cons_succ]
        rw [if_pos (by rfl)]
        have CV := run_cv X9 wd
        obtain ⟨X10, WY⟩ : ∃ Y, Hid (cvW X9 wd = Y) := ⟨_, rfl⟩
        rw [WY.out] at CV
        have hb : Below X9.heap.size X9 X10 := by rw [← WY.out]; exact cvW_below X9 wd
        have SM : Hid (Sln X10 (some ⟨X9.heap.size, 0, none⟩) wd.size (bytesOf wd)) := by rw [← WY.out]; exact cvW_sln X9 wd (by omega)
        have CM : Hid (wd.size ≤ cvC X9 wd) := cvC_ge X9 wd
        have BX : Hid (Below w.heap.size w X10) := BX.out.trans (hb.mono BX.out.size)
        have QD : Hid (Sln X10 (some ⟨gD, 0, none⟩) mD D) := QD.out.below hb
        have SK : Hid (Sln X10 (some ⟨gK, 0, none⟩) mK (derive s (ws.take m))) := SK.out.below hb
        have AA : Hid (Arr .u8 25 X10 X1.heap.size Zb32) := AA.out.below hb AA.out.lt
        have HB : Hid (Below X9.heap.size X9 X10) := hb
        clear hb
        go_simp
        refine hK.out _ _ (ws_cell hW.out BX.out hmn WD.out) (fun hS_ => ?_)
        clear hK K CV HB WY
        have TX : Hid (Kst X10) := hKs.out.below BX.out h0.out
        have ZX : Hid (0 < X10.heap.size) := Nat.lt_of_lt_of_le h0.out BX.out.size
        have UX : Hid (Sws X10 (some ⟨b, off, none⟩) m (ws.take m)) := (hW.out.below BX.out).take (by omega)
        refine wpAnyH_ready (rs := [10]) (by kernel_rfl) (by simp) (AllReadyH.cons rfl (fun K hK => ?_) AllReadyH.nil)
        simp only [List.getElem_toArray, List.getElem_cons_zero, List.getElem_cons_succ]
        rw [if_pos (by rfl)]
        go_simp
        go_wp2_with (go_at_call 15; refine (macsum_n SK CK.out SM CM.out TX ZX).mono ?_; rintro e X11 ⟨d, rfl, HX⟩)
        have hb : Below X10.heap.size X10 X11 := HX.out.2
        have LD : Hid (d.length = 32) := by rw [HX.out.1]; exact mac_length _ _
        have DD : Hid (d = D) := by rw [HX.out.1]; exact DE.out
        have BX : Hid (Below w.heap.size w X11) := BX.out.trans (hb.mono BX.out.size)
        have QD : Hid (Sln X11 (some ⟨gD, 0, none⟩) mD D) := QD.out.below hb
        have AA : Hid (Arr .u8 25 X11 X1.heap.size Zb32) := AA.out.below hb AA.out.lt
        refine hK.out _ _ (ws_cell hW.out BX.out hmn WD.out) (fun hS_ => ?_)
        clear hK K hb HX SK SM
        have TX : Hid (Kst X11) := hKs.out.below BX.out h0.out
        have ZX : Hid (0 < X11.heap.size) := Nat.lt_of_lt_of_le h0.out BX.out.size
        have UX : Hid (Sws X11 (some ⟨b, off, none⟩) m (ws.take m)) := (hW.out.below BX.out).take (by omega)
        refine wpAnyH_ready (rs := [12]) (by kernel_rfl) (by simp) (AllReadyH.cons rfl (fun K hK => ?_) AllReadyH.nil)
        simp only [List.getElem_toArray, List.getElem_cons_zero, List.getElem_cons_succ]
        rw [if_pos (by rfl)]
        obtain ⟨X12, WY⟩ : ∃ Y, Hid (X11.setRow X1.heap.size (cs .u8 d) = Y) := ⟨_, rfl⟩
        have BY : Hid (Below w.heap.size w X12) := by rw [← WY.out]; exact (Oth.setRow _).below BX.out GA.out
        have QDY : Hid (Sln X12 (some ⟨gD, 0, none⟩) mD D) := by rw [← WY.out]; exact But.sln (But.oth (Oth.setRow _)) QD.out APD.out
        have AY : Hid (Arr .u8 25 X12 X1.heap.size d) := by rw [← WY.out]; exact AA.out.setRow d
        refine wp_st (k := .u8) (t := 25) (l := Zb32) (l2 := d) (by rfl) 25 (.tmp 7) (.tmp 41) (by rfl) (by rfl) (by rfl) AA.out (by rw [LD.out]; exact sz25) (by rw [LD.out]; rfl) ?_
        refine (show _ = X12 from WY.out) ▸ ?_
        refine hK.out _ _ (ws_cell hW.out BY.out hmn WD.out) (fun hS_ => ?_)
        clear hK K hS_ WY
        refine wpAnyH_done (by kernel_rfl) ?_ _
        have QD : Hid (Sln X12 (some ⟨gD, 0, none⟩) mD D) := QDY
        have QY : Hid (Sln X12 (some ⟨X1.heap.size, 0, none⟩) 32 D) := by have h := Blk0.sln AY.out (by rw [DD.out]; exact DL.out) LD.out (by omega); rw [DD.out] at h; exact h
        have e1 : ∀ j, (convert 22 9 (.slice (some ⟨X1.heap.size, 0, none⟩) 32 32)).run Tryd.prog (X12.drewN j) = .ok (.string (spell D)) (X12.drewN j) := fun j => conv_n (QY.out.drewN j)
        have e2 : ∀ j, (convert 22 9 (.slice (some ⟨gD, 0, none⟩) mD cD)).run Tryd.prog (X12.drewN j) = .ok (.string (spell D)) (X12.drewN j) := fun j => conv_n (QD.out.drewN j)
        go_wp2
        go_quiet (fail)
        clear e1 e2
        go_wp2
        go_ret
        exact ⟨rfl, below_drewN BY.out _⟩
    · simp only [List.getElem_toArray, List.getElem_cons_zero, List.getElem_cons_succ]
      rw [if_pos (by rfl)]
      have CV := run_cv X0 wd
      obtain ⟨X13, WY⟩ : ∃ Y, Hid (cvW X0 wd = Y) := ⟨_, rfl⟩
      rw [WY.out] at CV
      have hb : Below X0.heap.size X0 X13 := by rw [← WY.out]; exact cvW_below X0 wd
      have SM : Hid (Sln X13 (some ⟨X0.heap.size, 0, none⟩) wd.size (bytesOf wd)) := by rw [← WY.out]; exact cvW_sln X0 wd (by omega)
      have CM : Hid (wd.size ≤ cvC X0 wd) := cvC_ge X0 wd
      have BX : Hid (Below w.heap.size w X13) := BX.out.trans (hb.mono BX.out.size)
      have QD : Hid (Sln X13 (some ⟨gD, 0, none⟩) mD D) := QD.out.below hb
      have HB : Hid (Below X0.heap.size X0 X13) := hb
      clear hb
      go_simp
      refine hK.out _ _ (ws_cell hW.out BX.out hmn WD.out) (fun hS_ => ?_)
      clear hK K CV HB WY
      have TX : Hid (Kst X13) := hKs.out.below BX.out h0.out
      have ZX : Hid (0 < X13.heap.size) := Nat.lt_of_lt_of_le h0.out BX.out.size
      have UX : Hid (Sws X13 (some ⟨b, off, none⟩) m (ws.take m)) := (hW.out.below BX.out).take (by omega)
      refine wpAnyH_ready (rs := [4, 11]) (by kernel_rfl) (by simp) (AllReadyH.cons rfl (fun K hK => ?_) (AllReadyH.cons rfl (fun K hK => ?_) AllReadyH.nil))
      · simp only [List.getElem_toArray, List.getElem_cons_zero, List.getElem_cons_succ]
        rw [if_pos (by rfl)]
        go_simp
        go_wp2_with (go_at_call 17; refine (derive_n hs UX TX ZX).mono ?_; rintro e X14 ⟨gK, mK, cK, rfl, HX⟩)
        have hb : Below X13.heap.size X13 X14 := HX.out.2.bel
        have SK : Hid (Sln X14 (some ⟨gK, 0, none⟩) mK (derive s (ws.take m))) := HX.out.2.s
        have CK : Hid (mK ≤ cK) := HX.out.1
        have BX : Hid (Below w.heap.size w X14) := BX.out.trans (hb.mono BX.out.size)
        have QD : Hid (Sln X14 (some ⟨gD, 0, none⟩) mD D) := QD.out.below hb
        have SM : Hid (Sln X14 (some ⟨X0.heap.size, 0, none⟩) wd.size (bytesOf wd)) := SM.out.below hb
        refine hK.out _ _ (ws_cell hW.out BX.out hmn WD.out) (fun hS_ => ?_)
        clear hK K hb HX
        have TX : Hid (Kst X14) := hKs.out.below BX.out h0.out
        have ZX : Hid (0 < X14.heap.size) := Nat.lt_of_lt_of_le h0.out BX.out.size
        have UX : Hid (Sws X14 (some ⟨b, off, none⟩) m (ws.take m)) := (hW.out.below BX.out).take (by omega)
        refine wpAnyH_ready (rs := [10, 11]) (by kernel_rfl) (by simp) (AllReadyH.cons rfl (fun K hK => ?_) (AllReadyH.cons rfl (fun K hK => ?_) AllReadyH.nil))
        · simp only [List.getElem_toArray, List.getElem_cons_zero, List.getElem_cons_succ]
          rw [if_pos (by rfl)]
          go_simp
          go_wp2_with (go_at_call 15; refine (macsum_n SK CK.out SM CM.out TX ZX).mono ?_; rintro e X15 ⟨d, rfl, HX⟩)
          have hb : Below X14.heap.size X14 X15 := HX.out.2
          have LD : Hid (d.length = 32) := by rw [HX.out.1]; exact mac_length _ _
          have DD : Hid (d = D) := by rw [HX.out.1]; exact DE.out
          have BX : Hid (Below w.heap.size w X15) := BX.out.trans (hb.mono BX.out.size)
          have QD : Hid (Sln X15 (some ⟨gD, 0, none⟩) mD D) := QD.out.below hb
          refine hK.out _ _ (ws_cell hW.out BX.out hmn WD.out) (fun hS_ => ?_)
          clear hK K hb HX SK SM
          have TX : Hid (Kst X15) := hKs.out.below BX.out h0.out
          have ZX : Hid (0 < X15.heap.size) := Nat.lt_of_lt_of_le h0.out BX.out.size
          have UX : Hid (Sws X15 (some ⟨b, off, none⟩) m (ws.take m)) := (hW.out.below BX.out).take (by omega)
          refine wpAnyH_ready (rs := [11]) (by kernel_rfl) (by simp) (AllReadyH.cons rfl (fun K hK => ?_) AllReadyH.nil)
          simp only [List.getElem_toArray, List.getElem_cons_zero, List.getElem_cons_succ]
          rw [if_pos (by rfl)]
          obtain ⟨X16, WY⟩ : ∃ Y, Hid (X15.alloc (.cells (cs .u8 Zb32) 25) = Y) := ⟨_, rfl⟩
          have HB : Hid (Below X15.heap.size X15 X16) := by rw [← WY.out]; exact (Below.refl _ _).alloc (Nat.le_refl _) _
          have AA : Hid (Arr .u8 25 X16 X15.heap.size Zb32) := by rw [← WY.out]; exact Arr.new X15 .u8 25 Zb32
          have GA : Hid (w.heap.size ≤ X15.heap.size) := BX.out.size
          have APD : Hid (∀ b off, D ≠ [] → some (⟨gD, 0, none⟩ : Addr) = some ⟨b, off, none⟩ → b ≠ X15.heap.size) := QD.out.apart (Nat.le_refl _)
          have BX : Hid (Below w.heap.size w X16) := BX.out.trans (HB.out.mono BX.out.size)
          have QD : Hid (Sln X16 (some ⟨gD, 0, none⟩) mD D) := QD.out.below HB.out
          go_simp
          refine (show _ = X16 from WY.out) ▸ ?_
          refine hK.out _ _ (ws_cell hW.out BX.out hmn WD.out) (fun hS_ => ?_)
          clear hK K HB WY
          have TX : Hid (Kst X16) := hKs.out.below BX.out h0.out
          have ZX : Hid (0 < X16.heap.size) := Nat.lt_of_lt_of_le h0.out BX.out.size
          have UX : Hid (Sws X16 (some ⟨b, off, none⟩) m (ws.take m)) := (hW.out.below BX.out).take (by omega)
          refine wpAnyH_ready (rs := [12]) (by kernel_rfl) (by simp) (AllReadyH.cons rfl (fun K hK => ?_) AllReadyH.nil)
          simp only [List.getElem_toArray, List.getElem_cons_zero, List.getElem_cons_succ]
          rw [if_pos (by rfl)]
          obtain ⟨X17, WY⟩ : ∃ Y, Hid (X16.setRow X15.heap.size (cs .u8 d) = Y) := ⟨_, rfl⟩
          have BY : Hid (Below w.heap.size w X17) := by rw [← WY.out]; exact (Oth.setRow _).below BX.out GA.out
          have QDY : Hid (Sln X17 (some ⟨gD, 0, none⟩) mD D) := by rw [← WY.out]; exact But.sln (But.oth (Oth.setRow _)) QD.out APD.out
          have AY : Hid (Arr .u8 25 X17 X15.heap.size d) := by rw [← WY.out]; exact AA.out.setRow d
          refine wp_st (k := .u8) (t := 25) (l := Zb32) (l2 := d) (by rfl) 25 (.tmp 7) (.tmp 41) (by rfl) (by rfl) (by rfl) AA.out (by rw [LD.out]; exact sz25) (by rw [LD.out]; rfl) ?_
          refine (show _ = X17 from WY.out) ▸ ?_
          refine hK.out _ _ (ws_cell hW.out BY.out hmn WD.out) (fun hS_ => ?_)
          clear hK K hS_ WY
          refine wpAnyH_done (by kernel_rfl) ?_ _
          have QD : Hid (Sln X17 (some ⟨gD, 0, none⟩) mD D) := QDY
          have QY : Hid (Sln X17 (some ⟨X15.heap.size, 0, none⟩) 32 D) := by have h := Blk0.sln AY.out (by rw [DD.out]; exact DL.out) LD.out (by omega); rw [DD.out] at h; exact h
          have e1 : ∀ j, (convert 22 9 (.slice (some ⟨X15.heap.size, 0, none⟩) 32 32)).run Tryd.prog (X17.drewN j) = .ok (.string (spell D)) (X17.drewN j) := fun j => conv_n (QY.out.drewN j)
          have e2 : ∀ j, (convert 22 9 (.slice (some ⟨gD, 0, none⟩) mD cD)).run Tryd.prog (X17.drewN j) = .ok (.string (spell D)) (X17.drewN j) := fun j => conv_n (QD.out.drewN j)
          go_wp2
          go_quiet (fail)
          clear e1 e2
          go_wp2
          go_ret
          exact ⟨rfl, below_drewN BY.out _⟩
        · simp only [List.getElem_toArray, List.getElem_cons_zero, List.getElem_cons_succ]
          rw [if_pos (by rfl)]
          obtain ⟨X18, WY⟩ : ∃ Y, Hid (X14.alloc (.cells (cs .u8 Zb32) 25) = Y) := ⟨_, rfl⟩
          have HB : Hid (Below X14.heap.size X14 X18) := by rw [← WY.out]; exact (Below.refl _ _).alloc (Nat.le_refl _) _
          have AA : Hid (Arr .u8 25 X18 X14.heap.size Zb32) := by rw [← WY.out]; exact Arr.new X14 .u8 25 Zb32
          have GA : Hid (w.heap.size ≤ X14.heap.size) := BX.out.size
          have APD : Hid (∀ b off, D ≠ [] → some (⟨gD, 0, none⟩ : Addr) = some ⟨b, off, none⟩ → b ≠ X14.heap.size) := QD.out.apart (Nat.le_refl _)
          have BX : Hid (Below w.heap.size w X18) := BX.out.trans (HB.out.mono BX.out.size)
          have QD : Hid (Sln X18 (some ⟨gD, 0, none⟩) mD D) := QD.out.below HB.out
          have SK : Hid (Sln X18 (some ⟨gK, 0, none⟩) mK (derive s (ws.take m))) := SK.out.below HB.out
          have SM : Hid (Sln X18 (some ⟨X0.heap.size, 0, none⟩) wd.size (bytesOf wd)) := SM.out.below HB.out
          go_simp
          refine (show _ = X18 from WY.out) ▸ ?_
          refine hK.out _ _ (ws_cell hW.out BX.out hmn WD.out) (fun hS_ => ?_)
          clear hK K HB WY
          have TX : Hid (Kst X18) := hKs.out.below BX.out h0.out
          have ZX : Hid (0 < X18.heap.size) := Nat.lt_of_lt_of_le h0.out BX.out.size
          have UX : Hid (Sws X18 (some ⟨b, off, none⟩) m (ws.take m)) := (hW.out.below BX.out).take (by omega)
          refine wpAnyH_ready (rs := [10]) (by kernel_rfl) (by simp) (AllReadyH.cons rfl (fun K hK => ?_) AllReadyH.nil)
          simp only [List.getElem_toArray, List.getElem_cons_zero, List.getElem_cons_succ]
          rw [if_pos (by rfl)]
          go_simp
          go_wp2_with (go_at_call 15; refine (macsum_n SK CK.out SM CM.out TX ZX).mono ?_; rintro e X19 ⟨d, rfl, HX⟩)
          have hb : Below X18.heap.size X18 X19 := HX.out.2
          have LD : Hid (d.length = 32) := by rw [HX.out.1]; exact mac_length _ _
          have DD : Hid (d = D) := by rw [HX.out.1]; exact DE.out
          have BX : Hid (Below w.heap.size w X19) := BX.out.trans (hb.mono BX.out.size)
          have QD : Hid (Sln X19 (some ⟨gD, 0, none⟩) mD D) := QD.out.below hb
          have AA : Hid (Arr .u8 25 X19 X14.heap.size Zb32) := AA.out.below hb AA.out.lt
          refine hK.out _ _ (ws_cell hW.out BX.out hmn WD.out) (fun hS_ => ?_)
          clear hK K hb HX SK SM
          have TX : Hid (Kst X19) := hKs.out.below BX.out h0.out
          have ZX : Hid (0 < X19.heap.size) := Nat.lt_of_lt_of_le h0.out BX.out.size
          have UX : Hid (Sws X19 (some ⟨b, off, none⟩) m (ws.take m)) := (hW.out.below BX.out).take (by omega)
          refine wpAnyH_ready (rs := [12]) (by kernel_rfl) (by simp) (AllReadyH.cons rfl (fun K hK => ?_) AllReadyH.nil)
          simp only [List.getElem_toArray, List.getElem_cons_zero, List.getElem_cons_succ]
          rw [if_pos (by rfl)]
          obtain ⟨X20, WY⟩ : ∃ Y, Hid (X19.setRow X14.heap.size (cs .u8 d) = Y) := ⟨_, rfl⟩
          have BY : Hid (Below w.heap.size w X20) := by rw [← WY.out]; exact (Oth.setRow _).below BX.out GA.out
          have QDY : Hid (Sln X20 (some ⟨gD, 0, none⟩) mD D) := by rw [← WY.out]; exact But.sln (But.oth (Oth.setRow _)) QD.out APD.out
          have AY : Hid (Arr .u8 25 X20 X14.heap.size d) := by rw [← WY.out]; exact AA.out.setRow d
          refine wp_st (k := .u8) (t := 25) (l := Zb32) (l2 := d) (by rfl) 25 (.tmp 7) (.tmp 41) (by rfl) (by rfl) (by rfl) AA.out (by rw [LD.out]; exact sz25) (by rw [LD.out]; rfl) ?_
          refine (show _ = X20 from WY.out) ▸ ?_
          refine hK.out _ _ (ws_cell hW.out BY.out hmn WD.out) (fun hS_ => ?_)
          clear hK K hS_ WY
          refine wpAnyH_done (by kernel_rfl) ?_ _
          have QD : Hid (Sln X20 (some ⟨gD, 0, none⟩) mD D) := QDY
          have QY : Hid (Sln X20 (some ⟨X14.heap.size, 0, none⟩) 32 D) := by have h := Blk0.sln AY.out (by rw [DD.out]; exact DL.out) LD.out (by omega); rw [DD.out] at h; exact h
          have e1 : ∀ j, (convert 22 9 (.slice (some ⟨X14.heap.size, 0, none⟩) 32 32)).run Tryd.prog (X20.drewN j) = .ok (.string (spell D)) (X20.drewN j) := fun j => conv_n (QY.out.drewN j)
          have e2 : ∀ j, (convert 22 9 (.slice (some ⟨gD, 0, none⟩) mD cD)).run Tryd.prog (X20.drewN j) = .ok (.string (spell D)) (X20.drewN j) := fun j => conv_n (QD.out.drewN j)
          go_wp2
          go_quiet (fail)
          clear e1 e2
          go_wp2
          go_ret
          exact ⟨rfl, below_drewN BY.out _⟩
      · simp only [List.getElem_toArray, List.getElem_cons_zero, List.getElem_cons_succ]
        rw [if_pos (by rfl)]
        obtain ⟨X21, WY⟩ : ∃ Y, Hid (X13.alloc (.cells (cs .u8 Zb32) 25) = Y) := ⟨_, rfl⟩
        have HB : Hid (Below X13.heap.size X13 X21) := by rw [← WY.out]; exact (Below.refl _ _).alloc (Nat.le_refl _) _
        have AA : Hid (Arr .u8 25 X21 X13.heap.size Zb32) := by rw [← WY.out]; exact Arr.new X13 .u8 25 Zb32
        have GA : Hid (w.heap.size ≤ X13.heap.size) := BX.out.size
        have APD : Hid (∀ b off, D ≠ [] → some (⟨gD, 0, none⟩ : Addr) = some ⟨b, off, none⟩ → b ≠ X13.heap.size) := QD.out.apart (Nat.le_refl _)
        have BX : Hid (Below w.heap.size w X21) := BX.out.trans (HB.out.mono BX.out.size)
        have QD : Hid (Sln X21 (some ⟨gD, 0, none⟩) mD D) := QD.out.below HB.out
        have SM : Hid (Sln X21 (some ⟨X0.heap.size, 0, none⟩) wd.size (bytesOf wd)) := SM.out.below HB.out
        go_simp
        refine (show _ = X21 from WY.out) ▸ ?_
        refine hK.out _ _ (ws_cell hW.out BX.out hmn WD.out) (fun hS_ => ?_)
        clear hK K HB WY
        have TX : Hid (Kst X21) := hKs.out.below BX.out h0.out
        have ZX : Hid (0 < X21.heap.size) := Nat.lt_of_lt_of_le h0.out BX.out.size
        have UX : Hid (Sws X21 (some ⟨b, off, none⟩) m (ws.take m)) := (hW.out.below BX.out).take (by omega)
        refine wpAnyH_ready (rs := [4]) (by kernel_rfl) (by simp) (AllReadyH.cons rfl (fun K hK => ?_) AllReadyH.nil)
        simp only [List.getElem_toArray, List.getElem_cons_zero, List.getElem_cons_succ]
        rw [if_pos (by rfl)]
        go_simp
        go_wp2_with (go_at_call 17; refine (derive_n hs UX TX ZX).mono ?_; rintro e X22 ⟨gK, mK, cK, rfl, HX⟩)
        have hb : Below X21.heap.size X21 X22 := HX.out.2.bel
        have SK : Hid (Sln X22 (some ⟨gK, 0, none⟩) mK (derive s (ws.take m))) := HX.out.2.s
        have CK : Hid (mK ≤ cK) := HX.out.1
        have BX : Hid (Below w.heap.size w X22) := BX.out.trans (hb.mono BX.out.size)
        have QD : Hid (Sln X22 (some ⟨gD, 0, none⟩) mD D) := QD.out.below hb
        have SM : Hid (Sln X22 (some ⟨X0.heap.size, 0, none⟩) wd.size (bytesOf wd)) := SM.out.below hb
        have AA : Hid (Arr .u8 25 X22 X13.heap.size Zb32) := AA.out.below hb AA.out.lt
        refine hK.out _ _ (ws_cell hW.out BX.out hmn WD.out) (fun hS_ => ?_)
        clear hK K hb HX
        have TX : Hid (Kst X22) := hKs.out.below BX.out h0.out
        have ZX : Hid (0 < X22.heap.size) := Nat.lt_of_lt_of_le h0.out BX.out.size
        have UX : Hid (Sws X22 (some ⟨b, off, none⟩) m (ws.take m)) := (hW.out.below BX.out).take (by omega)
        refine wpAnyH_ready (rs := [10]) (by kernel_rfl) (by simp) (AllReadyH.cons rfl (fun K hK => ?_) AllReadyH.nil)
        simp only [List.getElem_toArray, List.getElem_cons_zero, List.getElem_cons_succ]
        rw [if_pos (by rfl)]
        go_simp
        go_wp2_with (go_at_call 15; refine (macsum_n SK CK.out SM CM.out TX ZX).mono ?_; rintro e X23 ⟨d, rfl, HX⟩)
        have hb : Below X22.heap.size X22 X23 := HX.out.2
        have LD : Hid (d.length = 32) := by rw [HX.out.1]; exact mac_length _ _
        have DD : Hid (d = D) := by rw [HX.out.1]; exact DE.out
        have BX : Hid (Below w.heap.size w X23) := BX.out.trans (hb.mono BX.out.size)
        have QD : Hid (Sln X23 (some ⟨gD, 0, none⟩) mD D) := QD.out.below hb
        have AA : Hid (Arr .u8 25 X23 X13.heap.size Zb32) := AA.out.below hb AA.out.lt
        refine hK.out _ _ (ws_cell hW.out BX.out hmn WD.out) (fun hS_ => ?_)
        clear hK K hb HX SK SM
        have TX : Hid (Kst X23) := hKs.out.below BX.out h0.out
        have ZX : Hid (0 < X23.heap.size) := Nat.lt_of_lt_of_le h0.out BX.out.size
        have UX : Hid (Sws X23 (some ⟨b, off, none⟩) m (ws.take m)) := (hW.out.below BX.out).take (by omega)
        refine wpAnyH_ready (rs := [12]) (by kernel_rfl) (by simp) (AllReadyH.cons rfl (fun K hK => ?_) AllReadyH.nil)
        simp only [List.getElem_toArray, List.getElem_cons_zero, List.getElem_cons_succ]
        rw [if_pos (by rfl)]
        obtain ⟨X24, WY⟩ : ∃ Y, Hid (X23.setRow X13.heap.size (cs .u8 d) = Y) := ⟨_, rfl⟩
        have BY : Hid (Below w.heap.size w X24) := by rw [← WY.out]; exact (Oth.setRow _).below BX.out GA.out
        have QDY : Hid (Sln X24 (some ⟨gD, 0, none⟩) mD D) := by rw [← WY.out]; exact But.sln (But.oth (Oth.setRow _)) QD.out APD.out
        have AY : Hid (Arr .u8 25 X24 X13.heap.size d) := by rw [← WY.out]; exact AA.out.setRow d
        refine wp_st (k := .u8) (t := 25) (l := Zb32) (l2 := d) (by rfl) 25 (.tmp 7) (.tmp 41) (by rfl) (by rfl) (by rfl) AA.out (by rw [LD.out]; exact sz25) (by rw [LD.out]; rfl) ?_
        refine (show _ = X24 from WY.out) ▸ ?_
        refine hK.out _ _ (ws_cell hW.out BY.out hmn WD.out) (fun hS_ => ?_)
        clear hK K hS_ WY
        refine wpAnyH_done (by kernel_rfl) ?_ _
        have QD : Hid (Sln X24 (some ⟨gD, 0, none⟩) mD D) := QDY
        have QY : Hid (Sln X24 (some ⟨X13.heap.size, 0, none⟩) 32 D) := by have h := Blk0.sln AY.out (by rw [DD.out]; exact DL.out) LD.out (by omega); rw [DD.out] at h; exact h
        have e1 : ∀ j, (convert 22 9 (.slice (some ⟨X13.heap.size, 0, none⟩) 32 32)).run Tryd.prog (X24.drewN j) = .ok (.string (spell D)) (X24.drewN j) := fun j => conv_n (QY.out.drewN j)
        have e2 : ∀ j, (convert 22 9 (.slice (some ⟨gD, 0, none⟩) mD cD)).run Tryd.prog (X24.drewN j) = .ok (.string (spell D)) (X24.drewN j) := fun j => conv_n (QD.out.drewN j)
        go_wp2
        go_quiet (fail)
        clear e1 e2
        go_wp2
        go_ret
        exact ⟨rfl, below_drewN BY.out _⟩
    · simp only [List.getElem_toArray, List.getElem_cons_zero, List.getElem_cons_succ]
      rw [if_pos (by rfl)]
      obtain ⟨X25, WY⟩ : ∃ Y, Hid (X0.alloc (.cells (cs .u8 Zb32) 25) = Y) := ⟨_, rfl⟩
      have HB : Hid (Below X0.heap.size X0 X25) := by rw [← WY.out]; exact (Below.refl _ _).alloc (Nat.le_refl _) _
      have AA : Hid (Arr .u8 25 X25 X0.heap.size Zb32) := by rw [← WY.out]; exact Arr.new X0 .u8 25 Zb32
      have GA : Hid (w.heap.size ≤ X0.heap.size) := BX.out.size
      have APD : Hid (∀ b off, D ≠ [] → some (⟨gD, 0, none⟩ : Addr) = some ⟨b, off, none⟩ → b ≠ X0.heap.size) := QD.out.apart (Nat.le_refl _)
      have BX : Hid (Below w.heap.size w X25) := BX.out.trans (HB.out.mono BX.out.size)
      have QD : Hid (Sln X25 (some ⟨gD, 0, none⟩) mD D) := QD.out.below HB.out
      go_simp
      refine (show _ = X25 from WY.out) ▸ ?_
      refine hK.out _ _ (ws_cell hW.out BX.out hmn WD.out) (fun hS_ => ?_)
      clear hK K HB WY
      have TX : Hid (Kst X25) := hKs.out.below BX.out h0.out
      have ZX : Hid (0 < X25.heap.size) := Nat.lt_of_lt_of_le h0.out BX.out.size
      have UX : Hid (Sws X25 (some ⟨b, off, none⟩) m (ws.take m)) := (hW.out.below BX.out).take (by omega)
      refine wpAnyH_ready (rs := [4, 9]) (by kernel_rfl) (by simp) (AllReadyH.cons rfl (fun K hK => ?_) (AllReadyH.cons rfl (fun K hK => ?_) AllReadyH.nil))
      · simp only [List.getElem_toArray, List.getElem_cons_zero, List.getElem_cons_succ]
        rw [if_pos (by rfl)]
        go_simp
        go_wp2_with (go_at_call 17; refine (derive_n hs UX TX ZX).mono ?_; rintro e X26 ⟨gK, mK, cK, rfl, HX⟩)
        have hb : Below X25.heap.size X25 X26 := HX.out.2.bel
        have SK : Hid (Sln X26 (some ⟨gK, 0, none⟩) mK (derive s (ws.take m))) := HX.out.2.s
        have CK : Hid (mK ≤ cK) := HX.out.1
        have BX : Hid (Below w.heap.size w X26) := BX.out.trans (hb.mono BX.out.size)
        have QD : Hid (Sln X26 (some ⟨gD, 0, none⟩) mD D) := QD.out.below hb
        have AA : Hid (Arr .u8 25 X26 X0.heap.size Zb32) := AA.out.below hb AA.out.lt
        refine hK.out _ _ (ws_cell hW.out BX.out hmn WD.out) (fun hS_ => ?_)
        clear hK K hb HX
        have TX : Hid (Kst X26) := hKs.out.below BX.out h0.out
        have ZX : Hid (0 < X26.heap.size) := Nat.lt_of_lt_of_le h0.out BX.out.size
        have UX : Hid (Sws X26 (some ⟨b, off, none⟩) m (ws.take m)) := (hW.out.below BX.out).take (by omega)
        refine wpAnyH_ready (rs := [9]) (by kernel_rfl) (by simp) (AllReadyH.cons rfl (fun K hK => ?_) AllReadyH.nil)
        simp only [List.getElem_toArray, List.getElem_cons_zero, List.getElem_cons_succ]
        rw [if_pos (by rfl)]
        have CV := run_cv X26 wd
        obtain ⟨X27, WY⟩ : ∃ Y, Hid (cvW X26 wd = Y) := ⟨_, rfl⟩
        rw [WY.out] at CV
        have hb : Below X26.heap.size X26 X27 := by rw [← WY.out]; exact cvW_below X26 wd
        have SM : Hid (Sln X27 (some ⟨X26.heap.size, 0, none⟩) wd.size (bytesOf wd)) := by rw [← WY.out]; exact cvW_sln X26 wd (by omega)
        have CM : Hid (wd.size ≤ cvC X26 wd) := cvC_ge X26 wd
        have BX : Hid (Below w.heap.size w X27) := BX.out.trans (hb.mono BX.out.size)
        have QD : Hid (Sln X27 (some ⟨gD, 0, none⟩) mD D) := QD.out.below hb
        have SK : Hid (Sln X27 (some ⟨gK, 0, none⟩) mK (derive s (ws.take m))) := SK.out.below hb
        have AA : Hid (Arr .u8 25 X27 X0.heap.size Zb32) := AA.out.below hb AA.out.lt
        have HB : Hid (Below X26.heap.size X26 X27) := hb
        clear hb
        go_simp
        refine hK.out _ _ (ws_cell hW.out BX.out hmn WD.out) (fun hS_ => ?_)
        clear hK K CV HB WY
        have TX : Hid (Kst X27) := hKs.out.below BX.out h0.out
        have ZX : Hid (0 < X27.heap.size) := Nat.lt_of_lt_of_le h0.out BX.out.size
        have UX : Hid (Sws X27 (some ⟨b, off, none⟩) m (ws.take m)) := (hW.out.below BX.out).take (by omega)
        refine wpAnyH_ready (rs := [10]) (by kernel_rfl) (by simp) (AllReadyH.cons rfl (fun K hK => ?_) AllReadyH.nil)
        simp only [List.getElem_toArray, List.getElem_cons_zero, List.getElem_cons_succ]
        rw [if_pos (by rfl)]
        go_simp
        go_wp2_with (go_at_call 15; refine (macsum_n SK CK.out SM CM.out TX ZX).mono ?_; rintro e X28 ⟨d, rfl, HX⟩)
        have hb : Below X27.heap.size X27 X28 := HX.out.2
        have LD : Hid (d.length = 32) := by rw [HX.out.1]; exact mac_length _ _
        have DD : Hid (d = D) := by rw [HX.out.1]; exact DE.out
        have BX : Hid (Below w.heap.size w X28) := BX.out.trans (hb.mono BX.out.size)
        have QD : Hid (Sln X28 (some ⟨gD, 0, none⟩) mD D) := QD.out.below hb
        have AA : Hid (Arr .u8 25 X28 X0.heap.size Zb32) := AA.out.below hb AA.out.lt
        refine hK.out _ _ (ws_cell hW.out BX.out hmn WD.out) (fun hS_ => ?_)
        clear hK K hb HX SK SM
        have TX : Hid (Kst X28) := hKs.out.below BX.out h0.out
        have ZX : Hid (0 < X28.heap.size) := Nat.lt_of_lt_of_le h0.out BX.out.size
        have UX : Hid (Sws X28 (some ⟨b, off, none⟩) m (ws.take m)) := (hW.out.below BX.out).take (by omega)
        refine wpAnyH_ready (rs := [12]) (by kernel_rfl) (by simp) (AllReadyH.cons rfl (fun K hK => ?_) AllReadyH.nil)
        simp only [List.getElem_toArray, List.getElem_cons_zero, List.getElem_cons_succ]
        rw [if_pos (by rfl)]
        obtain ⟨X29, WY⟩ : ∃ Y, Hid (X28.setRow X0.heap.size (cs .u8 d) = Y) := ⟨_, rfl⟩
        have BY : Hid (Below w.heap.size w X29) := by rw [← WY.out]; exact (Oth.setRow _).below BX.out GA.out
        have QDY : Hid (Sln X29 (some ⟨gD, 0, none⟩) mD D) := by rw [← WY.out]; exact But.sln (But.oth (Oth.setRow _)) QD.out APD.out
        have AY : Hid (Arr .u8 25 X29 X0.heap.size d) := by rw [← WY.out]; exact AA.out.setRow d
        refine wp_st (k := .u8) (t := 25) (l := Zb32) (l2 := d) (by rfl) 25 (.tmp 7) (.tmp 41) (by rfl) (by rfl) (by rfl) AA.out (by rw [LD.out]; exact sz25) (by rw [LD.out]; rfl) ?_
        refine (show _ = X29 from WY.out) ▸ ?_
        refine hK.out _ _ (ws_cell hW.out BY.out hmn WD.out) (fun hS_ => ?_)
        clear hK K hS_ WY
        refine wpAnyH_done (by kernel_rfl) ?_ _
        have QD : Hid (Sln X29 (some ⟨gD, 0, none⟩) mD D) := QDY
        have QY : Hid (Sln X29 (some ⟨X0.heap.size, 0, none⟩) 32 D) := by have h := Blk0.sln AY.out (by rw [DD.out]; exact DL.out) LD.out (by omega); rw [DD.out] at h; exact h
        have e1 : ∀ j, (convert 22 9 (.slice (some ⟨X0.heap.size, 0, none⟩) 32 32)).run Tryd.prog (X29.drewN j) = .ok (.string (spell D)) (X29.drewN j) := fun j => conv_n (QY.out.drewN j)
        have e2 : ∀ j, (convert 22 9 (.slice (some ⟨gD, 0, none⟩) mD cD)).run Tryd.prog (X29.drewN j) = .ok (.string (spell D)) (X29.drewN j) := fun j => conv_n (QD.out.drewN j)
        go_wp2
        go_quiet (fail)
        clear e1 e2
        go_wp2
        go_ret
        exact ⟨rfl, below_drewN BY.out _⟩
      · simp only [List.getElem_toArray, List.getElem_cons_zero, List.getElem_cons_succ]
        rw [if_pos (by rfl)]
        have CV := run_cv X25 wd
        obtain ⟨X30, WY⟩ : ∃ Y, Hid (cvW X25 wd = Y) := ⟨_, rfl⟩
        rw [WY.out] at CV
        have hb : Below X25.heap.size X25 X30 := by rw [← WY.out]; exact cvW_below X25 wd
        have SM : Hid (Sln X30 (some ⟨X25.heap.size, 0, none⟩) wd.size (bytesOf wd)) := by rw [← WY.out]; exact cvW_sln X25 wd (by omega)
        have CM : Hid (wd.size ≤ cvC X25 wd) := cvC_ge X25 wd
        have BX : Hid (Below w.heap.size w X30) := BX.out.trans (hb.mono BX.out.size)
        have QD : Hid (Sln X30 (some ⟨gD, 0, none⟩) mD D) := QD.out.below hb
        have AA : Hid (Arr .u8 25 X30 X0.heap.size Zb32) := AA.out.below hb AA.out.lt
        have HB : Hid (Below X25.heap.size X25 X30) := hb
        clear hb
        go_simp
        refine hK.out _ _ (ws_cell hW.out BX.out hmn WD.out) (fun hS_ => ?_)
        clear hK K CV HB WY
        have TX : Hid (Kst X30) := hKs.out.below BX.out h0.out
        have ZX : Hid (0 < X30.heap.size) := Nat.lt_of_lt_of_le h0.out BX.out.size
        have UX : Hid (Sws X30 (some ⟨b, off, none⟩) m (ws.take m)) := (hW.out.below BX.out).take (by omega)
        refine wpAnyH_ready (rs := [4]) (by kernel_rfl) (by simp) (AllReadyH.cons rfl (fun K hK => ?_) AllReadyH.nil)
        simp only [List.getElem_toArray, List.getElem_cons_zero, List.getElem_cons_succ]
        rw [if_pos (by rfl)]
        go_simp
        go_wp2_with (go_at_call 17; refine (derive_n hs UX TX ZX).mono ?_; rintro e X31 ⟨gK, mK, cK, rfl, HX⟩)
        have hb : Below X30.heap.size X30 X31 := HX.out.2.bel
        have SK : Hid (Sln X31 (some ⟨gK, 0, none⟩) mK (derive s (ws.take m))) := HX.out.2.s
        have CK : Hid (mK ≤ cK) := HX.out.1
        have BX : Hid (Below w.heap.size w X31) := BX.out.trans (hb.mono BX.out.size)
        have QD : Hid (Sln X31 (some ⟨gD, 0, none⟩) mD D) := QD.out.below hb
        have SM : Hid (Sln X31 (some ⟨X25.heap.size, 0, none⟩) wd.size (bytesOf wd)) := SM.out.below hb
        have AA : Hid (Arr .u8 25 X31 X0.heap.size Zb32) := AA.out.below hb AA.out.lt
        refine hK.out _ _ (ws_cell hW.out BX.out hmn WD.out) (fun hS_ => ?_)
        clear hK K hb HX
        have TX : Hid (Kst X31) := hKs.out.below BX.out h0.out
        have ZX : Hid (0 < X31.heap.size) := Nat.lt_of_lt_of_le h0.out BX.out.size
        have UX : Hid (Sws X31 (some ⟨b, off, none⟩) m (ws.take m)) := (hW.out.below BX.out).take (by omega)
        refine wpAnyH_ready (rs := [10]) (by kernel_rfl) (by simp) (AllReadyH.cons rfl (fun K hK => ?_) AllReadyH.nil)
        simp only [List.getElem_toArray, List.getElem_cons_zero, List.getElem_cons_succ]
        rw [if_pos (by rfl)]
        go_simp
        go_wp2_with (go_at_call 15; refine (macsum_n SK CK.out SM CM.out TX ZX).mono ?_; rintro e X32 ⟨d, rfl, HX⟩)
        have hb : Below X31.heap.size X31 X32 := HX.out.2
        have LD : Hid (d.length = 32) := by rw [HX.out.1]; exact mac_length _ _
        have DD : Hid (d = D) := by rw [HX.out.1]; exact DE.out
        have BX : Hid (Below w.heap.size w X32) := BX.out.trans (hb.mono BX.out.size)
        have QD : Hid (Sln X32 (some ⟨gD, 0, none⟩) mD D) := QD.out.below hb
        have AA : Hid (Arr .u8 25 X32 X0.heap.size Zb32) := AA.out.below hb AA.out.lt
        refine hK.out _ _ (ws_cell hW.out BX.out hmn WD.out) (fun hS_ => ?_)
        clear hK K hb HX SK SM
        have TX : Hid (Kst X32) := hKs.out.below BX.out h0.out
        have ZX : Hid (0 < X32.heap.size) := Nat.lt_of_lt_of_le h0.out BX.out.size
        have UX : Hid (Sws X32 (some ⟨b, off, none⟩) m (ws.take m)) := (hW.out.below BX.out).take (by omega)
        refine wpAnyH_ready (rs := [12]) (by kernel_rfl) (by simp) (AllReadyH.cons rfl (fun K hK => ?_) AllReadyH.nil)
        simp only [List.getElem_toArray, List.getElem_cons_zero, List.getElem_cons_succ]
        rw [if_pos (by rfl)]
        obtain ⟨X33, WY⟩ : ∃ Y, Hid (X32.setRow X0.heap.size (cs .u8 d) = Y) := ⟨_, rfl⟩
        have BY : Hid (Below w.heap.size w X33) := by rw [← WY.out]; exact (Oth.setRow _).below BX.out GA.out
        have QDY : Hid (Sln X33 (some ⟨gD, 0, none⟩) mD D) := by rw [← WY.out]; exact But.sln (But.oth (Oth.setRow _)) QD.out APD.out
        have AY : Hid (Arr .u8 25 X33 X0.heap.size d) := by rw [← WY.out]; exact AA.out.setRow d
        refine wp_st (k := .u8) (t := 25) (l := Zb32) (l2 := d) (by rfl) 25 (.tmp 7) (.tmp 41) (by rfl) (by rfl) (by rfl) AA.out (by rw [LD.out]; exact sz25) (by rw [LD.out]; rfl) ?_
        refine (show _ = X33 from WY.out) ▸ ?_
        refine hK.out _ _ (ws_cell hW.out BY.out hmn WD.out) (fun hS_ => ?_)
        clear hK K hS_ WY
        refine wpAnyH_done (by kernel_rfl) ?_ _
        have QD : Hid (Sln X33 (some ⟨gD, 0, none⟩) mD D) := QDY
        have QY : Hid (Sln X33 (some ⟨X0.heap.size, 0, none⟩) 32 D) := by have h := Blk0.sln AY.out (by rw [DD.out]; exact DL.out) LD.out (by omega); rw [DD.out] at h; exact h
        have e1 : ∀ j, (convert 22 9 (.slice (some ⟨X0.heap.size, 0, none⟩) 32 32)).run Tryd.prog (X33.drewN j) = .ok (.string (spell D)) (X33.drewN j) := fun j => conv_n (QY.out.drewN j)
        have e2 : ∀ j, (convert 22 9 (.slice (some ⟨gD, 0, none⟩) mD cD)).run Tryd.prog (X33.drewN j) = .ok (.string (spell D)) (X33.drewN j) := fun j => conv_n (QD.out.drewN j)
        go_wp2
        go_quiet (fail)
        clear e1 e2
        go_wp2
        go_ret
        exact ⟨rfl, below_drewN BY.out _⟩
end Go.Proofs.YthkoidfjmbfoiaaDoor
