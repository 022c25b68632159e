/- The law ShaTells walked: for all rows of pieces it returns true, and changes nothing that was there. -/
import Derived.Test.YtljlibhhefceaaaDoorSm
import Derived.Test.YtljlibhhefceaaaDoorTb
namespace Go.Proofs.YtljlibhhefceaaaDoor
open Go.ChangeShapes Go.WideShapes Go.ChangeAt Go.RowKit
set_option linter.unusedVariables false
set_option linter.unusedSimpArgs false
theorem Hd.but {w a b : World} {g g2 : Nat} {A : List Nat} (h : Hd w a g2 A) (hb : But g a b) (hg : g2 ≠ g) (hw : w.heap.size ≤ g) : Hd w b g2 A :=
  ⟨⟨⟨(hb.block g2 h.hs.h.lt hg).trans h.hs.h.blk, h.hs.h.l1, h.hs.h.l2⟩, h.hs.lt⟩, But.below h.bel hb hw h.bel.size, h.ge⟩
/- two hashes of the call's own that were given the same bytes -/
structure Two (w wr : World) (ga gb : Nat) (A : List Nat) (N : Nat) : Prop where
  a : Hd w wr ga A
  b : Hd w wr gb A
  ne : ga ≠ gb
  len : N = A.length
theorem Two.below {w a b : World} {ga gb N : Nat} {A : List Nat} (h : Two w a ga gb A N) (hb : Below a.heap.size a b) : Two w b ga gb A N := ⟨h.a.below hb, h.b.below hb, h.ne, h.len⟩
set_option maxRecDepth 20000 in
set_option maxHeartbeats 2000000 in
theorem tells_n (w : World) (n k : Nat) (a : Option Addr) (R : List (List Nat)) (hP : Hid (Pcs w a n R)) (hn : n ≤ 140737488351232) (hKs : Hid (Kst w)) (h0 : Hid (0 < w.heap.size)) :
    Calls Tryd.prog 7 #[.slice a n k] w fun e w' => e = .returned (.bool true) ∧ Hid (Below w.heap.size w w') := by
  go_enter Tryd.func7, Tryd.ntmps7
  go_upto_region 3 with (go_at_call 8; refine (alive_n _ hKs h0).mono ?_; rintro e w1 ⟨rfl, B1⟩)
  go_wp2_with (fail)
  refine (new_h B1).mono ?_
  rintro e w2 ⟨ga, rfl, H2⟩
  have B2 : Hid (Below w.heap.size w w2) := H2.out.1.bel
  go_wp2_with (fail)
  refine (new_h B2).mono ?_
  rintro e w3 ⟨gb, rfl, H3⟩
  have T3 : Hid (Two w w3 ga gb [] 0) := ⟨H2.out.1.below H3.out.2.2, H3.out.1, by have h1 := H2.out.1.hs.h.lt; have h2 := H3.out.2.1; omega, rfl⟩
  clear H2 H3 B2 B1
  go_wp2_with (fail)
  go_loopw [21, 5] (fun ti tn wr => ∃ (i N : Nat) (A : List Nat), i ≤ n ∧ ti = .int .i64 i ∧ tn = .int .i64 N ∧ Hid (N ≤ 1048576 ∧ Two w wr ga gb A N)) (fun ti _ _ => n - (intOf ti).toNat)
  case atStart => exact ⟨0, 0, [], by omega, rfl, rfl, ⟨by omega, T3.out⟩⟩
  case round =>
    clear T3
    obtain ⟨i, N, A, hi, rfl, rfl, HT⟩ := hrel
    by_cases hlt : i < n
    · obtain ⟨b, off, x, m, c, ha, hb, cl0, SL0, hmc⟩ := hP.out.at_ i hlt
      subst ha
      have cl : wr.cell? ⟨b, off + i, none⟩ = some (.slice x m c) := (HT.out.2.a.bel.cell (p := ⟨b, off + i, none⟩) hb).trans cl0
      have SL : Hid (Sln w x m (R.getD i [])) := SL0
      have i1 : (0 : Int) ≤ (i : Int) := by omega
      have i2 : (i : Int) < (n : Int) := by omega
      by_cases hbig : 200 < i
      · have i3 : (200 : Int) < (i : Int) := by omega
        clear cl0 SL0
        have HA : Hid (Hd w wr ga A) := HT.out.2.a
        have HB : Hid (Hd w wr gb A) := HT.out.2.b
        have hl : Hid (A.length < 4611686018427387904) := by
          have h9 : A.length < 4611686018427387904 := by have h1 := HT.out.1; have h2 := HT.out.2.len; omega
          exact h9
        obtain ⟨sm, SM⟩ : ∃ sm, Hid (Gs.sum A = sm) := ⟨_, rfl⟩
        have EQ : ∀ w', (Op.equalIn 10000 25 (.agg (cs .u8 sm)) (.agg (cs .u8 sm))).run Tryd.prog w' = .ok true w' := eq_same sm (by rw [← SM.out]; exact sum_length _)
        go_wp2_with (fail)
        refine (hsum_h HA hKs h0 hl).mono ?_
        rintro e w8 ⟨d8, rfl, H8⟩
        have s8 : sm = d8 := SM.out.symm.trans H8.out.1.symm
        subst s8
        have HB8 : Hid (Hd w w8 gb A) := HB.out.below H8.out.2
        go_wp2_with (fail)
        refine (hsum_h HB8 hKs h0 hl).mono ?_
        rintro e w9 ⟨d9, rfl, H9⟩
        have s9 : sm = d9 := SM.out.symm.trans H9.out.1.symm
        subst s9
        have B9 : Hid (Below w.heap.size w w9) := (HB8.out.below H9.out.2).bel
        go_wp2_with (fail)
        go_ret
        exact ⟨rfl, B9.out⟩
      · have i3 : ¬ ((200 : Int) < (i : Int)) := by omega
        obtain ⟨p, Hp⟩ : ∃ p, Hid (R.getD i [] = p) := ⟨_, rfl⟩
        rw [Hp.out] at SL
        have hm := SL.out.sli.2.1
        have hml := SL.out.len
        obtain ⟨N2, hN⟩ : ∃ N2, N2 = N + m := ⟨_, rfl⟩
        have eN : (N : Int) + (m : Int) = (N2 : Int) := by omega
        have hNb := HT.out.1
        have wN : IntKind.i64.wrap (N2 : Int) = (N2 : Int) := by rw [IntKind.wrap_i64]; omega
        obtain ⟨A2, HA2⟩ : ∃ A2, Hid (A ++ p = A2) := ⟨_, rfl⟩
        have l1 : Hid (A.length + p.length < 4611686018427387904) := by
          have h9 : A.length + p.length < 4611686018427387904 := by have := HT.out.2.len; omega
          exact h9
        have hl2 : Hid (A2.length < 4611686018427387904) := by rw [← HA2.out, List.length_append]; exact l1.out
        have hLen : Hid (N2 = A2.length) := by
          have h9 : N2 = A2.length := by rw [← HA2.out, List.length_append, hN]; have := HT.out.2.len; omega
          exact h9
        have HA : Hid (Hd w wr ga A) := HT.out.2.a
        have ga1 : Hid (w.heap.size ≤ ga ∧ w.heap.size ≤ gb) := ⟨HT.out.2.a.ge, HT.out.2.b.ge⟩
        clear cl0 SL0 hm hml hN hNb hbig
        go_upto_region 12 with (go_at_call 14; refine (write_h HA SL hmc hKs h0 l1).mono ?_; rintro e w4 ⟨rfl, H4⟩)
        have HB4 : Hid (Hd w w4 gb A) := HT.out.2.b.but H4.out.2 (fun e => HT.out.2.ne e.symm) ga1.out.1
        clear cl
        go_upto_region 13 with (go_at_call 14; refine (write_h HB4 SL hmc hKs h0 l1).mono ?_; rintro e w5 ⟨rfl, H5⟩)
        have T5 : Hid (Two w w5 ga gb A2 N2) := by
          have h1 := H4.out.1.but H5.out.2 HT.out.2.ne ga1.out.2
          have h2 := H5.out.1
          rw [HA2.out] at h1 h2
          exact ⟨h1, h2, HT.out.2.ne, hLen.out⟩
        have hA5 : Hid (Hd w w5 ga A2) := T5.out.a
        have B5 : Hid (Below w.heap.size w w5) := hA5.out.bel
        clear H4 H5 HB4 HA
        by_cases hbig2 : 1048576 < N2
        · have i4 : (1048576 : Int) < (N2 : Int) := by omega
          clear hbig2
          go_wp2_with (fail)
          go_ret
          exact ⟨rfl, B5.out⟩
        have i4 : ¬ ((1048576 : Int) < (N2 : Int)) := by omega
        have hN2 : Hid (N2 ≤ 1048576) := by
          have h9 : N2 ≤ 1048576 := by omega
          exact h9
        clear hbig2
        obtain ⟨d, SD⟩ : ∃ d, Hid (Gs.sum A2 = d) := ⟨_, rfl⟩
        have L5 : Hid (d.length = 32) := by rw [← SD.out]; exact sum_length _
        have EQ : ∀ w', (Op.equalIn 10000 25 (.agg (cs .u8 d)) (.agg (cs .u8 d))).run Tryd.prog w' = .ok true w' := eq_same d L5.out
        go_upto_region 17 with (first
          | (go_at_call 15; refine (hsum_h hA5 hKs h0 hl2).mono ?_; rintro e w55 ⟨d5, rfl, H55⟩
             have s5 : d = d5 := SD.out.symm.trans H55.out.1.symm
             subst s5
             have N1 : Hid (Arr .u8 25 (w55.alloc (.cells (cs .u8 Zb32) 25)) w55.heap.size Zb32) := Arr.new w55 .u8 25 Zb32
             obtain ⟨w6, W6⟩ : ∃ w6, Hid ((w55.alloc (.cells (cs .u8 Zb32) 25)).setRow w55.heap.size (cs .u8 d) = w6) := ⟨_, rfl⟩
             have A60 : Hid (Arr .u8 25 w6 w55.heap.size d) := by rw [← W6.out]; exact N1.out.setRow d
             have T55 : Hid (Two w w55 ga gb A2 N2) := T5.out.below H55.out.2
             have T6 : Hid (Two w w6 ga gb A2 N2) := by
               rw [← W6.out]
               have hb6 : Below w55.heap.size w55 ((w55.alloc (.cells (cs .u8 Zb32) 25)).setRow w55.heap.size (cs .u8 d)) := (Oth.setRow _).below ((Below.refl _ _).alloc (Nat.le_refl _) _) (Nat.le_refl _)
               exact T55.out.below hb6)
          | (refine wpList_st0 (t := 25) (l := Zb32) (l2 := d) (by rfl) (by rfl) 25 (.tmp 8) (.tmp 41) (by rfl) (by rfl) (by rfl) N1 (by rw [L5.out]; exact sz25) (by rw [L5.out]; rfl) ?_; refine (show _ = w6 from W6.out) ▸ ?_))
        generalize hf : w55.heap.size = f at A60 ⊢
        have A6 : Hid (Arr .u8 25 w6 f d) := A60.out
        clear A60 hf N1
        refine wp_region_held (S := fun w' => Arr .u8 25 w' f d ∧ Two w w' ga gb A2 N2) (by kernel_rfl) ?_
        have hS0 : Arr .u8 25 (w6.drewN 1) f d ∧ Two w (w6.drewN 1) ga gb A2 N2 := ⟨A6.out.drewN 1, T6.out.below (below_drewN (Below.refl _ _) 1)⟩
        generalize hw0 : w6.drewN 1 = w0 at hS0
        have hw1 : ({ heap := w6.heap, tape := w6.tape, drawn := w6.drawn + 1, os := w6.os, output := w6.output } : World) = w0 := hw0
        refine (show _ = w0 from hw1) ▸ ?_
        clear hw0 hw1
        refine wpAnyH_take (i := 1) (v := .pointer (some ⟨ga, 0, none⟩)) rfl (by kernel_rfl) (by kernel_rfl) (by kernel_rfl) (fun _ _ _ h => h) (Or.inl ⟨by rfl, fun w hSw => by clear hSw; go_simp⟩) (by assumption) ?_
        simp only [List.getElem_toArray, List.getElem_cons_zero, List.getElem_cons_succ, Act.put, List.setIfInBounds_toArray, List.set_cons_zero, List.set_cons_succ]
        refine wpAnyH_take (i := 0) (v := .agg (cs .u8 d)) rfl (by kernel_rfl) (by kernel_rfl) (by kernel_rfl) (fun _ _ _ h => h) (yieldsIf_ld (by rfl) 25 (.tmp 8) (by rfl) (by rfl) (fun w' h' => h'.1.rng) und25 (by rw [L5.out]; exact sz25)) (by assumption) ?_
        simp only [List.getElem_toArray, List.getElem_cons_zero, List.getElem_cons_succ, Act.put, List.setIfInBounds_toArray, List.set_cons_zero, List.set_cons_succ]
        refine wpAnyH_ready (rs := [2]) (by kernel_rfl) (by simp) (AllReadyH.cons rfl (fun K hK => ?_) AllReadyH.nil)
        simp only [List.getElem_toArray, List.getElem_cons_zero, List.getElem_cons_succ]
        rw [if_pos (by rfl)]
        go_simp
        have HA0 : Hid (Hd w w0 ga A2) := hS0.2.a
        go_wp2_with (go_at_call 15; refine (hsum_h HA0 hKs h0 hl2).mono ?_; rintro e w7 ⟨d7, rfl, H7⟩)
        have s7 : d = d7 := SD.out.symm.trans H7.out.1.symm
        subst s7
        refine hK.out _ _ ?_ (fun hS7 => ?_)
        · exact ⟨hS0.1.below H7.out.2 hS0.1.lt, hS0.2.below H7.out.2⟩
        clear hK K HA0
        refine wpAnyH_take (i := 3) (v := .bool false) rfl (by kernel_rfl) (by kernel_rfl) (by kernel_rfl) (fun _ _ _ h => h) (Or.inl ⟨by rfl, fun w hSw => by clear hSw; go_simp⟩) (by assumption) ?_
        simp only [List.getElem_toArray, List.getElem_cons_zero, List.getElem_cons_succ, Act.put, List.setIfInBounds_toArray, List.set_cons_zero, List.set_cons_succ]
        refine wpAnyH_take (i := 4) (v := .bool false) rfl (by kernel_rfl) (by kernel_rfl) (by kernel_rfl) (fun _ _ _ h => h) (Or.inl ⟨by rfl, fun w hSw => by clear hSw; go_simp⟩) (by assumption) ?_
        simp only [List.getElem_toArray, List.getElem_cons_zero, List.getElem_cons_succ, Act.put, List.setIfInBounds_toArray, List.set_cons_zero, List.set_cons_succ]
        refine wpAnyH_take (i := 5) (v := .pointer (some ⟨ga, 0, none⟩)) rfl (by kernel_rfl) (by kernel_rfl) (by kernel_rfl) (fun _ _ _ h => h) (Or.inl ⟨by rfl, fun w hSw => by clear hSw; go_simp⟩) (by assumption) ?_
        simp only [List.getElem_toArray, List.getElem_cons_zero, List.getElem_cons_succ, Act.put, List.setIfInBounds_toArray, List.set_cons_zero, List.set_cons_succ]
        refine wpAnyH_take (i := 7) (v := .int .i64 (N2 : Int)) rfl (by kernel_rfl) (by kernel_rfl) (by kernel_rfl) (fun _ _ _ h => h) (Or.inl ⟨by rfl, fun w hSw => by clear hSw; go_simp⟩) (by assumption) ?_
        simp only [List.getElem_toArray, List.getElem_cons_zero, List.getElem_cons_succ, Act.put, List.setIfInBounds_toArray, List.set_cons_zero, List.set_cons_succ]
        refine wpAnyH_ready (rs := [6]) (by kernel_rfl) (by simp) (AllReadyH.cons rfl (fun K hK => ?_) AllReadyH.nil)
        simp only [List.getElem_toArray, List.getElem_cons_zero, List.getElem_cons_succ]
        rw [if_pos (by rfl)]
        go_simp
        have HA7 : Hid (HS w7 ga A2) := hS7.2.a.hs
        go_wp2_with (go_at_call 16; refine (len_n w7 ga A2 HA7 N2 hS7.2.len).mono ?_; rintro e w10 ⟨rfl, h10⟩; rw [h10]; clear h10)
        refine hK.out _ _ ?_ (fun hS8 => ?_)
        · exact hS7
        clear hK K HA7
        refine wpAnyH_take (i := 8) (v := .bool false) rfl (by kernel_rfl) (by kernel_rfl) (by kernel_rfl) (fun _ _ _ h => h) (Or.inl ⟨by rfl, fun w hSw => by clear hSw; go_simp⟩) (by assumption) ?_
        simp only [List.getElem_toArray, List.getElem_cons_zero, List.getElem_cons_succ, Act.put, List.setIfInBounds_toArray, List.set_cons_zero, List.set_cons_succ]
        refine wpAnyH_take (i := 9) (v := .bool false) rfl (by kernel_rfl) (by kernel_rfl) (by kernel_rfl) (fun _ _ _ h => h) (Or.inl ⟨by rfl, fun w hSw => by clear hSw; go_simp⟩) (by assumption) ?_
        simp only [List.getElem_toArray, List.getElem_cons_zero, List.getElem_cons_succ, Act.put, List.setIfInBounds_toArray, List.set_cons_zero, List.set_cons_succ]
        refine wpAnyH_done (by kernel_rfl) ?_ _
        have TF : Hid (Two w w7 ga gb A2 N2) := hS8.2
        clear hS0 hS7 hS8
        go_wp2_with (fail)
        go_roundw
        case rel => exact ⟨i + 1, N2, A2, by omega, by go_num, rfl, ⟨hN2.out, TF.out⟩⟩
        case measure => simp [intOf]; omega
    · have i2 : ¬ ((i : Int) < (n : Int)) := by omega
      have HA : Hid (Hd w wr ga A) := HT.out.2.a
      have HB : Hid (Hd w wr gb A) := HT.out.2.b
      have hl : Hid (A.length < 4611686018427387904) := by
        have h9 : A.length < 4611686018427387904 := by have h1 := HT.out.1; have h2 := HT.out.2.len; omega
        exact h9
      obtain ⟨sm, SM⟩ : ∃ sm, Hid (Gs.sum A = sm) := ⟨_, rfl⟩
      have EQ : ∀ w', (Op.equalIn 10000 25 (.agg (cs .u8 sm)) (.agg (cs .u8 sm))).run Tryd.prog w' = .ok true w' := eq_same sm (by rw [← SM.out]; exact sum_length _)
      go_wp2_with (fail)
      refine (hsum_h HA hKs h0 hl).mono ?_
      rintro e w8 ⟨d8, rfl, H8⟩
      have s8 : sm = d8 := SM.out.symm.trans H8.out.1.symm
      subst s8
      have HB8 : Hid (Hd w w8 gb A) := HB.out.below H8.out.2
      go_wp2_with (fail)
      refine (hsum_h HB8 hKs h0 hl).mono ?_
      rintro e w9 ⟨d9, rfl, H9⟩
      have s9 : sm = d9 := SM.out.symm.trans H9.out.1.symm
      subst s9
      have B9 : Hid (Below w.heap.size w w9) := (HB8.out.below H9.out.2).bel
      go_wp2_with (fail)
      go_ret
      exact ⟨rfl, B9.out⟩
end Go.Proofs.YtljlibhhefceaaaDoor
