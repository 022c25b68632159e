/- What package mac's Sum does to a machine, for all keys and messages. -/
import Derived.Test.YthkoidfjmbfoiaaDoorMb
namespace Go.Proofs.YthkoidfjmbfoiaaDoor
open Go.ChangeShapes Go.WideShapes Go.ChangeAt Go.RowKit
set_option linter.unusedVariables false
set_option linter.unusedSimpArgs false
theorem Blk0.sln {t : TypeId} {w : World} {g : Nat} {d : List Nat} (h : Arr .u8 t w g d) (hd : ∀ x ∈ d, x < 256) {n : Nat} (hn : d.length = n) (hm : n ≤ 140737488352256) : Sln w (some ⟨g, 0, none⟩) n d := by
  have h1 := arr_sln h hd n (by omega) hm
  rw [List.take_of_length_le (by omega)] at h1
  exact h1
set_option maxRecDepth 20000 in
set_option maxHeartbeats 1000000 in
theorem macsum_n {w : World} {ak am : Option Addr} {nk ck nm cm : Nat} {key msg : List Nat} (hK : Hid (Sln w ak nk key)) (hk1 : nk ≤ ck) (hM : Hid (Sln w am nm msg)) (hk2 : nm ≤ cm) (hKs : Hid (Kst w)) (h0 : Hid (0 < w.heap.size)) :
    Calls Tryd.prog 15 #[.slice ak nk ck, .slice am nm cm] w fun e w' => ∃ d, e = .returned (.agg (cs .u8 d)) ∧ Hid (d = Gs.mac key msg ∧ Below w.heap.size w w') := by
  have K0 : Hid (Kp w (w.alloc (.cells (cs .u8 Zb32) 25))) := Kp.first w
  have S0 : Hid (Sln (w.alloc (.cells (cs .u8 Zb32) 25)) ak nk key) := hK.out.below K0.out.bel
  have T0 : Hid (Kst (w.alloc (.cells (cs .u8 Zb32) 25))) := hKs.out.below K0.out.bel h0.out
  have Z0 : Hid (0 < (w.alloc (.cells (cs .u8 Zb32) 25)).heap.size) := Nat.lt_of_lt_of_le h0.out K0.out.bel.size
  obtain ⟨kb, KB⟩ : ∃ kb, Hid (Gs.kblk key = kb) := ⟨_, rfl⟩
  have LK : Hid (kb.length = 64) := by rw [← KB.out]; exact kblk_length _
  have BK : Hid (∀ x ∈ kb, x < 256) := by rw [← KB.out]; exact kblk_lt hK.out.lt
  go_enter Tryd.func15, Tryd.ntmps15
  go_upto_region 2 with (first
    | (go_at_call 27; refine (blockOf_n S0 hk1 T0 Z0).mono ?_; rintro e w1 ⟨d1, rfl, H1⟩
       have s1 : kb = d1 := KB.out.symm.trans H1.out.1.symm
       subst s1
       have K1 : Hid (Kp w w1) := K0.out.below H1.out.2
       have G5 : Hid (w.heap.size < w1.heap.size) := K1.out.out.lt
       have N1 : Hid (Arr .u8 50 (w1.alloc (.cells (cs .u8 Zb64) 50)) w1.heap.size Zb64) := Arr.new w1 .u8 50 Zb64
       obtain ⟨w2, W2⟩ : ∃ w2, Hid ((w1.alloc (.cells (cs .u8 Zb64) 50)).setRow w1.heap.size (cs .u8 kb) = w2) := ⟨_, rfl⟩
       have A2 : Hid (Arr .u8 50 w2 w1.heap.size kb) := by rw [← W2.out]; exact N1.out.setRow kb
       have B2 : Hid (Below w1.heap.size w1 w2) := by rw [← W2.out]; exact (Oth.setRow _).below ((Below.refl _ _).alloc (Nat.le_refl _) _) (Nat.le_refl _)
       have K2 : Hid (Kp w w2) := K1.out.below B2.out)
    | (refine wpList_st0 (t := 50) (l := Zb64) (l2 := kb) (by rfl) (by rfl) 50 (.tmp 5) (.tmp 8) (by rfl) (by rfl) (by rfl) N1 (by rw [LK.out]; exact sz50) (by rw [LK.out]; rfl) ?_; refine (show _ = w2 from W2.out) ▸ ?_))
  generalize hg5 : w1.heap.size = g5 at *
  have R2 : Hid (Rng .u8 w2 g5 0 kb) := A2.out.rng
  clear H1 W2 N1 K1 K0 S0 T0 Z0 B2 hg5
  obtain ⟨x1, X1⟩ : ∃ x, Hid (Gs.xorL kb 54 = x) := ⟨_, rfl⟩
  have LX : Hid (x1.length = 64) := by rw [← X1.out, xorL_length]; exact LK.out
  have BX : Hid (∀ x ∈ x1, x < 256) := by rw [← X1.out]; exact xorL_lt BK.out (by decide)
  go_upto_region 3 with (first
    | (refine wpList_ld (by rfl) 50 (.tmp 5) (by rfl) (by rfl) R2 und50 (by rw [LK.out]; exact sz50) ?_)
    | (go_at_call 29; refine (xor_n kb 54 LK.out BK (by decide) _).mono ?_; rintro e w3 ⟨d3, rfl, H3⟩
       have s3 : x1 = d3 := X1.out.symm.trans H3.out.1.symm
       subst s3
       have K3 : Hid (Kp w w3) := K2.out.below H3.out.2
       have S3 : Hid (Sln w3 am nm msg) := hM.out.below K3.out.bel
       have T3 : Hid (Kst w3) := hKs.out.below K3.out.bel h0.out
       have Z3 : Hid (0 < w3.heap.size) := Nat.lt_of_lt_of_le h0.out K3.out.bel.size
       have A3 : Hid (Arr .u8 50 w3 g5 kb) := A2.out.below H3.out.2 A2.out.lt)
    | (go_at_call 28; refine (macdig_n LX BX S3 hk2 T3 Z3).mono ?_; rintro e w4 ⟨d4, rfl, H4⟩
       have L4 : Hid (d4.length = 32) := by rw [H4.out.1]; exact sum_length _
       have K4 : Hid (Kp w w4) := K3.out.below H4.out.2
       have A4 : Hid (Arr .u8 50 w4 g5 kb) := A3.out.below H4.out.2 A3.out.lt
       have N4 : Hid (Arr .u8 25 (w4.alloc (.cells (cs .u8 Zb32) 25)) w4.heap.size Zb32) := Arr.new w4 .u8 25 Zb32
       obtain ⟨w5, W5⟩ : ∃ w5, Hid ((w4.alloc (.cells (cs .u8 Zb32) 25)).setRow w4.heap.size (cs .u8 d4) = w5) := ⟨_, rfl⟩
       have A5 : Hid (Arr .u8 25 w5 w4.heap.size d4) := by rw [← W5.out]; exact N4.out.setRow d4
       have B5 : Hid (Below w4.heap.size w4 w5) := by rw [← W5.out]; exact (Oth.setRow _).below ((Below.refl _ _).alloc (Nat.le_refl _) _) (Nat.le_refl _)
       have K5 : Hid (Kp w w5) := K4.out.below B5.out
       have Q5 : Hid (Arr .u8 50 w5 g5 kb) := A4.out.below B5.out A4.out.lt)
    | (refine wpList_st0 (t := 25) (l := Zb32) (l2 := d4) (by rfl) (by rfl) 25 (.tmp 6) (.tmp 12) (by rfl) (by rfl) (by rfl) N4 (by rw [L4.out]; exact sz25) (by rw [L4.out]; rfl) ?_; refine (show _ = w5 from W5.out) ▸ ?_))
  generalize hg6 : w4.heap.size = g6 at *
  have D4 : Hid (d4 = Gs.sum (x1 ++ msg)) := H4.out.1
  have E4 : Hid (∀ x ∈ d4, x < 256) := by rw [D4.out]; exact sum_lt _
  clear H4 H3 W5 N4 K4 K3 S3 T3 Z3 A3 A4 B5 hg6 R2 A2 K2
  refine wp_region_held (S := fun w' => Arr .u8 50 w' g5 kb) (by kernel_rfl) ?_
  have hS0 : Arr .u8 50 (w5.drewN 1) g5 kb := Q5.out.drewN 1
  have K6 : Hid (Kp w (w5.drewN 1)) := K5.out.below (below_drewN (Below.refl _ _) 1)
  have A6 : Hid (Arr .u8 25 (w5.drewN 1) g6 d4) := A5.out.drewN 1
  generalize hw0 : w5.drewN 1 = w6 at hS0 K6 A6
  have hw1 : ({ heap := w5.heap, tape := w5.tape, drawn := w5.drawn + 1, os := w5.os, output := w5.output } : World) = w6 := hw0
  refine (show _ = w6 from hw1) ▸ ?_
  clear hw0 hw1 K5 A5 Q5
  refine wpAnyH_take (i := 0) (v := .agg (cs .u8 kb)) rfl (by kernel_rfl) (by kernel_rfl) (by kernel_rfl) (fun _ _ _ h => h) (yieldsIf_ld (by rfl) 50 (.tmp 5) (by rfl) (by rfl) (fun w' h' => h'.rng) und50 (by rw [LK.out]; exact sz50)) (by assumption) ?_
  simp only [List.getElem_toArray, List.getElem_cons_zero, List.getElem_cons_succ, Act.put, List.setIfInBounds_toArray, List.set_cons_zero, List.set_cons_succ]
  refine wpAnyH_take (i := 2) (v := .slice (some ⟨g6, 0, none⟩) 32 32) rfl (by kernel_rfl) (by kernel_rfl) (by kernel_rfl) (fun _ _ _ h => h) (Or.inl ⟨by rfl, fun w hSw => by clear hSw; go_simp⟩) (by assumption) ?_
  simp only [List.getElem_toArray, List.getElem_cons_zero, List.getElem_cons_succ, Act.put, List.setIfInBounds_toArray, List.set_cons_zero, List.set_cons_succ]
  refine wpAnyH_ready (rs := [1]) (by kernel_rfl) (by simp) (AllReadyH.cons rfl (fun K hK => ?_) AllReadyH.nil)
  simp only [List.getElem_toArray, List.getElem_cons_zero, List.getElem_cons_succ]
  rw [if_pos (by rfl)]
  obtain ⟨x2, X2⟩ : ∃ x, Hid (Gs.xorL kb 92 = x) := ⟨_, rfl⟩
  have LY : Hid (x2.length = 64) := by rw [← X2.out, xorL_length]; exact LK.out
  have BY : Hid (∀ x ∈ x2, x < 256) := by rw [← X2.out]; exact xorL_lt BK.out (by decide)
  go_simp
  go_wp2_with (go_at_call 29; refine (xor_n kb 92 LK.out BK (by decide) _).mono ?_; rintro e w7 ⟨d7, rfl, H7⟩)
  have s7 : x2 = d7 := X2.out.symm.trans H7.out.1.symm
  subst s7
  have K7 : Hid (Kp w w7) := K6.out.below H7.out.2
  have S7 : Hid (Sln w7 (some ⟨g6, 0, none⟩) 32 d4) := Blk0.sln (A6.out.below H7.out.2 A6.out.lt) E4.out L4.out (by omega)
  have T7 : Hid (Kst w7) := hKs.out.below K7.out.bel h0.out
  have Z7 : Hid (0 < w7.heap.size) := Nat.lt_of_lt_of_le h0.out K7.out.bel.size
  refine hK.out _ _ ?_ (fun hS7 => ?_)
  · exact Arr.below hS0 H7.out.2 hS0.lt
  clear hK K
  refine wpAnyH_ready (rs := [3]) (by kernel_rfl) (by simp) (AllReadyH.cons rfl (fun K hK => ?_) AllReadyH.nil)
  simp only [List.getElem_toArray, List.getElem_cons_zero, List.getElem_cons_succ]
  rw [if_pos (by rfl)]
  go_simp
  go_wp2_with (go_at_call 28; refine (macdig_n LY BY S7 (Nat.le_refl _) T7 Z7).mono ?_; rintro e w8 ⟨d8, rfl, H8⟩)
  have K8 : Hid (Kp w w8) := K7.out.below H8.out.2
  have A8 : Hid (Arr .u8 25 w8 w.heap.size Zb32) := K8.out.out
  have L8 : Hid (d8.length = 32) := by rw [H8.out.1]; exact sum_length _
  have g5w : Hid (g5 ≠ w.heap.size) := Nat.ne_of_gt G5.out
  refine hK.out _ _ ?_ (fun hS8 => ?_)
  · exact Arr.below hS7 H8.out.2 hS7.lt
  clear hK K
  refine wpAnyH_ready (rs := [4]) (by kernel_rfl) (by simp) (AllReadyH.cons rfl (fun K hK => ?_) AllReadyH.nil)
  simp only [List.getElem_toArray, List.getElem_cons_zero, List.getElem_cons_succ]
  rw [if_pos (by rfl)]
  refine wp_st (k := .u8) (t := 25) (l := Zb32) (l2 := d8) (by rfl) 25 (.tmp 4) (.tmp 16) (by rfl) (by rfl) (by rfl) A8 (by rw [L8.out]; exact sz25) (by rw [L8.out]; rfl) ?_
  refine hK.out _ _ ?_ (fun hS9 => ?_)
  · exact Arr.oth hS8 (Oth.setRow _) g5w.out
  clear hK K
  refine wpAnyH_done (by kernel_rfl) ?_ _
  go_wp2
  refine bodyPost_ret (v := .agg (cs .u8 d8)) (res_arr (by rfl) (by rfl) (A8.out.setRow d8) und25 (by rw [L8.out]; exact sz25)) rfl ?_
  refine ⟨d8, rfl, ?_, (Oth.setRow _).below K8.out.bel (Nat.le_refl _)⟩
  rw [H8.out.1, D4.out, ← X2.out, ← X1.out, ← KB.out]
  rfl
end Go.Proofs.YthkoidfjmbfoiaaDoor
