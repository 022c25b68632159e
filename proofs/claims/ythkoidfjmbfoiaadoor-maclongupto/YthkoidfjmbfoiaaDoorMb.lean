/- What the laying of a key into a block, and the digest of a block and a message, do to a machine. -/
import Derived.Test.YthkoidfjmbfoiaaDoorMa
namespace Go.Proofs.YthkoidfjmbfoiaaDoor
open Go.ChangeShapes Go.WideShapes Go.ChangeAt Go.RowKit
set_option linter.unusedVariables false
set_option linter.unusedSimpArgs false
structure Bk (w wr : World) (l : List Nat) : Prop where
  out : Arr .u8 50 wr w.heap.size Zb64
  acc : Arr .u8 50 wr (w.heap.size + 1) l
  bel : Below w.heap.size w wr
theorem Bk.first (w : World) : Bk w ((w.alloc (.cells (cs .u8 Zb64) 50)).alloc (.cells (cs .u8 Zb64) 50)) Zb64 := ⟨(two w _ _).1, (two w _ _).2, below2 w _ _⟩
theorem Bk.below {w a b : World} {l : List Nat} (h : Bk w a l) (hb : Below a.heap.size a b) : Bk w b l := ⟨h.out.below hb h.out.lt, h.acc.below hb h.acc.lt, h.bel.trans (hb.mono h.bel.size)⟩
theorem Bk.put {w a b : World} {l l2 : List Nat} (h : Bk w a l) (o : Oth (w.heap.size + 1) a b) (h2 : Arr .u8 50 b (w.heap.size + 1) l2) : Bk w b l2 := ⟨h.out.oth o (by omega), h2, o.below h.bel (by omega)⟩
set_option maxRecDepth 20000 in
set_option maxHeartbeats 1000000 in
theorem blockOf_n {w : World} {a : Option Addr} {n k : Nat} {l : List Nat} (hS : Hid (Sln w a n l)) (hk : n ≤ k) (hKs : Hid (Kst w)) (h0 : Hid (0 < w.heap.size)) :
    Calls Tryd.prog 27 #[.slice a n k] w fun e w' => ∃ d, e = .returned (.agg (cs .u8 d)) ∧ Hid (d = Gs.kblk l ∧ Below w.heap.size w w') := by
  obtain ⟨w0, W0⟩ : ∃ w0, Hid ((w.alloc (.cells (cs .u8 Zb64) 50)).alloc (.cells (cs .u8 Zb64) 50) = w0) := ⟨_, rfl⟩
  have K0 : Hid (Bk w w0 Zb64) := by rw [← W0.out]; exact Bk.first w
  have S0 : Hid (Sln w0 a n l) := hS.out.below K0.out.bel
  have T0 : Hid (Kst w0) := hKs.out.below K0.out.bel h0.out
  have Z0 : Hid (0 < w0.heap.size) := Nat.lt_of_lt_of_le h0.out K0.out.bel.size
  have e := hS.out.len
  by_cases h64 : 64 < n
  · have i1 : (64 : Int) < (n : Int) := by omega
    have EL : Hid (Gs.kblk l = Gs.pad (Gs.sum l)) := by unfold Gs.kblk; rw [if_pos (by omega)]; exact rfl
    clear e
    go_enter Tryd.func27, Tryd.ntmps27
    go_upto_region 4 with (first
      | (go_at_call 11; refine (show _ = w0 from W0.out) ▸ ?_; refine (sum_n S0 hk T0 Z0).mono ?_; rintro e w1 ⟨d, rfl, H1⟩
         have L1 : Hid (d.length = 32) := by rw [H1.out.1]; exact sum_length _
         have K1 : Hid (Bk w w1 Zb64) := K0.out.below H1.out.2
         have N1 : Hid (Arr .u8 25 (w1.alloc (.cells (cs .u8 Zb32) 25)) w1.heap.size Zb32) := Arr.new w1 .u8 25 Zb32
         obtain ⟨w2, W2⟩ : ∃ w2, Hid ((w1.alloc (.cells (cs .u8 Zb32) 25)).setRow w1.heap.size (cs .u8 d) = w2) := ⟨_, rfl⟩
         have A2 : Hid (Arr .u8 25 w2 w1.heap.size d) := by rw [← W2.out]; exact N1.out.setRow d
         have B2 : Hid (Below w1.heap.size w1 w2) := by rw [← W2.out]; exact (Oth.setRow _).below ((Below.refl _ _).alloc (Nat.le_refl _) _) (Nat.le_refl _)
         have K2 : Hid (Bk w w2 Zb64) := K1.out.below B2.out)
      | (refine wpList_st0 (t := 25) (l := Zb32) (l2 := d) (by rfl) (by rfl) 25 (.tmp 4) (.tmp 9) (by rfl) (by rfl) (by rfl) N1 (by rw [L1.out]; exact sz25) (by rw [L1.out]; rfl) ?_; refine (show _ = w2 from W2.out) ▸ ?_))
    go_still_tail 2, (by kernel_rfl)
    generalize hw4 : ({ heap := w2.heap, tape := w2.tape, drawn := w2.drawn + 1, os := w2.os, output := w2.output } : World) = w4
    have hw5 : w2.drew = w4 := hw4
    have B4 : Below w2.heap.size w2 w4 := by rw [← hw5]; exact below_drewN (Below.refl _ _) 1
    have K4 : Hid (Bk w w4 Zb64) := K2.out.below B4
    have S4 : Sln w4 (some ⟨w1.heap.size, 0, none⟩) 32 d := by
      have h := arr_sln (A2.out.below B4 A2.out.lt) (by rw [H1.out.1]; exact sum_lt _) 32 (by rw [L1.out]; omega) (by omega)
      rw [List.take_of_length_le (by rw [L1.out]; omega)] at h
      exact h
    obtain ⟨w5, cp, A5, O5⟩ := copy_arr w4 (w.heap.size + 1) 64 64 32 32 50 _ Zb64 d K4.out.acc (by decide) S4
    have A5' : Arr .u8 50 w5 (w.heap.size + 1) (Gs.pad d) := by
      have h := pad_copy (l := d) (m := 32) L1.out.symm (by omega)
      rw [← h]; exact A5
    have K5 : Hid (Bk w w5 (Gs.pad d)) := K4.out.put O5 A5'
    obtain ⟨q, HQ⟩ : ∃ q, Hid (Gs.pad d = q) := ⟨_, rfl⟩
    rw [HQ.out] at K5
    have N5 : Hid (q.length = 64) := by rw [← HQ.out]; exact pad_length _ (by rw [L1.out]; omega)
    have VE : Hid (q = Gs.kblk l) := by rw [EL.out, ← HQ.out, H1.out.1]; exact rfl
    have R1 : Hid (Rng .u8 w5 (w.heap.size + 1) 0 q) := K5.out.acc.rng
    have R2 : Hid (Arr .u8 50 w5 w.heap.size Zb64) := K5.out.out
    have RE : Hid (Arr .u8 50 (w5.setRow w.heap.size (cs .u8 q)) w.heap.size q) := K5.out.out.setRow q
    have BE : Hid (Below w.heap.size w (w5.setRow w.heap.size (cs .u8 q))) := (Oth.setRow _).below K5.out.bel (Nat.le_refl _)
    clear hw4 hw5 B4 K4 S4 A5 A5' O5 K5 K2 B2 A2 N1 K1
    go_wp2_with (first | (refine wpList_ld (by rfl) 50 (.tmp 3) (by rfl) (by rfl) R1 und50 (by rw [N5.out]; exact sz50) ?_) | (refine wpList_st1 (t := 50) (l := Zb64) (by rfl) (by rfl) 50 (.tmp 2) (.tmp 13) (by rfl) (by rfl) (by rfl) R2 (by rw [N5.out]; exact sz50) (by rw [N5.out]; rfl) ?_))
    refine bodyPost_ret (v := .agg (cs .u8 q)) (res_arr (by rfl) (by rfl) RE.out und50 (by rw [N5.out]; exact sz50)) rfl ?_
    exact ⟨q, rfl, VE.out, BE.out⟩
  · have i1 : ¬ ((64 : Int) < (n : Int)) := by omega
    have EL : Hid (Gs.kblk l = Gs.pad l) := by unfold Gs.kblk; rw [if_neg (by omega)]; exact rfl
    obtain ⟨w5, cp, A5, O5⟩ := copy_arr w0 (w.heap.size + 1) 64 64 n k 50 a Zb64 l K0.out.acc (by decide) S0.out
    have A5' : Arr .u8 50 w5 (w.heap.size + 1) (Gs.pad l) := by
      have h := pad_copy (l := l) (m := n) e (by omega)
      rw [← h]; exact A5
    have K5 : Hid (Bk w w5 (Gs.pad l)) := K0.out.put O5 A5'
    obtain ⟨q, HQ⟩ : ∃ q, Hid (Gs.pad l = q) := ⟨_, rfl⟩
    rw [HQ.out] at K5
    have N5 : Hid (q.length = 64) := by rw [← HQ.out]; exact pad_length _ (by omega)
    have VE : Hid (q = Gs.kblk l) := by rw [EL.out, ← HQ.out]; exact rfl
    have R1 : Hid (Rng .u8 w5 (w.heap.size + 1) 0 q) := K5.out.acc.rng
    have R2 : Hid (Arr .u8 50 w5 w.heap.size Zb64) := K5.out.out
    have RE : Hid (Arr .u8 50 (w5.setRow w.heap.size (cs .u8 q)) w.heap.size q) := K5.out.out.setRow q
    have BE : Hid (Below w.heap.size w (w5.setRow w.heap.size (cs .u8 q))) := (Oth.setRow _).below K5.out.bel (Nat.le_refl _)
    clear A5 A5' O5 K5 e
    go_enter Tryd.func27, Tryd.ntmps27
    go_upto_region 6 with (fail)
    refine (show _ = w0 from W0.out) ▸ ?_
    go_wp2_with (first | (refine wpList_ld (by rfl) 50 (.tmp 3) (by rfl) (by rfl) R1 und50 (by rw [N5.out]; exact sz50) ?_) | (refine wpList_st1 (t := 50) (l := Zb64) (by rfl) (by rfl) 50 (.tmp 2) (.tmp 17) (by rfl) (by rfl) (by rfl) R2 (by rw [N5.out]; exact sz50) (by rw [N5.out]; rfl) ?_))
    refine bodyPost_ret (v := .agg (cs .u8 q)) (res_arr (by rfl) (by rfl) RE.out und50 (by rw [N5.out]; exact sz50)) rfl ?_
    exact ⟨q, rfl, VE.out, BE.out⟩
/- the answer's box, beside what is handed in -/
def digW (w : World) (b : List Nat) : World := (w.alloc (.cells (cs .u8 b) 50)).alloc (.cells (cs .u8 Zb32) 25)
set_option maxRecDepth 20000 in
set_option maxHeartbeats 1000000 in
theorem macdig_n {w : World} {b : List Nat} {a : Option Addr} {n k : Nat} {l : List Nat} (hb : Hid (b.length = 64)) (hB : Hid (∀ x ∈ b, x < 256)) (hS : Hid (Sln w a n l)) (hk : n ≤ k) (hKs : Hid (Kst w)) (h0 : Hid (0 < w.heap.size)) :
    Calls Tryd.prog 28 #[.agg (cs .u8 b), .slice a n k] w fun e w' => ∃ d, e = .returned (.agg (cs .u8 d)) ∧ Hid (d = Gs.sum (b ++ l) ∧ Below w.heap.size w w') := by
  obtain ⟨w0, W0⟩ : ∃ w0, Hid ((w.alloc (.cells (cs .u8 b) 50)).alloc (.cells (cs .u8 Zb32) 25) = w0) := ⟨_, rfl⟩
  have B0 : Hid (Below w.heap.size w w0) := by rw [← W0.out]; exact below2 w _ _
  have A1 : Hid (Arr .u8 50 w0 w.heap.size b) := by rw [← W0.out]; exact (two w _ _).1
  have A2 : Hid (Arr .u8 25 w0 (w.heap.size + 1) Zb32) := by rw [← W0.out]; exact (two w _ _).2
  have S0 : Hid (Sln w0 a n l) := hS.out.below B0.out
  have T0 : Hid (Kst w0) := hKs.out.below B0.out h0.out
  have Z0 : Hid (0 < w0.heap.size) := Nat.lt_of_lt_of_le h0.out B0.out.size
  have SB : Hid (Sln w0 (some ⟨w.heap.size, 0, none⟩) 64 b) := by
    have h := arr_sln A1.out hB.out 64 (by rw [hb.out]; omega) (by omega)
    rw [List.take_of_length_le (by rw [hb.out]; omega)] at h
    exact h
  have R0 : Hid (Below w0.heap.size w0 w0) := Below.refl _ _
  have lb := hS.out.sli.2.1
  have L1 : Hid (([] : List Nat).length + b.length < 4611686018427387904) := by
    have h7 : ([] : List Nat).length + b.length < 4611686018427387904 := by rw [hb.out]; simp
    exact h7
  have L2 : Hid (([] ++ b).length + l.length < 4611686018427387904) := by
    have h7 : ([] ++ b).length + l.length < 4611686018427387904 := by simp [hb.out]; omega
    exact h7
  have L3 : Hid (([] ++ b ++ l).length < 4611686018427387904) := by
    have h7 : ([] ++ b ++ l).length < 4611686018427387904 := by simp [hb.out]; omega
    exact h7
  clear lb
  go_enter Tryd.func28, Tryd.ntmps28
  go_upto_region 1 with (fail)
  refine (show _ = w0 from W0.out) ▸ ?_
  go_upto_region 3 with (first
    | (go_at_call 21; refine (new_h R0).mono ?_; rintro e w1 ⟨g, rfl, H1⟩
       have D1 : Hid (Hd w0 w1 g []) := H1.out.1)
    | (go_at_call 22; refine (write_h D1 SB (Nat.le_refl _) T0 Z0 L1).mono ?_; rintro e w2 ⟨rfl, H2⟩
       have D2 : Hid (Hd w0 w2 g ([] ++ b)) := H2.out.1))
  go_wp2_with (first
    | (go_at_call 22; refine (write_h D2 S0 hk T0 Z0 L2).mono ?_; rintro e w3 ⟨rfl, H3⟩
       have D3 : Hid (Hd w0 w3 g ([] ++ b ++ l)) := H3.out.1)
    | (go_at_call 23; refine (hsum_h D3 T0 Z0 L3).mono ?_; rintro e w4 ⟨d, rfl, H4⟩
       have D4 : Hid (Hd w0 w4 g ([] ++ b ++ l)) := D3.out.below H4.out.2
       have A4 : Hid (Arr .u8 25 w4 (w.heap.size + 1) Zb32) := A2.out.below D4.out.bel A2.out.lt
       have L4 : Hid (d.length = 32) := by rw [H4.out.1]; exact sum_length _)
    | (refine wpList_st0 (t := 25) (l := Zb32) (l2 := d) (by rfl) (by rfl) 25 (.tmp 4) (.tmp 14) (by rfl) (by rfl) (by rfl) A4 (by rw [L4.out]; exact sz25) (by rw [L4.out]; rfl) ?_))
  refine bodyPost_ret (v := .agg (cs .u8 d)) (res_arr (by rfl) (by rfl) (A4.out.setRow d) und25 (by rw [L4.out]; exact sz25)) rfl ?_
  have B4 : Below w.heap.size w w4 := B0.out.trans (D4.out.bel.mono B0.out.size)
  exact ⟨d, rfl, by rw [H4.out.1]; simp, (Oth.setRow _).below B4 (by omega)⟩
end Go.Proofs.YthkoidfjmbfoiaaDoor
