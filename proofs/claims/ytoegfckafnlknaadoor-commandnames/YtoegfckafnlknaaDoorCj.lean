/- Check and Put. -/
import Derived.Test.YtoegfckafnlknaaDoorCi
import Derived.Test.YtoegfckafnlknaaDoorAg
namespace Go.Proofs.YtoegfckafnlknaaDoor
open Go.ChangeShapes Go.WideShapes Go.ChangeAt Go.RowKit
set_option maxRecDepth 20000
set_option linter.unusedVariables false
set_option linter.unusedSimpArgs false
theorem Own.le {w : World} {B B' : Nat} {a : Option Addr} {n c : Nat} {L : List Nat} (h : Own w B a n c L) (hb : B' ≤ B) : Own w B' a n c L := ⟨h.len, rown_mono h.own hb, h.lt⟩
theorem newW_n (w : World) (B : Nat) : Calls Tryd.prog 33 #[] w fun e w' => ∃ gW, e = .returned (.agg #[.pointer (some ⟨gW, 0, none⟩)]) ∧ Hid (w.heap.size ≤ gW ∧ Below w.heap.size w w' ∧ Wri w' gW B none 0 0 [] false) := by
  obtain ⟨g, Hg⟩ : ∃ g, Hid (w.heap.size = g) := ⟨_, rfl⟩
  obtain ⟨w1, Hw1⟩ : ∃ w1, Hid (w.alloc (.cells #[.pointer none] 63) = w1) := ⟨_, rfl⟩
  obtain ⟨gW, HgW⟩ : ∃ gW, Hid (w1.heap.size = gW) := ⟨_, rfl⟩
  have b1 : Hid (Below w.heap.size w w1) := by rw [← Hw1.out]; exact alloc1 w _
  have k1 : Hid (w1.heap[g]? = some (.cells #[.pointer none] 63 (0, 0))) := by rw [← Hw1.out, ← Hg.out]; exact heap_alloc_new w _
  go_enter Tryd.func33, Tryd.ntmps33
  go_upto_region 1 with (fail)
  rw [Hw1.out, Hg.out]
  obtain ⟨w2, Hw2⟩ : ∃ w2, Hid (w1.alloc (.cells #[.slice none 0 0, .bool false] 107) = w2) := ⟨_, rfl⟩
  have b2 : Hid (Below w1.heap.size w1 w2) := by rw [← Hw2.out]; exact alloc1 w1 _
  have W2 : Hid (Wri w2 gW B none 0 0 [] false) := by rw [← Hw2.out, ← HgW.out]; exact Wri.new w1 B
  have k2 : w2.heap[g]? = some (.cells #[.pointer none] 63 (0, 0)) := (b2.out.block g (Array.getElem?_eq_some_iff.1 k1.out).1).trans k1.out
  have c0 : w2.cell? ⟨g, 0, none⟩ = some (.pointer none) := by simp [World.cell?, k2]
  have f0 : w2.frozen? ⟨g, 0, none⟩ = false := by simp [World.frozen?, k2]
  obtain ⟨w3, Hw3⟩ : ∃ w3, Hid (w2.setCell ⟨g, 0, none⟩ (.pointer (some ⟨gW, 0, none⟩)) = w3) := ⟨_, rfl⟩
  have gne : Hid (g ≠ gW) := by
    have h1 := (Array.getElem?_eq_some_iff.1 k1.out).1
    rw [HgW.out] at h1
    exact Nat.ne_of_lt h1
  have W3 : Hid (Wri w3 gW B none 0 0 [] false) := by
    rw [← Hw3.out]
    exact ⟨(Below.heap_setCell _ _ _ _ gne.out.symm).trans W2.out.blk, Own.nil _ _, by simp [blkOf]⟩
  have b3 : Hid (Below w.heap.size w w3) := by
    rw [← Hw3.out]
    have h := (Ch.set w2 g 0 (.pointer (some ⟨gW, 0, none⟩))).toBelow (B := w.heap.size) (Nat.le_trans b1.out.size b2.out.size) (fun q hq e => by have := Hg.out; have e2 : q = g := e; omega)
    exact (b1.out.trans (b2.out.mono b1.out.size)).trans h
  have c3 : w3.cell? ⟨g, 0, none⟩ = some (.pointer (some ⟨gW, 0, none⟩)) := by rw [← Hw3.out]; simp [World.cell?, set_blk k2]
  go_wp2_with (go_at_call 67; refine (newWriter_n _).mono ?_; rintro e w0 ⟨rfl, h0⟩; rw [h0.out, Hw2.out, HgW.out]; clear h0)
  rw [Hw3.out]
  refine bodyPost_ret (v := .agg #[.pointer (some ⟨gW, 0, none⟩)]) (by simp [results, Tryd.results33, go_sem, c3]) rfl ⟨gW, rfl, ?_, b3.out, W3.out⟩
  have := b1.out.size
  have := HgW.out
  omega
set_option maxHeartbeats 2000000 in
theorem check_ok {w : World} {k i0 i1 i2 : Int} {bu ke : ByteArray} {u0 u1 u2 b0 b1 b2 sz : Int} {et : ByteArray} {pt : Int} {ps : List Int} {pa : Option Addr} {pn pc : Nat} {tm dy : Int} (hI : Hid (Irow w 0 pa pn ps)) (HF : Hid (frm ⟨k, i0, i1, i2, bu, ke, u0, u1, u2, b0, b1, b2, sz, et, pt, ps, tm, dy⟩ = true)) :
    Calls Tryd.prog 11 #[.agg #[.int .i64 k, .int .i64 i0, .int .i64 i1, .int .i64 i2, .string bu, .string ke, .int .i64 u0, .int .i64 u1, .int .i64 u2, .int .i64 b0, .int .i64 b1, .int .i64 b2, .int .i64 sz, .string et, .int .i64 pt, .slice pa pn pc, .int .i64 tm, .int .i64 dy]] w fun e w' => e = .returned (.nilIface) ∧ Hid (Below w.heap.size w w') := by
  obtain ⟨g1, Hg1⟩ : ∃ g, Hid (w.heap.size = g) := ⟨_, rfl⟩
  obtain ⟨w1, Hw1⟩ : ∃ w1, Hid (w.alloc (.cells #[.int .i64 k, .int .i64 i0, .int .i64 i1, .int .i64 i2, .string bu, .string ke, .int .i64 u0, .int .i64 u1, .int .i64 u2, .int .i64 b0, .int .i64 b1, .int .i64 b2, .int .i64 sz, .string et, .int .i64 pt, .slice pa pn pc, .int .i64 tm, .int .i64 dy] 28) = w1) := ⟨_, rfl⟩
  have B1 : Hid (Below w.heap.size w w1) := by rw [← Hw1.out]; exact alloc1 w _
  have k1 : Hid (w1.heap[g1]? = some (.cells #[.int .i64 k, .int .i64 i0, .int .i64 i1, .int .i64 i2, .string bu, .string ke, .int .i64 u0, .int .i64 u1, .int .i64 u2, .int .i64 b0, .int .i64 b1, .int .i64 b2, .int .i64 sz, .string et, .int .i64 pt, .slice pa pn pc, .int .i64 tm, .int .i64 dy] 28 (0, 0))) := by rw [← Hw1.out, ← Hg1.out]; exact heap_alloc_new w _
  have I1 : Hid (Irow w1 0 pa pn ps) := hI.out.keep B1.out.size (fun q _ hq => B1.out.block q hq)
  have R1 : w1.rangeAt g1 0 [.int .i64 k, .int .i64 i0, .int .i64 i1, .int .i64 i2, .string bu, .string ke, .int .i64 u0, .int .i64 u1, .int .i64 u2, .int .i64 b0, .int .i64 b1, .int .i64 b2, .int .i64 sz, .string et, .int .i64 pt, .slice pa pn pc, .int .i64 tm, .int .i64 dy] := range_blk k1.out
  go_enter Tryd.func11, Tryd.ntmps11
  go_upto_region 1 with (fail)
  rw [Hw1.out, Hg1.out]
  go_wp2_with first
    | (refine wpList_load_mid (by rfl) 28 (.tmp 1) (by rfl) g1 0 (by rfl) _ _ R1 Tryd.underlying28 rfl (by kernel_rfl) ?_)
    | (go_at_call 32; refine (inForm_n I1).mono ?_; rintro e w2 ⟨rfl, h2⟩; rw [HF.out])
  go_ret
  exact ⟨rfl, B1.out.trans (h2.out.mono B1.out.size)⟩
set_option maxHeartbeats 2000000 in
theorem check_no {w : World} {M : Nat → Prop} {E : Nat → Addr} {k i0 i1 i2 : Int} {bu ke : ByteArray} {u0 u1 u2 b0 b1 b2 sz : Int} {et : ByteArray} {pt : Int} {ps : List Int} {pa : Option Addr} {pn pc : Nat} {tm dy : Int} (hI : Hid (Irow w 0 pa pn ps)) (hE : Hid (Sent w M E)) (hM : M 0) (HF : Hid (frm ⟨k, i0, i1, i2, bu, ke, u0, u1, u2, b0, b1, b2, sz, et, pt, ps, tm, dy⟩ = false)) :
    Calls Tryd.prog 11 #[.agg #[.int .i64 k, .int .i64 i0, .int .i64 i1, .int .i64 i2, .string bu, .string ke, .int .i64 u0, .int .i64 u1, .int .i64 u2, .int .i64 b0, .int .i64 b1, .int .i64 b2, .int .i64 sz, .string et, .int .i64 pt, .slice pa pn pc, .int .i64 tm, .int .i64 dy]] w fun e w' => e = .returned (er (E 0)) ∧ Hid (Below w.heap.size w w') := by
  obtain ⟨g1, Hg1⟩ : ∃ g, Hid (w.heap.size = g) := ⟨_, rfl⟩
  obtain ⟨w1, Hw1⟩ : ∃ w1, Hid (w.alloc (.cells #[.int .i64 k, .int .i64 i0, .int .i64 i1, .int .i64 i2, .string bu, .string ke, .int .i64 u0, .int .i64 u1, .int .i64 u2, .int .i64 b0, .int .i64 b1, .int .i64 b2, .int .i64 sz, .string et, .int .i64 pt, .slice pa pn pc, .int .i64 tm, .int .i64 dy] 28) = w1) := ⟨_, rfl⟩
  have B1 : Hid (Below w.heap.size w w1) := by rw [← Hw1.out]; exact alloc1 w _
  have k1 : Hid (w1.heap[g1]? = some (.cells #[.int .i64 k, .int .i64 i0, .int .i64 i1, .int .i64 i2, .string bu, .string ke, .int .i64 u0, .int .i64 u1, .int .i64 u2, .int .i64 b0, .int .i64 b1, .int .i64 b2, .int .i64 sz, .string et, .int .i64 pt, .slice pa pn pc, .int .i64 tm, .int .i64 dy] 28 (0, 0))) := by rw [← Hw1.out, ← Hg1.out]; exact heap_alloc_new w _
  have I1 : Hid (Irow w1 0 pa pn ps) := hI.out.keep B1.out.size (fun q _ hq => B1.out.block q hq)
  have R1 : w1.rangeAt g1 0 [.int .i64 k, .int .i64 i0, .int .i64 i1, .int .i64 i2, .string bu, .string ke, .int .i64 u0, .int .i64 u1, .int .i64 u2, .int .i64 b0, .int .i64 b1, .int .i64 b2, .int .i64 sz, .string et, .int .i64 pt, .slice pa pn pc, .int .i64 tm, .int .i64 dy] := range_blk k1.out
  go_enter Tryd.func11, Tryd.ntmps11
  go_upto_region 1 with (fail)
  rw [Hw1.out, Hg1.out]
  go_upto_region 2 with first
    | (refine wpList_load_mid (by rfl) 28 (.tmp 1) (by rfl) g1 0 (by rfl) _ _ R1 Tryd.underlying28 rfl (by kernel_rfl) ?_)
    | (go_at_call 32; refine (inForm_n I1).mono ?_; rintro e w2 ⟨rfl, h2⟩; rw [HF.out])
  have B2 : Hid (Below w.heap.size w w2) := B1.out.trans (h2.out.mono B1.out.size)
  have ce : w2.cell? ⟨0, 0, none⟩ = some (er (E 0)) := (hE.out.below B2.out).c 0 hM
  clear R1
  go_wp2
  go_ret
  exact ⟨rfl, B2.out⟩
set_option maxHeartbeats 2000000 in
theorem put_no {w : World} {M : Nat → Prop} {E : Nat → Addr} {k i0 i1 i2 : Int} {bu ke : ByteArray} {u0 u1 u2 b0 b1 b2 sz : Int} {et : ByteArray} {pt : Int} {ps : List Int} {pa : Option Addr} {pn pc : Nat} {tm dy : Int} (hI : Hid (Irow w 0 pa pn ps)) (hE : Hid (Sent w M E)) (hM : M 0) (hF : Hid (frm ⟨k, i0, i1, i2, bu, ke, u0, u1, u2, b0, b1, b2, sz, et, pt, ps, tm, dy⟩ = false)) :
    Calls Tryd.prog 12 #[.agg #[.int .i64 k, .int .i64 i0, .int .i64 i1, .int .i64 i2, .string bu, .string ke, .int .i64 u0, .int .i64 u1, .int .i64 u2, .int .i64 b0, .int .i64 b1, .int .i64 b2, .int .i64 sz, .string et, .int .i64 pt, .slice pa pn pc, .int .i64 tm, .int .i64 dy]] w fun e w' => e = .returned (.tuple #[.slice none 0 0, er (E 0)]) ∧ Hid (Below w.heap.size w w') := by
  obtain ⟨g1, Hg1⟩ : ∃ g, Hid (w.heap.size = g) := ⟨_, rfl⟩
  obtain ⟨w1, Hw1⟩ : ∃ w1, Hid (w.alloc (.cells #[.int .i64 k, .int .i64 i0, .int .i64 i1, .int .i64 i2, .string bu, .string ke, .int .i64 u0, .int .i64 u1, .int .i64 u2, .int .i64 b0, .int .i64 b1, .int .i64 b2, .int .i64 sz, .string et, .int .i64 pt, .slice pa pn pc, .int .i64 tm, .int .i64 dy] 28) = w1) := ⟨_, rfl⟩
  have B1 : Hid (Below w.heap.size w w1) := by rw [← Hw1.out]; exact alloc1 w _
  have k1 : Hid (w1.heap[g1]? = some (.cells #[.int .i64 k, .int .i64 i0, .int .i64 i1, .int .i64 i2, .string bu, .string ke, .int .i64 u0, .int .i64 u1, .int .i64 u2, .int .i64 b0, .int .i64 b1, .int .i64 b2, .int .i64 sz, .string et, .int .i64 pt, .slice pa pn pc, .int .i64 tm, .int .i64 dy] 28 (0, 0))) := by rw [← Hw1.out, ← Hg1.out]; exact heap_alloc_new w _
  have I1 : Hid (Irow w1 0 pa pn ps) := hI.out.keep B1.out.size (fun q _ hq => B1.out.block q hq)
  have E1 : Hid (Sent w1 M E) := hE.out.below B1.out
  have R1 : w1.rangeAt g1 0 [.int .i64 k, .int .i64 i0, .int .i64 i1, .int .i64 i2, .string bu, .string ke, .int .i64 u0, .int .i64 u1, .int .i64 u2, .int .i64 b0, .int .i64 b1, .int .i64 b2, .int .i64 sz, .string et, .int .i64 pt, .slice pa pn pc, .int .i64 tm, .int .i64 dy] := range_blk k1.out
  go_enter Tryd.func12, Tryd.ntmps12
  go_upto_region 1 with (fail)
  rw [Hw1.out, Hg1.out]
  go_wp2_with first
    | (refine wpList_load_mid (by rfl) 28 (.tmp 1) (by rfl) g1 0 (by rfl) _ _ R1 Tryd.underlying28 rfl (by kernel_rfl) ?_)
    | (go_at_call 11; refine (check_no I1 E1 hM hF).mono ?_; rintro e w2 ⟨rfl, h2⟩)
  go_ret2
  exact ⟨rfl, B1.out.trans (h2.out.mono B1.out.size)⟩
end Go.Proofs.YtoegfckafnlknaaDoor
