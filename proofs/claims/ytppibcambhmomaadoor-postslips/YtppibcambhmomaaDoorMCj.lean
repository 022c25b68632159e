/- Check and Put. -/
import Derived.Test.YtppibcambhmomaaDoorMh
import Derived.Test.YtppibcambhmomaaDoorMChCi
import Derived.Test.YtppibcambhmomaaDoorMAd
namespace Go.Proofs.YtppibcambhmomaaDoor
open Go.ChangeShapes Go.WideShapes Go.ChangeAt Go.RowKit
set_option maxRecDepth 20000
set_option linter.unusedVariables false
set_option linter.unusedSimpArgs false
theorem Own.le {w : World} {B B' : Nat} {a : Option Addr} {n c : Nat} {L : List Nat} (h : Own w B a n c L) (hb : B' ≤ B) : Own w B' a n c L := ⟨h.len, rown_mono h.own hb, h.lt⟩
theorem newW_n (w : World) (B : Nat) : Calls Tryd.prog 34 #[] w fun e w' => ∃ gW, e = .returned (.agg #[.pointer (some ⟨gW, 0, none⟩)]) ∧ Hid (w.heap.size ≤ gW ∧ Below w.heap.size w w' ∧ Wri w' gW B none 0 0 [] false) := by
  obtain ⟨g, Hg⟩ : ∃ g, Hid (w.heap.size = g) := ⟨_, rfl⟩
  obtain ⟨w1, Hw1⟩ : ∃ w1, Hid (w.alloc (.cells #[.pointer none] 70) = w1) := ⟨_, rfl⟩
  obtain ⟨gW, HgW⟩ : ∃ gW, Hid (w1.heap.size = gW) := ⟨_, rfl⟩
  have b1 : Hid (Below w.heap.size w w1) := by rw [← Hw1.out]; exact alloc1 w _
  have k1 : Hid (w1.heap[g]? = some (.cells #[.pointer none] 70 (0, 0))) := by rw [← Hw1.out, ← Hg.out]; exact heap_alloc_new w _
  go_enter Tryd.func34, Tryd.ntmps34
  go_upto_region 1 with (fail)
  rw [Hw1.out, Hg.out]
  obtain ⟨w2, Hw2⟩ : ∃ w2, Hid (w1.alloc (.cells #[.slice none 0 0, .bool false] 96) = w2) := ⟨_, rfl⟩
  have b2 : Hid (Below w1.heap.size w1 w2) := by rw [← Hw2.out]; exact alloc1 w1 _
  have W2 : Hid (Wri w2 gW B none 0 0 [] false) := by rw [← Hw2.out, ← HgW.out]; exact Wri.new w1 B
  have k2 : w2.heap[g]? = some (.cells #[.pointer none] 70 (0, 0)) := (b2.out.block g (Array.getElem?_eq_some_iff.1 k1.out).1).trans k1.out
  have c0 : w2.cell? ⟨g, 0, none⟩ = some (.pointer none) := by simp [World.cell?, k2]
  have f0 : w2.frozen? ⟨g, 0, none⟩ = false := by simp [World.frozen?, k2]
  obtain ⟨w3, Hw3⟩ : ∃ w3, Hid (w2.setCell ⟨g, 0, none⟩ (.pointer (some ⟨gW, 0, none⟩)) = w3) := ⟨_, rfl⟩
  have gne : Hid (g ≠ gW) := by
    have h1 := (Array.getElem?_eq_some_iff.1 k1.out).1
    rw [HgW.out] at h1
    exact Nat.ne_of_lt h1
  have W3 : Hid (Wri w3 gW B none 0 0 [] false) := by
    rw [← Hw3.out]
    exact ⟨(Below.heap_setCell _ _ _ _ gne.out.symm).trans W2.out.blk, Own.nil _ _, by simp [blkOf]⟩
  have b3 : Hid (Below w.heap.size w w3) := by
    rw [← Hw3.out]
    have h := (Ch.set w2 g 0 (.pointer (some ⟨gW, 0, none⟩))).toBelow (B := w.heap.size) (Nat.le_trans b1.out.size b2.out.size) (fun q hq e => by have := Hg.out; have e2 : q = g := e; omega)
    exact (b1.out.trans (b2.out.mono b1.out.size)).trans h
  have c3 : w3.cell? ⟨g, 0, none⟩ = some (.pointer (some ⟨gW, 0, none⟩)) := by rw [← Hw3.out]; simp [World.cell?, set_blk k2]
  go_wp2_with (go_at_call 39; refine (newWriter_n _).mono ?_; rintro e w0 ⟨rfl, h0⟩; rw [h0.out, Hw2.out, HgW.out]; clear h0)
  rw [Hw3.out]
  refine bodyPost_ret (v := .agg #[.pointer (some ⟨gW, 0, none⟩)]) (by simp [results, Tryd.results34, go_sem, c3]) rfl ⟨gW, rfl, ?_, b3.out, W3.out⟩
  have := b1.out.size
  have := HgW.out
  omega
set_option maxHeartbeats 2000000 in
theorem check_ok {w : World} {k i0 i1 i2 : Int} {bu ke : ByteArray} {u0 u1 u2 b0 b1 b2 sz : Int} {et : ByteArray} {pt : Int} {ps : List Int} {pa : Option Addr} {pn pc : Nat} {tm dy : Int} (hI : Hid (Irow w 0 pa pn ps)) (HF : Hid (frm ⟨k, i0, i1, i2, bu, ke, u0, u1, u2, b0, b1, b2, sz, et, pt, ps, tm, dy⟩ = true)) :
    Calls Tryd.prog 54 #[.agg #[.int .i64 k,.int .i64 i0,.int .i64 i1,.int .i64 i2,.string bu,.string ke,.int .i64 u0,.int .i64 u1,.int .i64 u2,.int .i64 b0,.int .i64 b1,.int .i64 b2,.int .i64 sz,.string et,.int .i64 pt,.slice pa pn pc,.int .i64 tm,.int .i64 dy]] w fun e w' => e = .returned (.nilIface) ∧ Hid (Below w.heap.size w w') := by
  obtain ⟨g1, Hg1⟩ : ∃ g, Hid (w.heap.size = g) := ⟨_, rfl⟩
  obtain ⟨w1, Hw1⟩ : ∃ w1, Hid (w.alloc (.cells #[.int .i64 k,.int .i64 i0,.int .i64 i1,.int .i64 i2,.string bu,.string ke,.int .i64 u0,.int .i64 u1,.int .i64 u2,.int .i64 b0,.int .i64 b1,.int .i64 b2,.int .i64 sz,.string et,.int .i64 pt,.slice pa pn pc,.int .i64 tm,.int .i64 dy] 60) = w1) := ⟨_, rfl⟩
  have B1 : Hid (Below w.heap.size w w1) := by rw [← Hw1.out]; exact alloc1 w _
  have k1 : Hid (w1.heap[g1]? = some (.cells #[.int .i64 k,.int .i64 i0,.int .i64 i1,.int .i64 i2,.string bu,.string ke,.int .i64 u0,.int .i64 u1,.int .i64 u2,.int .i64 b0,.int .i64 b1,.int .i64 b2,.int .i64 sz,.string et,.int .i64 pt,.slice pa pn pc,.int .i64 tm,.int .i64 dy] 60 (0, 0))) := by rw [← Hw1.out, ← Hg1.out]; exact heap_alloc_new w _
  have I1 : Hid (Irow w1 0 pa pn ps) := hI.out.keep B1.out.size (fun q _ hq => B1.out.block q hq)
  have R1 : w1.rangeAt g1 0 [.int .i64 k,.int .i64 i0,.int .i64 i1,.int .i64 i2,.string bu,.string ke,.int .i64 u0,.int .i64 u1,.int .i64 u2,.int .i64 b0,.int .i64 b1,.int .i64 b2,.int .i64 sz,.string et,.int .i64 pt,.slice pa pn pc,.int .i64 tm,.int .i64 dy] := range_blk k1.out
  go_enter Tryd.func54, Tryd.ntmps54
  go_upto_region 1 with (fail)
  rw [Hw1.out, Hg1.out]
  go_wp2_with first
    | (refine wpList_load_mid (by rfl) 60 (.tmp 1) (by rfl) g1 0 (by rfl) _ _ R1 Tryd.underlying60 rfl (by kernel_rfl) ?_)
    | (go_at_call 69; refine (inForm_n I1).mono ?_; rintro e w2 ⟨rfl, h2⟩; rw [HF.out])
  go_ret
  exact ⟨rfl, B1.out.trans (h2.out.mono B1.out.size)⟩
set_option maxHeartbeats 2000000 in
theorem check_no {w : World} {M : Nat → Prop} {E : Nat → Addr} {k i0 i1 i2 : Int} {bu ke : ByteArray} {u0 u1 u2 b0 b1 b2 sz : Int} {et : ByteArray} {pt : Int} {ps : List Int} {pa : Option Addr} {pn pc : Nat} {tm dy : Int} (hI : Hid (Irow w 0 pa pn ps)) (hE : Hid (Sent w M E)) (hM : M 0) (HF : Hid (frm ⟨k, i0, i1, i2, bu, ke, u0, u1, u2, b0, b1, b2, sz, et, pt, ps, tm, dy⟩ = false)) :
    Calls Tryd.prog 54 #[.agg #[.int .i64 k,.int .i64 i0,.int .i64 i1,.int .i64 i2,.string bu,.string ke,.int .i64 u0,.int .i64 u1,.int .i64 u2,.int .i64 b0,.int .i64 b1,.int .i64 b2,.int .i64 sz,.string et,.int .i64 pt,.slice pa pn pc,.int .i64 tm,.int .i64 dy]] w fun e w' => e = .returned (er (E 0)) ∧ Hid (Below w.heap.size w w') := by
  obtain ⟨g1, Hg1⟩ : ∃ g, Hid (w.heap.size = g) := ⟨_, rfl⟩
  obtain ⟨w1, Hw1⟩ : ∃ w1, Hid (w.alloc (.cells #[.int .i64 k,.int .i64 i0,.int .i64 i1,.int .i64 i2,.string bu,.string ke,.int .i64 u0,.int .i64 u1,.int .i64 u2,.int .i64 b0,.int .i64 b1,.int .i64 b2,.int .i64 sz,.string et,.int .i64 pt,.slice pa pn pc,.int .i64 tm,.int .i64 dy] 60) = w1) := ⟨_, rfl⟩
  have B1 : Hid (Below w.heap.size w w1) := by rw [← Hw1.out]; exact alloc1 w _
  have k1 : Hid (w1.heap[g1]? = some (.cells #[.int .i64 k,.int .i64 i0,.int .i64 i1,.int .i64 i2,.string bu,.string ke,.int .i64 u0,.int .i64 u1,.int .i64 u2,.int .i64 b0,.int .i64 b1,.int .i64 b2,.int .i64 sz,.string et,.int .i64 pt,.slice pa pn pc,.int .i64 tm,.int .i64 dy] 60 (0, 0))) := by rw [← Hw1.out, ← Hg1.out]; exact heap_alloc_new w _
  have I1 : Hid (Irow w1 0 pa pn ps) := hI.out.keep B1.out.size (fun q _ hq => B1.out.block q hq)
  have R1 : w1.rangeAt g1 0 [.int .i64 k,.int .i64 i0,.int .i64 i1,.int .i64 i2,.string bu,.string ke,.int .i64 u0,.int .i64 u1,.int .i64 u2,.int .i64 b0,.int .i64 b1,.int .i64 b2,.int .i64 sz,.string et,.int .i64 pt,.slice pa pn pc,.int .i64 tm,.int .i64 dy] := range_blk k1.out
  go_enter Tryd.func54, Tryd.ntmps54
  go_upto_region 1 with (fail)
  rw [Hw1.out, Hg1.out]
  go_upto_region 2 with first
    | (refine wpList_load_mid (by rfl) 60 (.tmp 1) (by rfl) g1 0 (by rfl) _ _ R1 Tryd.underlying60 rfl (by kernel_rfl) ?_)
    | (go_at_call 69; refine (inForm_n I1).mono ?_; rintro e w2 ⟨rfl, h2⟩; rw [HF.out])
  have B2 : Hid (Below w.heap.size w w2) := B1.out.trans (h2.out.mono B1.out.size)
  have ce : w2.cell? ⟨0, 0, none⟩ = some (er (E 0)) := (hE.out.below B2.out).c 0 hM
  clear R1
  go_wp2
  go_ret
  exact ⟨rfl, B2.out⟩
set_option maxHeartbeats 2000000 in
theorem put_no {w : World} {M : Nat → Prop} {E : Nat → Addr} {k i0 i1 i2 : Int} {bu ke : ByteArray} {u0 u1 u2 b0 b1 b2 sz : Int} {et : ByteArray} {pt : Int} {ps : List Int} {pa : Option Addr} {pn pc : Nat} {tm dy : Int} (hI : Hid (Irow w 0 pa pn ps)) (hE : Hid (Sent w M E)) (hM : M 0) (hF : Hid (frm ⟨k, i0, i1, i2, bu, ke, u0, u1, u2, b0, b1, b2, sz, et, pt, ps, tm, dy⟩ = false)) :
    Calls Tryd.prog 36 #[.agg #[.int .i64 k,.int .i64 i0,.int .i64 i1,.int .i64 i2,.string bu,.string ke,.int .i64 u0,.int .i64 u1,.int .i64 u2,.int .i64 b0,.int .i64 b1,.int .i64 b2,.int .i64 sz,.string et,.int .i64 pt,.slice pa pn pc,.int .i64 tm,.int .i64 dy]] w fun e w' => e = .returned (.tuple #[.slice none 0 0, er (E 0)]) ∧ Hid (Below w.heap.size w w') := by
  obtain ⟨g1, Hg1⟩ : ∃ g, Hid (w.heap.size = g) := ⟨_, rfl⟩
  obtain ⟨w1, Hw1⟩ : ∃ w1, Hid (w.alloc (.cells #[.int .i64 k,.int .i64 i0,.int .i64 i1,.int .i64 i2,.string bu,.string ke,.int .i64 u0,.int .i64 u1,.int .i64 u2,.int .i64 b0,.int .i64 b1,.int .i64 b2,.int .i64 sz,.string et,.int .i64 pt,.slice pa pn pc,.int .i64 tm,.int .i64 dy] 60) = w1) := ⟨_, rfl⟩
  have B1 : Hid (Below w.heap.size w w1) := by rw [← Hw1.out]; exact alloc1 w _
  have k1 : Hid (w1.heap[g1]? = some (.cells #[.int .i64 k,.int .i64 i0,.int .i64 i1,.int .i64 i2,.string bu,.string ke,.int .i64 u0,.int .i64 u1,.int .i64 u2,.int .i64 b0,.int .i64 b1,.int .i64 b2,.int .i64 sz,.string et,.int .i64 pt,.slice pa pn pc,.int .i64 tm,.int .i64 dy] 60 (0, 0))) := by rw [← Hw1.out, ← Hg1.out]; exact heap_alloc_new w _
  have I1 : Hid (Irow w1 0 pa pn ps) := hI.out.keep B1.out.size (fun q _ hq => B1.out.block q hq)
  have E1 : Hid (Sent w1 M E) := hE.out.below B1.out
  have R1 : w1.rangeAt g1 0 [.int .i64 k,.int .i64 i0,.int .i64 i1,.int .i64 i2,.string bu,.string ke,.int .i64 u0,.int .i64 u1,.int .i64 u2,.int .i64 b0,.int .i64 b1,.int .i64 b2,.int .i64 sz,.string et,.int .i64 pt,.slice pa pn pc,.int .i64 tm,.int .i64 dy] := range_blk k1.out
  go_enter Tryd.func36, Tryd.ntmps36
  go_upto_region 1 with (fail)
  rw [Hw1.out, Hg1.out]
  go_wp2_with first
    | (refine wpList_load_mid (by rfl) 60 (.tmp 1) (by rfl) g1 0 (by rfl) _ _ R1 Tryd.underlying60 rfl (by kernel_rfl) ?_)
    | (go_at_call 54; refine (check_no I1 E1 hM hF).mono ?_; rintro e w2 ⟨rfl, h2⟩)
  go_ret2
  exact ⟨rfl, B1.out.trans (h2.out.mono B1.out.size)⟩
end Go.Proofs.YtppibcambhmomaaDoor
namespace Go.Proofs.YtppibcambhmomaaDoor
open Go.ChangeShapes Go.WideShapes Go.ChangeAt Go.RowKit
set_option maxRecDepth 20000
set_option linter.unusedVariables false
set_option linter.unusedSimpArgs false
set_option maxHeartbeats 4000000 in
theorem put_ok {w : World} {K I0 I1 I2 U0 U1 U2 B0 B1 B2 SZ PT TM DY : Nat} {bu ke et : ByteArray} {PS : List Nat} {pa : Option Addr} {pn pc : Nat} (hI : Hid (Irow w 0 pa pn (PS.map fun x : Nat => (x : Int)))) (qK : K < 9223372036854775808) (qI0 : I0 < 9223372036854775808) (qI1 : I1 < 9223372036854775808) (qI2 : I2 < 9223372036854775808) (qU0 : U0 < 9223372036854775808) (qU1 : U1 < 9223372036854775808) (qU2 : U2 < 9223372036854775808) (qB0 : B0 < 9223372036854775808) (qB1 : B1 < 9223372036854775808) (qB2 : B2 < 9223372036854775808) (qSZ : SZ < 9223372036854775808) (qPT : PT < 9223372036854775808) (qTM : TM < 9223372036854775808) (qDY : DY < 9223372036854775808) (s1 : bu.size ≤ 1000) (s2 : ke.size ≤ 1000) (s3 : et.size ≤ 1000) (pn9 : pn ≤ 1000) (PB : Hid (∀ x ∈ PS, x < 9223372036854775808)) (HF : Hid (frm ⟨(K : Int), I0, I1, I2, bu, ke, U0, U1, U2, B0, B1, B2, SZ, et, PT, PS.map fun x : Nat => (x : Int), TM, DY⟩ = true)) :
    Calls Tryd.prog 36 #[.agg #[.int .i64 (K : Int),.int .i64 (I0 : Int),.int .i64 (I1 : Int),.int .i64 (I2 : Int),.string bu,.string ke,.int .i64 (U0 : Int),.int .i64 (U1 : Int),.int .i64 (U2 : Int),.int .i64 (B0 : Int),.int .i64 (B1 : Int),.int .i64 (B2 : Int),.int .i64 (SZ : Int),.string et,.int .i64 (PT : Int),.slice pa pn pc,.int .i64 (TM : Int),.int .i64 (DY : Int)]] w fun e w' => ∃ a n c, e = .returned (.tuple #[.slice a n c, .nilIface]) ∧ Hid (Own w' w.heap.size a n c (cmdL K I0 I1 I2 bu ke U0 U1 U2 B0 B1 B2 SZ et PT PS TM DY) ∧ Below w.heap.size w w') := by
  obtain ⟨g1, Hg1⟩ : ∃ g, Hid (w.heap.size = g) := ⟨_, rfl⟩
  obtain ⟨w1, Hw1⟩ : ∃ w1, Hid (w.alloc (.cells #[.int .i64 (K : Int),.int .i64 (I0 : Int),.int .i64 (I1 : Int),.int .i64 (I2 : Int),.string bu,.string ke,.int .i64 (U0 : Int),.int .i64 (U1 : Int),.int .i64 (U2 : Int),.int .i64 (B0 : Int),.int .i64 (B1 : Int),.int .i64 (B2 : Int),.int .i64 (SZ : Int),.string et,.int .i64 (PT : Int),.slice pa pn pc,.int .i64 (TM : Int),.int .i64 (DY : Int)] 60) = w1) := ⟨_, rfl⟩
  have HB1 : Hid (Below w.heap.size w w1) := by rw [← Hw1.out]; exact alloc1 w _
  have k1 : Hid (w1.heap[g1]? = some (.cells #[.int .i64 (K : Int),.int .i64 (I0 : Int),.int .i64 (I1 : Int),.int .i64 (I2 : Int),.string bu,.string ke,.int .i64 (U0 : Int),.int .i64 (U1 : Int),.int .i64 (U2 : Int),.int .i64 (B0 : Int),.int .i64 (B1 : Int),.int .i64 (B2 : Int),.int .i64 (SZ : Int),.string et,.int .i64 (PT : Int),.slice pa pn pc,.int .i64 (TM : Int),.int .i64 (DY : Int)] 60 (0, 0))) := by rw [← Hw1.out, ← Hg1.out]; exact heap_alloc_new w _
  have HI1 : Hid (Irow w1 0 pa pn (PS.map fun x : Nat => (x : Int))) := hI.out.keep HB1.out.size (fun q _ hq => HB1.out.block q hq)
  have R1 : w1.rangeAt g1 0 [.int .i64 (K : Int),.int .i64 (I0 : Int),.int .i64 (I1 : Int),.int .i64 (I2 : Int),.string bu,.string ke,.int .i64 (U0 : Int),.int .i64 (U1 : Int),.int .i64 (U2 : Int),.int .i64 (B0 : Int),.int .i64 (B1 : Int),.int .i64 (B2 : Int),.int .i64 (SZ : Int),.string et,.int .i64 (PT : Int),.slice pa pn pc,.int .i64 (TM : Int),.int .i64 (DY : Int)] := range_blk k1.out
  go_enter Tryd.func36, Tryd.ntmps36
  go_upto_region 1 with (fail)
  rw [Hw1.out, Hg1.out]
  go_upto_region 4 with first
    | (refine wpList_load_mid (by rfl) 60 (.tmp 1) (by rfl) g1 0 (by rfl) _ _ R1 Tryd.underlying60 rfl (by kernel_rfl) ?_)
    | (go_at_call 54; refine (check_ok HI1 HF).mono ?_; rintro e w2 ⟨rfl, h2⟩)
  have HB2 : Hid (Below w.heap.size w w2) := HB1.out.trans (h2.out.mono HB1.out.size)
  have k2 : Hid (w2.heap[g1]? = some (.cells #[.int .i64 (K : Int),.int .i64 (I0 : Int),.int .i64 (I1 : Int),.int .i64 (I2 : Int),.string bu,.string ke,.int .i64 (U0 : Int),.int .i64 (U1 : Int),.int .i64 (U2 : Int),.int .i64 (B0 : Int),.int .i64 (B1 : Int),.int .i64 (B2 : Int),.int .i64 (SZ : Int),.string et,.int .i64 (PT : Int),.slice pa pn pc,.int .i64 (TM : Int),.int .i64 (DY : Int)] 60 (0, 0))) := (h2.out.block g1 (Array.getElem?_eq_some_iff.1 k1.out).1).trans k1.out
  clear h2 k1 HI1 HB1 HF R1
  go_upto_region 5 with (go_at_call 34; refine (newW_n _ w.heap.size).mono ?_; rintro e w3 ⟨gW, rfl, h3⟩)
  obtain ⟨g5, Hg5⟩ : ∃ g, Hid (w3.heap.size = g) := ⟨_, rfl⟩
  obtain ⟨w4, Hw4⟩ : ∃ w4, Hid (w3.alloc (.cells #[.pointer (some ⟨gW, 0, none⟩)] 70) = w4) := ⟨_, rfl⟩
  have b34 : Hid (Below w3.heap.size w3 w4) := by rw [← Hw4.out]; exact alloc1 w3 _
  have W4 : Hid (Wri w4 gW w.heap.size none 0 0 [] false) := h3.out.2.2.below b34.out
  have B4 : Hid (Below w.heap.size w w4) := (HB2.out.trans (h3.out.2.1.mono HB2.out.size)).trans (b34.out.mono (Nat.le_trans HB2.out.size h3.out.2.1.size))
  have k4 : Hid (w4.heap[g1]? = some (.cells #[.int .i64 (K : Int),.int .i64 (I0 : Int),.int .i64 (I1 : Int),.int .i64 (I2 : Int),.string bu,.string ke,.int .i64 (U0 : Int),.int .i64 (U1 : Int),.int .i64 (U2 : Int),.int .i64 (B0 : Int),.int .i64 (B1 : Int),.int .i64 (B2 : Int),.int .i64 (SZ : Int),.string et,.int .i64 (PT : Int),.slice pa pn pc,.int .i64 (TM : Int),.int .i64 (DY : Int)] 60 (0, 0))) := (b34.out.block g1 (Nat.lt_of_lt_of_le (Array.getElem?_eq_some_iff.1 k2.out).1 h3.out.2.1.size)).trans ((h3.out.2.1.block g1 (Array.getElem?_eq_some_iff.1 k2.out).1).trans k2.out)
  have k5 : Hid (w4.heap[g5]? = some (.cells #[.pointer (some ⟨gW, 0, none⟩)] 70 (0, 0))) := by rw [← Hw4.out, ← Hg5.out]; exact heap_alloc_new w3 _
  have GB : Hid (w.heap.size ≤ gW) := Nat.le_trans HB2.out.size h3.out.1
  have G5 : Hid (g5 ≠ gW) := by
    have h1 := h3.out.2.2.lt
    rw [Hg5.out] at h1
    exact (Nat.ne_of_lt h1).symm
  rw [Hw4.out, Hg5.out]
  clear h3 k2 HB2 Hw4 Hg5
  have R4 : w4.rangeAt g1 0 [.int .i64 (K : Int),.int .i64 (I0 : Int),.int .i64 (I1 : Int),.int .i64 (I2 : Int),.string bu,.string ke,.int .i64 (U0 : Int),.int .i64 (U1 : Int),.int .i64 (U2 : Int),.int .i64 (B0 : Int),.int .i64 (B1 : Int),.int .i64 (B2 : Int),.int .i64 (SZ : Int),.string et,.int .i64 (PT : Int),.slice pa pn pc,.int .i64 (TM : Int),.int .i64 (DY : Int)] := range_blk k4.out
  have d0 : w4.cell? ⟨g5, 0, none⟩ = some (.pointer (some ⟨gW, 0, none⟩)) := by simp [World.cell?, k5.out]
  have IW : Hid (∀ W', Below w.heap.size w4 W' → Irow W' 0 pa pn (PS.map fun x : Nat => (x : Int))) := fun W' hb => hI.out.keep (B4.out.trans hb).size (fun q _ hq => (B4.out.trans hb).block q hq)
  have HB4 : Hid (w.heap.size ≤ w4.heap.size) := B4.out.size
  go_upto_region 6 with first
    | (refine wpList_load_mid (by rfl) 60 (.tmp 1) (by rfl) g1 0 (by rfl) _ _ R4 Tryd.underlying60 rfl (by kernel_rfl) ?_)
    | (go_at_call 56; refine (wcmd_n W4 IW PB qK qI0 qI1 qI2 qU0 qU1 qU2 qB0 qB1 qB2 qSZ qPT qTM qDY s1 s2 s3 pn9 HB4 GB (by omega)).mono ?_; rintro e w5 ⟨a5, n5, c5', rfl, h5⟩)
  clear R4 d0
  have k55 : w5.heap[g5]? = some (.cells #[.pointer (some ⟨gW, 0, none⟩)] 70 (0, 0)) := (h5.out.2.1.block g5 (Array.getElem?_eq_some_iff.1 k5.out).1 G5.out (by simp [blkOf])).trans k5.out
  have d0 : w5.cell? ⟨g5, 0, none⟩ = some (.pointer (some ⟨gW, 0, none⟩)) := by simp [World.cell?, k55]
  have W5 : Hid (Wri w5 gW w.heap.size a5 n5 c5' ([] ++ cmdL K I0 I1 I2 bu ke U0 U1 U2 B0 B1 B2 SZ et PT PS TM DY) false) := h5.out.1
  have B5 : Hid (Below w.heap.size w w5) := Wfr.below B4.out h5.out.2.1 GB.out (fun q hq => by cases hq) HB4.out
  have N5 : Hid (n5 ≤ 140737488352256) := by have := h5.out.2.2.2; show _ ≤ _; omega
  clear k55 h5 k4 k5 W4
  go_wp2_with (go_at_call 38; refine (done_n W5 N5).mono ?_; rintro e w6 ⟨a6, c6', rfl, h6⟩)
  go_ret2
  have h := h6.out
  rw [List.nil_append] at h
  exact ⟨a6, n5, c6', rfl, h.1.le B5.out.size, B5.out.trans (h.2.mono B5.out.size)⟩
end Go.Proofs.YtppibcambhmomaaDoor
namespace Go.Proofs.YtppibcambhmomaaDoor
open Go.ChangeShapes Go.WideShapes Go.ChangeAt Go.RowKit
set_option maxRecDepth 20000
set_option linter.unusedVariables false
set_option linter.unusedSimpArgs false
theorem bl_nil : bl ⟨#[]⟩ = [] := rfl
theorem cmd18 : cmdL 11 1 2 3 ⟨#[]⟩ ⟨#[]⟩ 0 0 0 0 0 0 0 ⟨#[]⟩ 0 [] 0 0 = [11, 1, 2, 3, 0, 0, 0, 0, 0, 0, 0, 0, 0, 0, 0, 0, 0, 0] := by
  have e : ByteArray.size ⟨#[]⟩ = 0 := rfl
  unfold cmdL
  rw [e, bl_nil, enc_lt (n := 11) (by omega), enc_lt (n := 1) (by omega), enc_lt (n := 2) (by omega), enc_lt (n := 3) (by omega), enc_lt (n := 0) (by omega)]
  simp [encs, enc_lt]
theorem frm18 : frm ⟨((11 : Nat) : Int), ((1 : Nat) : Int), ((2 : Nat) : Int), ((3 : Nat) : Int), ⟨#[]⟩, ⟨#[]⟩, ((0 : Nat) : Int), ((0 : Nat) : Int), ((0 : Nat) : Int), ((0 : Nat) : Int), ((0 : Nat) : Int), ((0 : Nat) : Int), ((0 : Nat) : Int), ⟨#[]⟩, ((0 : Nat) : Int), ([] : List Nat).map fun x : Nat => (x : Int), ((0 : Nat) : Int), ((0 : Nat) : Int)⟩ = true := by decide +kernel
theorem sp4 : spell [11, 1, 2, 3] = ⟨#[11, 1, 2, 3]⟩ := by decide
theorem ab1 : gdN ⟨#[97, 46, 122]⟩ = true := by decide +kernel
theorem ab2 : gdN ⟨#[45, 97, 122]⟩ = false := by decide +kernel
end Go.Proofs.YtppibcambhmomaaDoor
