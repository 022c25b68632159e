/- Put of a command in form. -/
import Derived.Test.YtoegfckafnlknaaDoorCj
import Derived.Test.YtoegfckafnlknaaDoorAg
namespace Go.Proofs.YtoegfckafnlknaaDoor
open Go.ChangeShapes Go.WideShapes Go.ChangeAt Go.RowKit
set_option maxRecDepth 20000
set_option linter.unusedVariables false
set_option linter.unusedSimpArgs false
set_option maxHeartbeats 4000000 in
theorem put_ok {w : World} {K I0 I1 I2 U0 U1 U2 B0 B1 B2 SZ PT TM DY : Nat} {bu ke et : ByteArray} {PS : List Nat} {pa : Option Addr} {pn pc : Nat} (hI : Hid (Irow w 0 pa pn (PS.map fun x : Nat => (x : Int)))) (qK : K < 9223372036854775808) (qI0 : I0 < 9223372036854775808) (qI1 : I1 < 9223372036854775808) (qI2 : I2 < 9223372036854775808) (qU0 : U0 < 9223372036854775808) (qU1 : U1 < 9223372036854775808) (qU2 : U2 < 9223372036854775808) (qB0 : B0 < 9223372036854775808) (qB1 : B1 < 9223372036854775808) (qB2 : B2 < 9223372036854775808) (qSZ : SZ < 9223372036854775808) (qPT : PT < 9223372036854775808) (qTM : TM < 9223372036854775808) (qDY : DY < 9223372036854775808) (s1 : bu.size ≤ 1000) (s2 : ke.size ≤ 1000) (s3 : et.size ≤ 1000) (pn9 : pn ≤ 1000) (PB : Hid (∀ x ∈ PS, x < 9223372036854775808)) (HF : Hid (frm ⟨(K : Int), I0, I1, I2, bu, ke, U0, U1, U2, B0, B1, B2, SZ, et, PT, PS.map fun x : Nat => (x : Int), TM, DY⟩ = true)) :
    Calls Tryd.prog 12 #[.agg #[.int .i64 (K : Int), .int .i64 (I0 : Int), .int .i64 (I1 : Int), .int .i64 (I2 : Int), .string bu, .string ke, .int .i64 (U0 : Int), .int .i64 (U1 : Int), .int .i64 (U2 : Int), .int .i64 (B0 : Int), .int .i64 (B1 : Int), .int .i64 (B2 : Int), .int .i64 (SZ : Int), .string et, .int .i64 (PT : Int), .slice pa pn pc, .int .i64 (TM : Int), .int .i64 (DY : Int)]] w fun e w' => ∃ a n c, e = .returned (.tuple #[.slice a n c, .nilIface]) ∧ Hid (Own w' w.heap.size a n c (cmdL K I0 I1 I2 bu ke U0 U1 U2 B0 B1 B2 SZ et PT PS TM DY) ∧ Below w.heap.size w w') := by
  obtain ⟨g1, Hg1⟩ : ∃ g, Hid (w.heap.size = g) := ⟨_, rfl⟩
  obtain ⟨w1, Hw1⟩ : ∃ w1, Hid (w.alloc (.cells #[.int .i64 (K : Int), .int .i64 (I0 : Int), .int .i64 (I1 : Int), .int .i64 (I2 : Int), .string bu, .string ke, .int .i64 (U0 : Int), .int .i64 (U1 : Int), .int .i64 (U2 : Int), .int .i64 (B0 : Int), .int .i64 (B1 : Int), .int .i64 (B2 : Int), .int .i64 (SZ : Int), .string et, .int .i64 (PT : Int), .slice pa pn pc, .int .i64 (TM : Int), .int .i64 (DY : Int)] 28) = w1) := ⟨_, rfl⟩
  have HB1 : Hid (Below w.heap.size w w1) := by rw [← Hw1.out]; exact alloc1 w _
  have k1 : Hid (w1.heap[g1]? = some (.cells #[.int .i64 (K : Int), .int .i64 (I0 : Int), .int .i64 (I1 : Int), .int .i64 (I2 : Int), .string bu, .string ke, .int .i64 (U0 : Int), .int .i64 (U1 : Int), .int .i64 (U2 : Int), .int .i64 (B0 : Int), .int .i64 (B1 : Int), .int .i64 (B2 : Int), .int .i64 (SZ : Int), .string et, .int .i64 (PT : Int), .slice pa pn pc, .int .i64 (TM : Int), .int .i64 (DY : Int)] 28 (0, 0))) := by rw [← Hw1.out, ← Hg1.out]; exact heap_alloc_new w _
  have HI1 : Hid (Irow w1 0 pa pn (PS.map fun x : Nat => (x : Int))) := hI.out.keep HB1.out.size (fun q _ hq => HB1.out.block q hq)
  have R1 : w1.rangeAt g1 0 [.int .i64 (K : Int), .int .i64 (I0 : Int), .int .i64 (I1 : Int), .int .i64 (I2 : Int), .string bu, .string ke, .int .i64 (U0 : Int), .int .i64 (U1 : Int), .int .i64 (U2 : Int), .int .i64 (B0 : Int), .int .i64 (B1 : Int), .int .i64 (B2 : Int), .int .i64 (SZ : Int), .string et, .int .i64 (PT : Int), .slice pa pn pc, .int .i64 (TM : Int), .int .i64 (DY : Int)] := range_blk k1.out
  go_enter Tryd.func12, Tryd.ntmps12
  go_upto_region 1 with (fail)
  rw [Hw1.out, Hg1.out]
  go_upto_region 4 with first
    | (refine wpList_load_mid (by rfl) 28 (.tmp 1) (by rfl) g1 0 (by rfl) _ _ R1 Tryd.underlying28 rfl (by kernel_rfl) ?_)
    | (go_at_call 11; refine (check_ok HI1 HF).mono ?_; rintro e w2 ⟨rfl, h2⟩)
  have HB2 : Hid (Below w.heap.size w w2) := HB1.out.trans (h2.out.mono HB1.out.size)
  have k2 : Hid (w2.heap[g1]? = some (.cells #[.int .i64 (K : Int), .int .i64 (I0 : Int), .int .i64 (I1 : Int), .int .i64 (I2 : Int), .string bu, .string ke, .int .i64 (U0 : Int), .int .i64 (U1 : Int), .int .i64 (U2 : Int), .int .i64 (B0 : Int), .int .i64 (B1 : Int), .int .i64 (B2 : Int), .int .i64 (SZ : Int), .string et, .int .i64 (PT : Int), .slice pa pn pc, .int .i64 (TM : Int), .int .i64 (DY : Int)] 28 (0, 0))) := (h2.out.block g1 (Array.getElem?_eq_some_iff.1 k1.out).1).trans k1.out
  clear h2 k1 HI1 HB1 HF R1
  go_upto_region 5 with (go_at_call 33; refine (newW_n _ w.heap.size).mono ?_; rintro e w3 ⟨gW, rfl, h3⟩)
  obtain ⟨g5, Hg5⟩ : ∃ g, Hid (w3.heap.size = g) := ⟨_, rfl⟩
  obtain ⟨w4, Hw4⟩ : ∃ w4, Hid (w3.alloc (.cells #[.pointer (some ⟨gW, 0, none⟩)] 63) = w4) := ⟨_, rfl⟩
  have b34 : Hid (Below w3.heap.size w3 w4) := by rw [← Hw4.out]; exact alloc1 w3 _
  have W4 : Hid (Wri w4 gW w.heap.size none 0 0 [] false) := h3.out.2.2.below b34.out
  have B4 : Hid (Below w.heap.size w w4) := (HB2.out.trans (h3.out.2.1.mono HB2.out.size)).trans (b34.out.mono (Nat.le_trans HB2.out.size h3.out.2.1.size))
  have k4 : Hid (w4.heap[g1]? = some (.cells #[.int .i64 (K : Int), .int .i64 (I0 : Int), .int .i64 (I1 : Int), .int .i64 (I2 : Int), .string bu, .string ke, .int .i64 (U0 : Int), .int .i64 (U1 : Int), .int .i64 (U2 : Int), .int .i64 (B0 : Int), .int .i64 (B1 : Int), .int .i64 (B2 : Int), .int .i64 (SZ : Int), .string et, .int .i64 (PT : Int), .slice pa pn pc, .int .i64 (TM : Int), .int .i64 (DY : Int)] 28 (0, 0))) := (b34.out.block g1 (Nat.lt_of_lt_of_le (Array.getElem?_eq_some_iff.1 k2.out).1 h3.out.2.1.size)).trans ((h3.out.2.1.block g1 (Array.getElem?_eq_some_iff.1 k2.out).1).trans k2.out)
  have k5 : Hid (w4.heap[g5]? = some (.cells #[.pointer (some ⟨gW, 0, none⟩)] 63 (0, 0))) := by rw [← Hw4.out, ← Hg5.out]; exact heap_alloc_new w3 _
  have GB : Hid (w.heap.size ≤ gW) := Nat.le_trans HB2.out.size h3.out.1
  have G5 : Hid (g5 ≠ gW) := by
    have h1 := h3.out.2.2.lt
    rw [Hg5.out] at h1
    exact (Nat.ne_of_lt h1).symm
  rw [Hw4.out, Hg5.out]
  clear h3 k2 HB2 Hw4 Hg5
  have R4 : w4.rangeAt g1 0 [.int .i64 (K : Int), .int .i64 (I0 : Int), .int .i64 (I1 : Int), .int .i64 (I2 : Int), .string bu, .string ke, .int .i64 (U0 : Int), .int .i64 (U1 : Int), .int .i64 (U2 : Int), .int .i64 (B0 : Int), .int .i64 (B1 : Int), .int .i64 (B2 : Int), .int .i64 (SZ : Int), .string et, .int .i64 (PT : Int), .slice pa pn pc, .int .i64 (TM : Int), .int .i64 (DY : Int)] := range_blk k4.out
  have d0 : w4.cell? ⟨g5, 0, none⟩ = some (.pointer (some ⟨gW, 0, none⟩)) := by simp [World.cell?, k5.out]
  have IW : Hid (∀ W', Below w.heap.size w4 W' → Irow W' 0 pa pn (PS.map fun x : Nat => (x : Int))) := fun W' hb => hI.out.keep (B4.out.trans hb).size (fun q _ hq => (B4.out.trans hb).block q hq)
  have HB4 : Hid (w.heap.size ≤ w4.heap.size) := B4.out.size
  go_upto_region 6 with first
    | (refine wpList_load_mid (by rfl) 28 (.tmp 1) (by rfl) g1 0 (by rfl) _ _ R4 Tryd.underlying28 rfl (by kernel_rfl) ?_)
    | (go_at_call 34; refine (wcmd_n W4 IW PB qK qI0 qI1 qI2 qU0 qU1 qU2 qB0 qB1 qB2 qSZ qPT qTM qDY s1 s2 s3 pn9 HB4 GB (by omega)).mono ?_; rintro e w5 ⟨a5, n5, c5', rfl, h5⟩)
  clear R4 d0
  have k55 : w5.heap[g5]? = some (.cells #[.pointer (some ⟨gW, 0, none⟩)] 63 (0, 0)) := (h5.out.2.1.block g5 (Array.getElem?_eq_some_iff.1 k5.out).1 G5.out (by simp [blkOf])).trans k5.out
  have d0 : w5.cell? ⟨g5, 0, none⟩ = some (.pointer (some ⟨gW, 0, none⟩)) := by simp [World.cell?, k55]
  have W5 : Hid (Wri w5 gW w.heap.size a5 n5 c5' ([] ++ cmdL K I0 I1 I2 bu ke U0 U1 U2 B0 B1 B2 SZ et PT PS TM DY) false) := h5.out.1
  have B5 : Hid (Below w.heap.size w w5) := Wfr.below B4.out h5.out.2.1 GB.out (fun q hq => by cases hq) HB4.out
  have N5 : Hid (n5 ≤ 140737488352256) := by have := h5.out.2.2.2; show _ ≤ _; omega
  clear k55 h5 k4 k5 W4
  go_wp2_with (go_at_call 35; refine (done_n W5 N5).mono ?_; rintro e w6 ⟨a6, c6', rfl, h6⟩)
  go_ret2
  have h := h6.out
  rw [List.nil_append] at h
  exact ⟨a6, n5, c6', rfl, h.1.le B5.out.size, B5.out.trans (h.2.mono B5.out.size)⟩
end Go.Proofs.YtoegfckafnlknaaDoor
