import Derived.Test.YtppibcambhmomaaDoorPp
import Derived.Test.YtppibcambhmomaaDoorP20
namespace Go.Proofs.YtppibcambhmomaaDoor
open Go.ChangeShapes Go.WideShapes Go.ChangeAt Go.RowKit
set_option maxRecDepth 20000
set_option linter.unusedVariables false
set_option linter.unusedSimpArgs false
set_option maxHeartbeats 4000000 in
theorem inF_8 {w : World} {i0 i1 i2 : Int} {bu ke : ByteArray} {u0 u1 u2 b0 b1 b2 sz : Int} {et : ByteArray} {pt : Int} {ps : List Int} {pa : Option Addr} {pn pc : Nat} {tm dy : Int} (hI : Hid (Irow w 0 pa pn ps)) (HG : Hid (gdI i0 i1 i2 = true)) (hbu : bu.size <= 281474976710656) (hke : ke.size <= 281474976710656) (het : et.size <= 281474976710656) :
  Calls Tryd.prog 45 #[.agg #[.int .i64 8,.int .i64 i0,.int .i64 i1,.int .i64 i2,.string bu,.string ke,.int .i64 u0,.int .i64 u1,.int .i64 u2,.int .i64 b0,.int .i64 b1,.int .i64 b2,.int .i64 sz,.string et,.int .i64 pt,.slice pa pn pc,.int .i64 tm,.int .i64 dy]] w fun e w' => e = .returned (.bool (frm ⟨8, i0, i1, i2, bu, ke, u0, u1, u2, b0, b1, b2, sz, et, pt, ps, tm, dy⟩)) /\ Hid (Below w.heap.size w w') := by
 obtain ⟨g1, Hg1⟩ := nm (w.heap.size)
 obtain ⟨w1, Hw1⟩ := nm (w.alloc (.cells #[.int .i64 8,.int .i64 i0,.int .i64 i1,.int .i64 i2,.string bu,.string ke,.int .i64 u0,.int .i64 u1,.int .i64 u2,.int .i64 b0,.int .i64 b1,.int .i64 b2,.int .i64 sz,.string et,.int .i64 pt,.slice pa pn pc,.int .i64 tm,.int .i64 dy] 60))
 have B1 := al1 Hw1
 have k1 : Hid (w1.heap[g1]? = some (.cells #[.int .i64 8,.int .i64 i0,.int .i64 i1,.int .i64 i2,.string bu,.string ke,.int .i64 u0,.int .i64 u1,.int .i64 u2,.int .i64 b0,.int .i64 b1,.int .i64 b2,.int .i64 sz,.string et,.int .i64 pt,.slice pa pn pc,.int .i64 tm,.int .i64 dy] 60 (0, 0))) := by rw [<- Hw1.out, <- Hg1.out]; exact heap_alloc_new w _
 have x1 : w1.cell? ⟨g1, 1, none⟩ = some (.int .i64 i0) := by simp [World.cell?, k1.out]
 have x2 : w1.cell? ⟨g1, 2, none⟩ = some (.int .i64 i1) := by simp [World.cell?, k1.out]
 have x3 : w1.cell? ⟨g1, 3, none⟩ = some (.int .i64 i2) := by simp [World.cell?, k1.out]
 go_enter Tryd.func45, Tryd.ntmps45
 go_upto_region 1 with (fail)
 rw [Hw1.out, Hg1.out]
 go_upto_region 3 with (go_at_call 20; refine (refGoodId_n _ _ _ _).mono ?_; rintro e w2 ⟨rfl, h2⟩; rw [HG.out])
 clear x1 x2 x3
 have hb2 := al2 h2
 have k2 := sh hb2 k1
 have x0 : w2.cell? ⟨g1, 0, none⟩ = some (.int .i64 8) := by simp [World.cell?, k2.out]
 have x1 : w2.cell? ⟨g1, 1, none⟩ = some (.int .i64 i0) := by simp [World.cell?, k2.out]
 have x2 : w2.cell? ⟨g1, 2, none⟩ = some (.int .i64 i1) := by simp [World.cell?, k2.out]
 have x3 : w2.cell? ⟨g1, 3, none⟩ = some (.int .i64 i2) := by simp [World.cell?, k2.out]
 obtain ⟨g3, Hg3⟩ := nm (w2.heap.size)
 obtain ⟨w3, Hw3⟩ := nm (w2.alloc (.cells #[.int .i64 8,.int .i64 i0,.int .i64 i1,.int .i64 i2,.string ⟨#[]⟩,.string ⟨#[]⟩,.int .i64 0,.int .i64 0,.int .i64 0,.int .i64 0,.int .i64 0,.int .i64 0,.int .i64 0,.string ⟨#[]⟩,.int .i64 0,.slice none 0 0,.int .i64 0,.int .i64 0] 60))
 have hb3 := al1 Hw3
 have HC : Hid (Tw w w3 g1 g3 #[.int .i64 8,.int .i64 i0,.int .i64 i1,.int .i64 i2,.string bu,.string ke,.int .i64 u0,.int .i64 u1,.int .i64 u2,.int .i64 b0,.int .i64 b1,.int .i64 b2,.int .i64 sz,.string et,.int .i64 pt,.slice pa pn pc,.int .i64 tm,.int .i64 dy] #[.int .i64 8,.int .i64 i0,.int .i64 i1,.int .i64 i2,.string ⟨#[]⟩,.string ⟨#[]⟩,.int .i64 0,.int .i64 0,.int .i64 0,.int .i64 0,.int .i64 0,.int .i64 0,.int .i64 0,.string ⟨#[]⟩,.int .i64 0,.slice none 0 0,.int .i64 0,.int .i64 0]) := by
  refine ⟨(hb3.out.block g1 (gl k2.out)).trans k2.out, ?_, (B1.out.trans (hb2.out.mono B1.out.size)).trans (hb3.out.mono (Nat.le_trans B1.out.size hb2.out.size))⟩
  rw [<- Hw3.out, <- Hg3.out]
  exact heap_alloc_new w2 _
 have gne : Hid (g1 ≠ g3) := by
  have h := (gl k2.out)
  rw [Hg3.out] at h
  exact Nat.ne_of_lt h
 have GB0 : Hid (w.heap.size <= g3) := by
  have h := Nat.le_trans B1.out.size hb2.out.size
  rw [Hg3.out] at h
  exact h
 go_upto_region 5 with (fail)
 rw [Hw3.out, Hg3.out]
 clear x0 x1 x2 x3 h2 hb2 hb3 k1 k2 B1 Hw1 Hg1 Hw3 Hg3
 have gB : Hid (w.heap.size <= g3) := GB0.out
 obtain ⟨bn, Hbn⟩ := nm (gdN bu)
 obtain ⟨bk, Hbk⟩ := nm (gdK ke)
 have x0 : w3.cell? ⟨g1, 0, none⟩ = some (.int .i64 8) := HC.out.c 0 _ rfl
 go_upto_region 7 with (fail)
 clear x0
 have x4 : w3.cell? ⟨g1, 4, none⟩ = some (.string bu) := HC.out.c 4 _ rfl
 have y4 : w3.cell? ⟨g3, 4, none⟩ = some (.string ⟨#[]⟩) := HC.out.z 4 _ rfl
 have f4 := HC.out.fz 4
 obtain ⟨w4, Hw4⟩ := nm ((w3.setCell ⟨g3, 4, none⟩ (.string bu)))
 have HD : Hid (Tw w w4 g1 g3 #[.int .i64 8,.int .i64 i0,.int .i64 i1,.int .i64 i2,.string bu,.string ke,.int .i64 u0,.int .i64 u1,.int .i64 u2,.int .i64 b0,.int .i64 b1,.int .i64 b2,.int .i64 sz,.string et,.int .i64 pt,.slice pa pn pc,.int .i64 tm,.int .i64 dy] #[.int .i64 8,.int .i64 i0,.int .i64 i1,.int .i64 i2,.string bu,.string ⟨#[]⟩,.int .i64 0,.int .i64 0,.int .i64 0,.int .i64 0,.int .i64 0,.int .i64 0,.int .i64 0,.string ⟨#[]⟩,.int .i64 0,.slice none 0 0,.int .i64 0,.int .i64 0]) := by rw [<- Hw4.out]; exact (tw_set HC.out gne.out gB.out 4 (.string bu))
 go_upto_region 8 with (fail)
 rw [Hw4.out]
 clear HC x4 y4 f4
 have HC := HD
 clear HD Hw4
 have x4 : w4.cell? ⟨g1, 4, none⟩ = some (.string bu) := HC.out.c 4 _ rfl
 go_upto_region 9 with (go_at_call 58; refine (refBucket_n bu hbu _).mono ?_; rintro e w0 ⟨rfl, h0⟩; rw [h0, Hbn.out]; clear h0)
 clear x4
 have x0 : w4.cell? ⟨g1, 0, none⟩ = some (.int .i64 8) := HC.out.c 0 _ rfl
 go_upto_region 11 with (fail)
 clear x0
 have x5 : w4.cell? ⟨g1, 5, none⟩ = some (.string ke) := HC.out.c 5 _ rfl
 have y5 : w4.cell? ⟨g3, 5, none⟩ = some (.string ⟨#[]⟩) := HC.out.z 5 _ rfl
 have f5 := HC.out.fz 5
 obtain ⟨w5, Hw5⟩ := nm ((w4.setCell ⟨g3, 5, none⟩ (.string ke)))
 have HD : Hid (Tw w w5 g1 g3 #[.int .i64 8,.int .i64 i0,.int .i64 i1,.int .i64 i2,.string bu,.string ke,.int .i64 u0,.int .i64 u1,.int .i64 u2,.int .i64 b0,.int .i64 b1,.int .i64 b2,.int .i64 sz,.string et,.int .i64 pt,.slice pa pn pc,.int .i64 tm,.int .i64 dy] #[.int .i64 8,.int .i64 i0,.int .i64 i1,.int .i64 i2,.string bu,.string ke,.int .i64 0,.int .i64 0,.int .i64 0,.int .i64 0,.int .i64 0,.int .i64 0,.int .i64 0,.string ⟨#[]⟩,.int .i64 0,.slice none 0 0,.int .i64 0,.int .i64 0]) := by rw [<- Hw5.out]; exact (tw_set HC.out gne.out gB.out 5 (.string ke))
 go_upto_region 12 with (fail)
 rw [Hw5.out]
 clear HC x5 y5 f5
 have HC := HD
 clear HD Hw5
 cases bn with
 | false =>
   go_upto_region 13 with (fail)
   have x0 : w5.cell? ⟨g1, 0, none⟩ = some (.int .i64 8) := HC.out.c 0 _ rfl
   go_upto_region 37 with (fail)
   clear x0
   have x6 : w5.cell? ⟨g1, 6, none⟩ = some (.int .i64 u0) := HC.out.c 6 _ rfl
   have x7 : w5.cell? ⟨g1, 7, none⟩ = some (.int .i64 u1) := HC.out.c 7 _ rfl
   have x8 : w5.cell? ⟨g1, 8, none⟩ = some (.int .i64 u2) := HC.out.c 8 _ rfl
   have y6 : w5.cell? ⟨g3, 6, none⟩ = some (.int .i64 0) := HC.out.z 6 _ rfl
   have f6 := HC.out.fz 6
   have y7 : w5.cell? ⟨g3, 7, none⟩ = some (.int .i64 0) := HC.out.z 7 _ rfl
   have f7 := HC.out.fz 7
   have y8 : w5.cell? ⟨g3, 8, none⟩ = some (.int .i64 0) := HC.out.z 8 _ rfl
   have f8 := HC.out.fz 8
   obtain ⟨w6, Hw6⟩ := nm ((((w5.setCell ⟨g3, 6, none⟩ (.int .i64 u0)).setCell ⟨g3, 7, none⟩ (.int .i64 u1)).setCell ⟨g3, 8, none⟩ (.int .i64 u2)))
   have HD : Hid (Tw w w6 g1 g3 #[.int .i64 8,.int .i64 i0,.int .i64 i1,.int .i64 i2,.string bu,.string ke,.int .i64 u0,.int .i64 u1,.int .i64 u2,.int .i64 b0,.int .i64 b1,.int .i64 b2,.int .i64 sz,.string et,.int .i64 pt,.slice pa pn pc,.int .i64 tm,.int .i64 dy] #[.int .i64 8,.int .i64 i0,.int .i64 i1,.int .i64 i2,.string bu,.string ke,.int .i64 u0,.int .i64 u1,.int .i64 u2,.int .i64 0,.int .i64 0,.int .i64 0,.int .i64 0,.string ⟨#[]⟩,.int .i64 0,.slice none 0 0,.int .i64 0,.int .i64 0]) := by rw [<- Hw6.out]; exact (tw_set (tw_set (tw_set HC.out gne.out gB.out 6 (.int .i64 u0)) gne.out gB.out 7 (.int .i64 u1)) gne.out gB.out 8 (.int .i64 u2))
   go_upto_region 40 with (fail)
   rw [Hw6.out]
   clear HC x6 y6 f6 x7 y7 f7 x8 y8 f8
   have HC := HD
   clear HD Hw6
   refine chain40 (fun _ _ _ d _ h => by cases d <;> exact h) HC ?_
   intro a' W' q1 q2 q3
   refine (by assumption : ∀ (a : Act) (w : World), Code.wp Tryd.prog Code.ret _ a w -> _) a' W' ?_
   go_wp2
   refine bodyPost_ret (results_tmp Tryd.results45 _ _ _) q2 ?_
   rw [q1]
   refine ⟨congrArg (fun b => Ending.returned (Value.bool b)) ?_, q3⟩
   rw [<- fr8 HG.out hI.out.len]
   simp only [Hbn.out, Hbk.out, Bool.true_and, Bool.false_and, Bool.and_true, Bool.and_false]
 | true =>
   have x5 : w5.cell? ⟨g1, 5, none⟩ = some (.string ke) := HC.out.c 5 _ rfl
   go_upto_region 13 with (go_at_call 59; refine (refKey_n ke hke _).mono ?_; rintro e w0 ⟨rfl, h0⟩; rw [h0, Hbk.out]; clear h0)
   clear x5
   have x0 : w5.cell? ⟨g1, 0, none⟩ = some (.int .i64 8) := HC.out.c 0 _ rfl
   go_upto_region 37 with (fail)
   clear x0
   have x6 : w5.cell? ⟨g1, 6, none⟩ = some (.int .i64 u0) := HC.out.c 6 _ rfl
   have x7 : w5.cell? ⟨g1, 7, none⟩ = some (.int .i64 u1) := HC.out.c 7 _ rfl
   have x8 : w5.cell? ⟨g1, 8, none⟩ = some (.int .i64 u2) := HC.out.c 8 _ rfl
   have y6 : w5.cell? ⟨g3, 6, none⟩ = some (.int .i64 0) := HC.out.z 6 _ rfl
   have f6 := HC.out.fz 6
   have y7 : w5.cell? ⟨g3, 7, none⟩ = some (.int .i64 0) := HC.out.z 7 _ rfl
   have f7 := HC.out.fz 7
   have y8 : w5.cell? ⟨g3, 8, none⟩ = some (.int .i64 0) := HC.out.z 8 _ rfl
   have f8 := HC.out.fz 8
   obtain ⟨w6, Hw6⟩ := nm ((((w5.setCell ⟨g3, 6, none⟩ (.int .i64 u0)).setCell ⟨g3, 7, none⟩ (.int .i64 u1)).setCell ⟨g3, 8, none⟩ (.int .i64 u2)))
   have HD : Hid (Tw w w6 g1 g3 #[.int .i64 8,.int .i64 i0,.int .i64 i1,.int .i64 i2,.string bu,.string ke,.int .i64 u0,.int .i64 u1,.int .i64 u2,.int .i64 b0,.int .i64 b1,.int .i64 b2,.int .i64 sz,.string et,.int .i64 pt,.slice pa pn pc,.int .i64 tm,.int .i64 dy] #[.int .i64 8,.int .i64 i0,.int .i64 i1,.int .i64 i2,.string bu,.string ke,.int .i64 u0,.int .i64 u1,.int .i64 u2,.int .i64 0,.int .i64 0,.int .i64 0,.int .i64 0,.string ⟨#[]⟩,.int .i64 0,.slice none 0 0,.int .i64 0,.int .i64 0]) := by rw [<- Hw6.out]; exact (tw_set (tw_set (tw_set HC.out gne.out gB.out 6 (.int .i64 u0)) gne.out gB.out 7 (.int .i64 u1)) gne.out gB.out 8 (.int .i64 u2))
   go_upto_region 40 with (fail)
   rw [Hw6.out]
   clear HC x6 y6 f6 x7 y7 f7 x8 y8 f8
   have HC := HD
   clear HD Hw6
   refine chain40 (fun _ _ _ d _ h => by cases d <;> exact h) HC ?_
   intro a' W' q1 q2 q3
   refine (by assumption : ∀ (a : Act) (w : World), Code.wp Tryd.prog Code.ret _ a w -> _) a' W' ?_
   go_wp2
   refine bodyPost_ret (results_tmp Tryd.results45 _ _ _) q2 ?_
   rw [q1]
   refine ⟨congrArg (fun b => Ending.returned (Value.bool b)) ?_, q3⟩
   rw [<- fr8 HG.out hI.out.len]
   simp only [Hbn.out, Hbk.out, Bool.true_and, Bool.false_and, Bool.and_true, Bool.and_false]
end Go.Proofs.YtppibcambhmomaaDoor
