import Derived.Test.YtppibcambhmomaaDoorPp
import Derived.Test.YtppibcambhmomaaDoorP20
namespace Go.Proofs.YtppibcambhmomaaDoor
open Go.ChangeShapes Go.WideShapes Go.ChangeAt Go.RowKit
set_option maxRecDepth 20000
set_option linter.unusedVariables false
set_option linter.unusedSimpArgs false
set_option maxHeartbeats 4000000 in
theorem inF_3 {w : World} {i0 i1 i2 : Int} {bu ke : ByteArray} {u0 u1 u2 b0 b1 b2 sz : Int} {et : ByteArray} {pt : Int} {ps : List Int} {pa : Option Addr} {pn pc : Nat} {tm dy : Int} (hI : Hid (Irow w 0 pa pn ps)) (HG : Hid (gdI i0 i1 i2 = true)) (hbu : bu.size <= 281474976710656) (hke : ke.size <= 281474976710656) (het : et.size <= 281474976710656) :
  Calls Tryd.prog 45 #[.agg #[.int .i64 3,.int .i64 i0,.int .i64 i1,.int .i64 i2,.string bu,.string ke,.int .i64 u0,.int .i64 u1,.int .i64 u2,.int .i64 b0,.int .i64 b1,.int .i64 b2,.int .i64 sz,.string et,.int .i64 pt,.slice pa pn pc,.int .i64 tm,.int .i64 dy]] w fun e w' => e = .returned (.bool (frm ⟨3, i0, i1, i2, bu, ke, u0, u1, u2, b0, b1, b2, sz, et, pt, ps, tm, dy⟩)) /\ Hid (Below w.heap.size w w') := by
 obtain ⟨g1, Hg1⟩ := nm (w.heap.size)
 obtain ⟨w1, Hw1⟩ := nm (w.alloc (.cells #[.int .i64 3,.int .i64 i0,.int .i64 i1,.int .i64 i2,.string bu,.string ke,.int .i64 u0,.int .i64 u1,.int .i64 u2,.int .i64 b0,.int .i64 b1,.int .i64 b2,.int .i64 sz,.string et,.int .i64 pt,.slice pa pn pc,.int .i64 tm,.int .i64 dy] 60))
 have B1 := al1 Hw1
 have k1 : Hid (w1.heap[g1]? = some (.cells #[.int .i64 3,.int .i64 i0,.int .i64 i1,.int .i64 i2,.string bu,.string ke,.int .i64 u0,.int .i64 u1,.int .i64 u2,.int .i64 b0,.int .i64 b1,.int .i64 b2,.int .i64 sz,.string et,.int .i64 pt,.slice pa pn pc,.int .i64 tm,.int .i64 dy] 60 (0, 0))) := by rw [<- Hw1.out, <- Hg1.out]; exact heap_alloc_new w _
 have x1 : w1.cell? ⟨g1, 1, none⟩ = some (.int .i64 i0) := by simp [World.cell?, k1.out]
 have x2 : w1.cell? ⟨g1, 2, none⟩ = some (.int .i64 i1) := by simp [World.cell?, k1.out]
 have x3 : w1.cell? ⟨g1, 3, none⟩ = some (.int .i64 i2) := by simp [World.cell?, k1.out]
 go_enter Tryd.func45, Tryd.ntmps45
 go_upto_region 1 with (fail)
 rw [Hw1.out, Hg1.out]
 go_upto_region 3 with (go_at_call 20; refine (refGoodId_n _ _ _ _).mono ?_; rintro e w2 ⟨rfl, h2⟩; rw [HG.out])
 clear x1 x2 x3
 have hb2 := al2 h2
 have k2 := sh hb2 k1
 have x0 : w2.cell? ⟨g1, 0, none⟩ = some (.int .i64 3) := by simp [World.cell?, k2.out]
 have x1 : w2.cell? ⟨g1, 1, none⟩ = some (.int .i64 i0) := by simp [World.cell?, k2.out]
 have x2 : w2.cell? ⟨g1, 2, none⟩ = some (.int .i64 i1) := by simp [World.cell?, k2.out]
 have x3 : w2.cell? ⟨g1, 3, none⟩ = some (.int .i64 i2) := by simp [World.cell?, k2.out]
 obtain ⟨g3, Hg3⟩ := nm (w2.heap.size)
 obtain ⟨w3, Hw3⟩ := nm (w2.alloc (.cells #[.int .i64 3,.int .i64 i0,.int .i64 i1,.int .i64 i2,.string ⟨#[]⟩,.string ⟨#[]⟩,.int .i64 0,.int .i64 0,.int .i64 0,.int .i64 0,.int .i64 0,.int .i64 0,.int .i64 0,.string ⟨#[]⟩,.int .i64 0,.slice none 0 0,.int .i64 0,.int .i64 0] 60))
 have hb3 := al1 Hw3
 have HC : Hid (Tw w w3 g1 g3 #[.int .i64 3,.int .i64 i0,.int .i64 i1,.int .i64 i2,.string bu,.string ke,.int .i64 u0,.int .i64 u1,.int .i64 u2,.int .i64 b0,.int .i64 b1,.int .i64 b2,.int .i64 sz,.string et,.int .i64 pt,.slice pa pn pc,.int .i64 tm,.int .i64 dy] #[.int .i64 3,.int .i64 i0,.int .i64 i1,.int .i64 i2,.string ⟨#[]⟩,.string ⟨#[]⟩,.int .i64 0,.int .i64 0,.int .i64 0,.int .i64 0,.int .i64 0,.int .i64 0,.int .i64 0,.string ⟨#[]⟩,.int .i64 0,.slice none 0 0,.int .i64 0,.int .i64 0]) := by
  refine ⟨(hb3.out.block g1 (gl k2.out)).trans k2.out, ?_, (B1.out.trans (hb2.out.mono B1.out.size)).trans (hb3.out.mono (Nat.le_trans B1.out.size hb2.out.size))⟩
  rw [<- Hw3.out, <- Hg3.out]
  exact heap_alloc_new w2 _
 have gne : Hid (g1 ≠ g3) := by
  have h := (gl k2.out)
  rw [Hg3.out] at h
  exact Nat.ne_of_lt h
 have GB0 : Hid (w.heap.size <= g3) := by
  have h := Nat.le_trans B1.out.size hb2.out.size
  rw [Hg3.out] at h
  exact h
 go_upto_region 5 with (fail)
 rw [Hw3.out, Hg3.out]
 clear x0 x1 x2 x3 h2 hb2 hb3 k1 k2 B1 Hw1 Hg1 Hw3 Hg3
 have gB : Hid (w.heap.size <= g3) := GB0.out
 obtain ⟨bn, Hbn⟩ := nm (gdN bu)
 obtain ⟨bk, Hbk⟩ := nm (gdK ke)
 obtain ⟨bp, Hbp⟩ := nm (gdP b0 b1 b2 sz et)
 obtain ⟨ze, Hze⟩ := nm (decide (b0 = i0 /\ b1 = i1 /\ b2 = i2))
 have Eze : ∀ w, (Op.equalIn 10000 23 (idv b0 b1 b2) (idv i0 i1 i2)).run Tryd.prog w = .ok ze w := fun w => by rw [eqId, Hze.out]
 have x0 : w3.cell? ⟨g1, 0, none⟩ = some (.int .i64 3) := HC.out.c 0 _ rfl
 go_upto_region 7 with (fail)
 clear x0
 have x4 : w3.cell? ⟨g1, 4, none⟩ = some (.string bu) := HC.out.c 4 _ rfl
 have y4 : w3.cell? ⟨g3, 4, none⟩ = some (.string ⟨#[]⟩) := HC.out.z 4 _ rfl
 have f4 := HC.out.fz 4
 obtain ⟨w4, Hw4⟩ := nm ((w3.setCell ⟨g3, 4, none⟩ (.string bu)))
 have HD : Hid (Tw w w4 g1 g3 #[.int .i64 3,.int .i64 i0,.int .i64 i1,.int .i64 i2,.string bu,.string ke,.int .i64 u0,.int .i64 u1,.int .i64 u2,.int .i64 b0,.int .i64 b1,.int .i64 b2,.int .i64 sz,.string et,.int .i64 pt,.slice pa pn pc,.int .i64 tm,.int .i64 dy] #[.int .i64 3,.int .i64 i0,.int .i64 i1,.int .i64 i2,.string bu,.string ⟨#[]⟩,.int .i64 0,.int .i64 0,.int .i64 0,.int .i64 0,.int .i64 0,.int .i64 0,.int .i64 0,.string ⟨#[]⟩,.int .i64 0,.slice none 0 0,.int .i64 0,.int .i64 0]) := by rw [<- Hw4.out]; exact (tw_set HC.out gne.out gB.out 4 (.string bu))
 go_upto_region 8 with (fail)
 rw [Hw4.out]
 clear HC x4 y4 f4
 have HC := HD
 clear HD Hw4
 have x4 : w4.cell? ⟨g1, 4, none⟩ = some (.string bu) := HC.out.c 4 _ rfl
 go_upto_region 9 with (go_at_call 58; refine (refBucket_n bu hbu _).mono ?_; rintro e w0 ⟨rfl, h0⟩; rw [h0, Hbn.out]; clear h0)
 clear x4
 have x0 : w4.cell? ⟨g1, 0, none⟩ = some (.int .i64 3) := HC.out.c 0 _ rfl
 go_upto_region 11 with (fail)
 clear x0
 have x5 : w4.cell? ⟨g1, 5, none⟩ = some (.string ke) := HC.out.c 5 _ rfl
 have y5 : w4.cell? ⟨g3, 5, none⟩ = some (.string ⟨#[]⟩) := HC.out.z 5 _ rfl
 have f5 := HC.out.fz 5
 obtain ⟨w5, Hw5⟩ := nm ((w4.setCell ⟨g3, 5, none⟩ (.string ke)))
 have HD : Hid (Tw w w5 g1 g3 #[.int .i64 3,.int .i64 i0,.int .i64 i1,.int .i64 i2,.string bu,.string ke,.int .i64 u0,.int .i64 u1,.int .i64 u2,.int .i64 b0,.int .i64 b1,.int .i64 b2,.int .i64 sz,.string et,.int .i64 pt,.slice pa pn pc,.int .i64 tm,.int .i64 dy] #[.int .i64 3,.int .i64 i0,.int .i64 i1,.int .i64 i2,.string bu,.string ke,.int .i64 0,.int .i64 0,.int .i64 0,.int .i64 0,.int .i64 0,.int .i64 0,.int .i64 0,.string ⟨#[]⟩,.int .i64 0,.slice none 0 0,.int .i64 0,.int .i64 0]) := by rw [<- Hw5.out]; exact (tw_set HC.out gne.out gB.out 5 (.string ke))
 go_upto_region 12 with (fail)
 rw [Hw5.out]
 clear HC x5 y5 f5
 have HC := HD
 clear HD Hw5
 cases bn with
 | false =>
   go_upto_region 13 with (fail)
   have x0 : w5.cell? ⟨g1, 0, none⟩ = some (.int .i64 3) := HC.out.c 0 _ rfl
   go_upto_region 23 with (fail)
   clear x0
   obtain ⟨wd, Hwd⟩ := nm (w5.drew)
   have HE : Hid (Tw w wd g1 g3 #[.int .i64 3,.int .i64 i0,.int .i64 i1,.int .i64 i2,.string bu,.string ke,.int .i64 u0,.int .i64 u1,.int .i64 u2,.int .i64 b0,.int .i64 b1,.int .i64 b2,.int .i64 sz,.string et,.int .i64 pt,.slice pa pn pc,.int .i64 tm,.int .i64 dy] #[.int .i64 3,.int .i64 i0,.int .i64 i1,.int .i64 i2,.string bu,.string ke,.int .i64 0,.int .i64 0,.int .i64 0,.int .i64 0,.int .i64 0,.int .i64 0,.int .i64 0,.string ⟨#[]⟩,.int .i64 0,.slice none 0 0,.int .i64 0,.int .i64 0]) := by rw [<- Hwd.out]; exact HC.out.below (Below.refl _ _).drew
   clear HC
   have HC := HE
   clear HE
   have KC : Hid (Kc wd g1 #[.int .i64 3,.int .i64 i0,.int .i64 i1,.int .i64 i2,.string bu,.string ke,.int .i64 u0,.int .i64 u1,.int .i64 u2,.int .i64 b0,.int .i64 b1,.int .i64 b2,.int .i64 sz,.string et,.int .i64 pt,.slice pa pn pc,.int .i64 tm,.int .i64 dy]) := ⟨HC.out.h1⟩
   refine wp_region_seq (ops := ops23) (C := fun W => Kc W g1 #[.int .i64 3,.int .i64 i0,.int .i64 i1,.int .i64 i2,.string bu,.string ke,.int .i64 u0,.int .i64 u1,.int .i64 u2,.int .i64 b0,.int .i64 b1,.int .i64 b2,.int .i64 sz,.string et,.int .i64 pt,.slice pa pn pc,.int .i64 tm,.int .i64 dy]) [(0, false), (1, false), (2, false), (3, false), (4, false), (5, true), (6, false), (7, true)] (by kernel_rfl) (by kernel_rfl) (by rw [Hwd.out]; exact KC.out) ?_
   rw [Hwd.out]
   clear Hwd
   refine stk (o := ⟨some 66, .fieldAddr 60 (.tmp 1) 5, 0, "ref.go:64", #[], none⟩) (v := .pointer (some ⟨g1, 9, none⟩)) ?_
   simp only [pG,Act.put]
   refine sty (o := ⟨some 67, .load 58 (.tmp 66), 58, "ref.go:64", #[⟨0, .data⟩], none⟩) (v := .agg #[.int .i64 b0,.int .i64 b1,.int .i64 b2,.int .i64 sz,.string et]) (Or.inl ⟨by kernel_rfl, fun W hW => by have q0 := hW.c 9 _ rfl; have q1 := hW.c 10 _ rfl; have q2 := hW.c 11 _ rfl; have q3 := hW.c 12 _ rfl; have q4 := hW.c 13 _ rfl; go_simp⟩) ?_
   simp only [pG,Act.put]
   refine stk (o := ⟨some 68, .fieldAddr 60 (.tmp 1) 8, 0, "ref.go:64", #[{ on := 5, ground := .gcOnly Go.Departure.lateStores }], none⟩) (v := .pointer (some ⟨g1, 16, none⟩)) ?_
   simp only [pG,Act.put]
   refine sty (o := ⟨some 69, .load 3 (.tmp 68), 3, "ref.go:64", #[⟨2, .data⟩, { on := 5, ground := .gcOnly Go.Departure.lateStores }], none⟩) (v := .int .i64 tm) (Or.inl ⟨by kernel_rfl, fun W hW => by have q0 := hW.c 16 _ rfl; go_simp⟩) ?_
   simp only [pG,Act.put]
   refine stk (o := ⟨some 70, .fieldAddr 60 (.tmp 3) 5, 0, "ref.go:64", #[⟨0, .phase⟩, ⟨1, .phase⟩, { on := 2, ground := .textOnly Go.Departure.lateStores }, { on := 3, ground := .textOnly Go.Departure.lateStores }], none⟩) (v := .pointer (some ⟨g3, 9, none⟩)) ?_
   simp only [pG,Act.put]
   have y9 : wd.cell? ⟨g3, 9, none⟩ = some (.int .i64 0) := HC.out.z 9 _ rfl
   have f9 := HC.out.fz 9
   have y10 : wd.cell? ⟨g3, 10, none⟩ = some (.int .i64 0) := HC.out.z 10 _ rfl
   have f10 := HC.out.fz 10
   have y11 : wd.cell? ⟨g3, 11, none⟩ = some (.int .i64 0) := HC.out.z 11 _ rfl
   have f11 := HC.out.fz 11
   have y12 : wd.cell? ⟨g3, 12, none⟩ = some (.int .i64 0) := HC.out.z 12 _ rfl
   have f12 := HC.out.fz 12
   have y13 : wd.cell? ⟨g3, 13, none⟩ = some (.string ⟨#[]⟩) := HC.out.z 13 _ rfl
   have f13 := HC.out.fz 13
   obtain ⟨ws0, Hws0⟩ := nm ((((((wd.setCell ⟨g3, 9, none⟩ (.int .i64 b0)).setCell ⟨g3, 10, none⟩ (.int .i64 b1)).setCell ⟨g3, 11, none⟩ (.int .i64 b2)).setCell ⟨g3, 12, none⟩ (.int .i64 sz)).setCell ⟨g3, 13, none⟩ (.string et)))
   have HE : Hid (Tw w ws0 g1 g3 #[.int .i64 3,.int .i64 i0,.int .i64 i1,.int .i64 i2,.string bu,.string ke,.int .i64 u0,.int .i64 u1,.int .i64 u2,.int .i64 b0,.int .i64 b1,.int .i64 b2,.int .i64 sz,.string et,.int .i64 pt,.slice pa pn pc,.int .i64 tm,.int .i64 dy] #[.int .i64 3,.int .i64 i0,.int .i64 i1,.int .i64 i2,.string bu,.string ke,.int .i64 0,.int .i64 0,.int .i64 0,.int .i64 b0,.int .i64 b1,.int .i64 b2,.int .i64 sz,.string et,.int .i64 0,.slice none 0 0,.int .i64 0,.int .i64 0]) := by rw [<- Hws0.out]; exact (tw_set (tw_set (tw_set (tw_set (tw_set HC.out gne.out gB.out 9 (.int .i64 b0)) gne.out gB.out 10 (.int .i64 b1)) gne.out gB.out 11 (.int .i64 b2)) gne.out gB.out 12 (.int .i64 sz)) gne.out gB.out 13 (.string et))
   refine seq_call (o := ⟨none, .store 58 (.tmp 70) (.tmp 67), 0, "ref.go:64", #[⟨4, .data⟩, ⟨1, .data⟩, ⟨0, .phase⟩, ⟨1, .phase⟩, { on := 2, ground := .textOnly Go.Departure.lateStores }, { on := 3, ground := .textOnly Go.Departure.lateStores }], none⟩) (by kernel_rfl) (fun K hK => ?_)
   rw [if_pos (by kernel_rfl)]
   go_simp
   rw [Hws0.out]
   refine hK.out _ _ ⟨HE.out.h1⟩ ?_
   clear hK K HC KC y9 f9 y10 f10 y11 f11 y12 f12 y13 f13 Hws0
   have HC := HE
   clear HE
   have KC : Hid (Kc ws0 g1 #[.int .i64 3,.int .i64 i0,.int .i64 i1,.int .i64 i2,.string bu,.string ke,.int .i64 u0,.int .i64 u1,.int .i64 u2,.int .i64 b0,.int .i64 b1,.int .i64 b2,.int .i64 sz,.string et,.int .i64 pt,.slice pa pn pc,.int .i64 tm,.int .i64 dy]) := ⟨HC.out.h1⟩
   try simp only [pG,Act.put]
   refine stk (o := ⟨some 71, .fieldAddr 60 (.tmp 3) 8, 0, "ref.go:64", #[⟨0, .phase⟩, ⟨1, .phase⟩, ⟨2, .phase⟩, ⟨3, .phase⟩, ⟨4, .phase⟩, ⟨5, .phase⟩], none⟩) (v := .pointer (some ⟨g3, 16, none⟩)) ?_
   simp only [pG,Act.put]
   have y16 : ws0.cell? ⟨g3, 16, none⟩ = some (.int .i64 0) := HC.out.z 16 _ rfl
   have f16 := HC.out.fz 16
   obtain ⟨ws1, Hws1⟩ := nm ((ws0.setCell ⟨g3, 16, none⟩ (.int .i64 tm)))
   have HE : Hid (Tw w ws1 g1 g3 #[.int .i64 3,.int .i64 i0,.int .i64 i1,.int .i64 i2,.string bu,.string ke,.int .i64 u0,.int .i64 u1,.int .i64 u2,.int .i64 b0,.int .i64 b1,.int .i64 b2,.int .i64 sz,.string et,.int .i64 pt,.slice pa pn pc,.int .i64 tm,.int .i64 dy] #[.int .i64 3,.int .i64 i0,.int .i64 i1,.int .i64 i2,.string bu,.string ke,.int .i64 0,.int .i64 0,.int .i64 0,.int .i64 b0,.int .i64 b1,.int .i64 b2,.int .i64 sz,.string et,.int .i64 0,.slice none 0 0,.int .i64 tm,.int .i64 0]) := by rw [<- Hws1.out]; exact (tw_set HC.out gne.out gB.out 16 (.int .i64 tm))
   refine seq_call (o := ⟨none, .store 3 (.tmp 71) (.tmp 69), 0, "ref.go:64", #[⟨6, .data⟩, ⟨3, .data⟩, ⟨5, .chain⟩, ⟨0, .phase⟩, ⟨1, .phase⟩, ⟨2, .phase⟩, ⟨3, .phase⟩, ⟨4, .phase⟩, ⟨5, .phase⟩], none⟩) (by kernel_rfl) (fun K hK => ?_)
   rw [if_pos (by kernel_rfl)]
   go_simp
   rw [Hws1.out]
   refine hK.out _ _ ⟨HE.out.h1⟩ ?_
   clear hK K HC KC y16 f16 Hws1
   have HC := HE
   clear HE
   have KC : Hid (Kc ws1 g1 #[.int .i64 3,.int .i64 i0,.int .i64 i1,.int .i64 i2,.string bu,.string ke,.int .i64 u0,.int .i64 u1,.int .i64 u2,.int .i64 b0,.int .i64 b1,.int .i64 b2,.int .i64 sz,.string et,.int .i64 pt,.slice pa pn pc,.int .i64 tm,.int .i64 dy]) := ⟨HC.out.h1⟩
   try simp only [pG,Act.put]
   show (Exit.then _ _) .normal _ _
   clear KC
   go_upto_region 40 with (fail)
   refine chain40 (fun _ _ _ d _ h => by cases d <;> exact h) HC ?_
   intro a' W' q1 q2 q3
   refine (by assumption : ∀ (a : Act) (w : World), Code.wp Tryd.prog Code.ret _ a w -> _) a' W' ?_
   go_wp2
   refine bodyPost_ret (results_tmp Tryd.results45 _ _ _) q2 ?_
   rw [q1]
   refine ⟨congrArg (fun b => Ending.returned (Value.bool b)) ?_, q3⟩
   rw [<- fr3 HG.out hI.out.len]
   simp only [Hbn.out, Hbk.out, Hbp.out, Hze.out, Bool.true_and, Bool.false_and, Bool.and_true, Bool.and_false]
 | true =>
   have x5 : w5.cell? ⟨g1, 5, none⟩ = some (.string ke) := HC.out.c 5 _ rfl
   go_upto_region 13 with (go_at_call 59; refine (refKey_n ke hke _).mono ?_; rintro e w0 ⟨rfl, h0⟩; rw [h0, Hbk.out]; clear h0)
   clear x5
   cases bk with
   | false =>
     have x0 : w5.cell? ⟨g1, 0, none⟩ = some (.int .i64 3) := HC.out.c 0 _ rfl
     go_upto_region 23 with (fail)
     clear x0
     obtain ⟨wd, Hwd⟩ := nm (w5.drew)
     have HE : Hid (Tw w wd g1 g3 #[.int .i64 3,.int .i64 i0,.int .i64 i1,.int .i64 i2,.string bu,.string ke,.int .i64 u0,.int .i64 u1,.int .i64 u2,.int .i64 b0,.int .i64 b1,.int .i64 b2,.int .i64 sz,.string et,.int .i64 pt,.slice pa pn pc,.int .i64 tm,.int .i64 dy] #[.int .i64 3,.int .i64 i0,.int .i64 i1,.int .i64 i2,.string bu,.string ke,.int .i64 0,.int .i64 0,.int .i64 0,.int .i64 0,.int .i64 0,.int .i64 0,.int .i64 0,.string ⟨#[]⟩,.int .i64 0,.slice none 0 0,.int .i64 0,.int .i64 0]) := by rw [<- Hwd.out]; exact HC.out.below (Below.refl _ _).drew
     clear HC
     have HC := HE
     clear HE
     have KC : Hid (Kc wd g1 #[.int .i64 3,.int .i64 i0,.int .i64 i1,.int .i64 i2,.string bu,.string ke,.int .i64 u0,.int .i64 u1,.int .i64 u2,.int .i64 b0,.int .i64 b1,.int .i64 b2,.int .i64 sz,.string et,.int .i64 pt,.slice pa pn pc,.int .i64 tm,.int .i64 dy]) := ⟨HC.out.h1⟩
     refine wp_region_seq (ops := ops23) (C := fun W => Kc W g1 #[.int .i64 3,.int .i64 i0,.int .i64 i1,.int .i64 i2,.string bu,.string ke,.int .i64 u0,.int .i64 u1,.int .i64 u2,.int .i64 b0,.int .i64 b1,.int .i64 b2,.int .i64 sz,.string et,.int .i64 pt,.slice pa pn pc,.int .i64 tm,.int .i64 dy]) [(0, false), (1, false), (2, false), (3, false), (4, false), (5, true), (6, false), (7, true)] (by kernel_rfl) (by kernel_rfl) (by rw [Hwd.out]; exact KC.out) ?_
     rw [Hwd.out]
     clear Hwd
     refine stk (o := ⟨some 66, .fieldAddr 60 (.tmp 1) 5, 0, "ref.go:64", #[], none⟩) (v := .pointer (some ⟨g1, 9, none⟩)) ?_
     simp only [pG,Act.put]
     refine sty (o := ⟨some 67, .load 58 (.tmp 66), 58, "ref.go:64", #[⟨0, .data⟩], none⟩) (v := .agg #[.int .i64 b0,.int .i64 b1,.int .i64 b2,.int .i64 sz,.string et]) (Or.inl ⟨by kernel_rfl, fun W hW => by have q0 := hW.c 9 _ rfl; have q1 := hW.c 10 _ rfl; have q2 := hW.c 11 _ rfl; have q3 := hW.c 12 _ rfl; have q4 := hW.c 13 _ rfl; go_simp⟩) ?_
     simp only [pG,Act.put]
     refine stk (o := ⟨some 68, .fieldAddr 60 (.tmp 1) 8, 0, "ref.go:64", #[{ on := 5, ground := .gcOnly Go.Departure.lateStores }], none⟩) (v := .pointer (some ⟨g1, 16, none⟩)) ?_
     simp only [pG,Act.put]
     refine sty (o := ⟨some 69, .load 3 (.tmp 68), 3, "ref.go:64", #[⟨2, .data⟩, { on := 5, ground := .gcOnly Go.Departure.lateStores }], none⟩) (v := .int .i64 tm) (Or.inl ⟨by kernel_rfl, fun W hW => by have q0 := hW.c 16 _ rfl; go_simp⟩) ?_
     simp only [pG,Act.put]
     refine stk (o := ⟨some 70, .fieldAddr 60 (.tmp 3) 5, 0, "ref.go:64", #[⟨0, .phase⟩, ⟨1, .phase⟩, { on := 2, ground := .textOnly Go.Departure.lateStores }, { on := 3, ground := .textOnly Go.Departure.lateStores }], none⟩) (v := .pointer (some ⟨g3, 9, none⟩)) ?_
     simp only [pG,Act.put]
     have y9 : wd.cell? ⟨g3, 9, none⟩ = some (.int .i64 0) := HC.out.z 9 _ rfl
     have f9 := HC.out.fz 9
     have y10 : wd.cell? ⟨g3, 10, none⟩ = some (.int .i64 0) := HC.out.z 10 _ rfl
     have f10 := HC.out.fz 10
     have y11 : wd.cell? ⟨g3, 11, none⟩ = some (.int .i64 0) := HC.out.z 11 _ rfl
     have f11 := HC.out.fz 11
     have y12 : wd.cell? ⟨g3, 12, none⟩ = some (.int .i64 0) := HC.out.z 12 _ rfl
     have f12 := HC.out.fz 12
     have y13 : wd.cell? ⟨g3, 13, none⟩ = some (.string ⟨#[]⟩) := HC.out.z 13 _ rfl
     have f13 := HC.out.fz 13
     obtain ⟨ws0, Hws0⟩ := nm ((((((wd.setCell ⟨g3, 9, none⟩ (.int .i64 b0)).setCell ⟨g3, 10, none⟩ (.int .i64 b1)).setCell ⟨g3, 11, none⟩ (.int .i64 b2)).setCell ⟨g3, 12, none⟩ (.int .i64 sz)).setCell ⟨g3, 13, none⟩ (.string et)))
     have HE : Hid (Tw w ws0 g1 g3 #[.int .i64 3,.int .i64 i0,.int .i64 i1,.int .i64 i2,.string bu,.string ke,.int .i64 u0,.int .i64 u1,.int .i64 u2,.int .i64 b0,.int .i64 b1,.int .i64 b2,.int .i64 sz,.string et,.int .i64 pt,.slice pa pn pc,.int .i64 tm,.int .i64 dy] #[.int .i64 3,.int .i64 i0,.int .i64 i1,.int .i64 i2,.string bu,.string ke,.int .i64 0,.int .i64 0,.int .i64 0,.int .i64 b0,.int .i64 b1,.int .i64 b2,.int .i64 sz,.string et,.int .i64 0,.slice none 0 0,.int .i64 0,.int .i64 0]) := by rw [<- Hws0.out]; exact (tw_set (tw_set (tw_set (tw_set (tw_set HC.out gne.out gB.out 9 (.int .i64 b0)) gne.out gB.out 10 (.int .i64 b1)) gne.out gB.out 11 (.int .i64 b2)) gne.out gB.out 12 (.int .i64 sz)) gne.out gB.out 13 (.string et))
     refine seq_call (o := ⟨none, .store 58 (.tmp 70) (.tmp 67), 0, "ref.go:64", #[⟨4, .data⟩, ⟨1, .data⟩, ⟨0, .phase⟩, ⟨1, .phase⟩, { on := 2, ground := .textOnly Go.Departure.lateStores }, { on := 3, ground := .textOnly Go.Departure.lateStores }], none⟩) (by kernel_rfl) (fun K hK => ?_)
     rw [if_pos (by kernel_rfl)]
     go_simp
     rw [Hws0.out]
     refine hK.out _ _ ⟨HE.out.h1⟩ ?_
     clear hK K HC KC y9 f9 y10 f10 y11 f11 y12 f12 y13 f13 Hws0
     have HC := HE
     clear HE
     have KC : Hid (Kc ws0 g1 #[.int .i64 3,.int .i64 i0,.int .i64 i1,.int .i64 i2,.string bu,.string ke,.int .i64 u0,.int .i64 u1,.int .i64 u2,.int .i64 b0,.int .i64 b1,.int .i64 b2,.int .i64 sz,.string et,.int .i64 pt,.slice pa pn pc,.int .i64 tm,.int .i64 dy]) := ⟨HC.out.h1⟩
     try simp only [pG,Act.put]
     refine stk (o := ⟨some 71, .fieldAddr 60 (.tmp 3) 8, 0, "ref.go:64", #[⟨0, .phase⟩, ⟨1, .phase⟩, ⟨2, .phase⟩, ⟨3, .phase⟩, ⟨4, .phase⟩, ⟨5, .phase⟩], none⟩) (v := .pointer (some ⟨g3, 16, none⟩)) ?_
     simp only [pG,Act.put]
     have y16 : ws0.cell? ⟨g3, 16, none⟩ = some (.int .i64 0) := HC.out.z 16 _ rfl
     have f16 := HC.out.fz 16
     obtain ⟨ws1, Hws1⟩ := nm ((ws0.setCell ⟨g3, 16, none⟩ (.int .i64 tm)))
     have HE : Hid (Tw w ws1 g1 g3 #[.int .i64 3,.int .i64 i0,.int .i64 i1,.int .i64 i2,.string bu,.string ke,.int .i64 u0,.int .i64 u1,.int .i64 u2,.int .i64 b0,.int .i64 b1,.int .i64 b2,.int .i64 sz,.string et,.int .i64 pt,.slice pa pn pc,.int .i64 tm,.int .i64 dy] #[.int .i64 3,.int .i64 i0,.int .i64 i1,.int .i64 i2,.string bu,.string ke,.int .i64 0,.int .i64 0,.int .i64 0,.int .i64 b0,.int .i64 b1,.int .i64 b2,.int .i64 sz,.string et,.int .i64 0,.slice none 0 0,.int .i64 tm,.int .i64 0]) := by rw [<- Hws1.out]; exact (tw_set HC.out gne.out gB.out 16 (.int .i64 tm))
     refine seq_call (o := ⟨none, .store 3 (.tmp 71) (.tmp 69), 0, "ref.go:64", #[⟨6, .data⟩, ⟨3, .data⟩, ⟨5, .chain⟩, ⟨0, .phase⟩, ⟨1, .phase⟩, ⟨2, .phase⟩, ⟨3, .phase⟩, ⟨4, .phase⟩, ⟨5, .phase⟩], none⟩) (by kernel_rfl) (fun K hK => ?_)
     rw [if_pos (by kernel_rfl)]
     go_simp
     rw [Hws1.out]
     refine hK.out _ _ ⟨HE.out.h1⟩ ?_
     clear hK K HC KC y16 f16 Hws1
     have HC := HE
     clear HE
     have KC : Hid (Kc ws1 g1 #[.int .i64 3,.int .i64 i0,.int .i64 i1,.int .i64 i2,.string bu,.string ke,.int .i64 u0,.int .i64 u1,.int .i64 u2,.int .i64 b0,.int .i64 b1,.int .i64 b2,.int .i64 sz,.string et,.int .i64 pt,.slice pa pn pc,.int .i64 tm,.int .i64 dy]) := ⟨HC.out.h1⟩
     try simp only [pG,Act.put]
     show (Exit.then _ _) .normal _ _
     clear KC
     go_upto_region 40 with (fail)
     refine chain40 (fun _ _ _ d _ h => by cases d <;> exact h) HC ?_
     intro a' W' q1 q2 q3
     refine (by assumption : ∀ (a : Act) (w : World), Code.wp Tryd.prog Code.ret _ a w -> _) a' W' ?_
     go_wp2
     refine bodyPost_ret (results_tmp Tryd.results45 _ _ _) q2 ?_
     rw [q1]
     refine ⟨congrArg (fun b => Ending.returned (Value.bool b)) ?_, q3⟩
     rw [<- fr3 HG.out hI.out.len]
     simp only [Hbn.out, Hbk.out, Hbp.out, Hze.out, Bool.true_and, Bool.false_and, Bool.and_true, Bool.and_false]
   | true =>
     have x0 : w5.cell? ⟨g1, 0, none⟩ = some (.int .i64 3) := HC.out.c 0 _ rfl
     go_upto_region 23 with (fail)
     clear x0
     obtain ⟨wd, Hwd⟩ := nm (w5.drew)
     have HE : Hid (Tw w wd g1 g3 #[.int .i64 3,.int .i64 i0,.int .i64 i1,.int .i64 i2,.string bu,.string ke,.int .i64 u0,.int .i64 u1,.int .i64 u2,.int .i64 b0,.int .i64 b1,.int .i64 b2,.int .i64 sz,.string et,.int .i64 pt,.slice pa pn pc,.int .i64 tm,.int .i64 dy] #[.int .i64 3,.int .i64 i0,.int .i64 i1,.int .i64 i2,.string bu,.string ke,.int .i64 0,.int .i64 0,.int .i64 0,.int .i64 0,.int .i64 0,.int .i64 0,.int .i64 0,.string ⟨#[]⟩,.int .i64 0,.slice none 0 0,.int .i64 0,.int .i64 0]) := by rw [<- Hwd.out]; exact HC.out.below (Below.refl _ _).drew
     clear HC
     have HC := HE
     clear HE
     have KC : Hid (Kc wd g1 #[.int .i64 3,.int .i64 i0,.int .i64 i1,.int .i64 i2,.string bu,.string ke,.int .i64 u0,.int .i64 u1,.int .i64 u2,.int .i64 b0,.int .i64 b1,.int .i64 b2,.int .i64 sz,.string et,.int .i64 pt,.slice pa pn pc,.int .i64 tm,.int .i64 dy]) := ⟨HC.out.h1⟩
     refine wp_region_seq (ops := ops23) (C := fun W => Kc W g1 #[.int .i64 3,.int .i64 i0,.int .i64 i1,.int .i64 i2,.string bu,.string ke,.int .i64 u0,.int .i64 u1,.int .i64 u2,.int .i64 b0,.int .i64 b1,.int .i64 b2,.int .i64 sz,.string et,.int .i64 pt,.slice pa pn pc,.int .i64 tm,.int .i64 dy]) [(0, false), (1, false), (2, false), (3, false), (4, false), (5, true), (6, false), (7, true)] (by kernel_rfl) (by kernel_rfl) (by rw [Hwd.out]; exact KC.out) ?_
     rw [Hwd.out]
     clear Hwd
     refine stk (o := ⟨some 66, .fieldAddr 60 (.tmp 1) 5, 0, "ref.go:64", #[], none⟩) (v := .pointer (some ⟨g1, 9, none⟩)) ?_
     simp only [pG,Act.put]
     refine sty (o := ⟨some 67, .load 58 (.tmp 66), 58, "ref.go:64", #[⟨0, .data⟩], none⟩) (v := .agg #[.int .i64 b0,.int .i64 b1,.int .i64 b2,.int .i64 sz,.string et]) (Or.inl ⟨by kernel_rfl, fun W hW => by have q0 := hW.c 9 _ rfl; have q1 := hW.c 10 _ rfl; have q2 := hW.c 11 _ rfl; have q3 := hW.c 12 _ rfl; have q4 := hW.c 13 _ rfl; go_simp⟩) ?_
     simp only [pG,Act.put]
     refine stk (o := ⟨some 68, .fieldAddr 60 (.tmp 1) 8, 0, "ref.go:64", #[{ on := 5, ground := .gcOnly Go.Departure.lateStores }], none⟩) (v := .pointer (some ⟨g1, 16, none⟩)) ?_
     simp only [pG,Act.put]
     refine sty (o := ⟨some 69, .load 3 (.tmp 68), 3, "ref.go:64", #[⟨2, .data⟩, { on := 5, ground := .gcOnly Go.Departure.lateStores }], none⟩) (v := .int .i64 tm) (Or.inl ⟨by kernel_rfl, fun W hW => by have q0 := hW.c 16 _ rfl; go_simp⟩) ?_
     simp only [pG,Act.put]
     refine stk (o := ⟨some 70, .fieldAddr 60 (.tmp 3) 5, 0, "ref.go:64", #[⟨0, .phase⟩, ⟨1, .phase⟩, { on := 2, ground := .textOnly Go.Departure.lateStores }, { on := 3, ground := .textOnly Go.Departure.lateStores }], none⟩) (v := .pointer (some ⟨g3, 9, none⟩)) ?_
     simp only [pG,Act.put]
     have y9 : wd.cell? ⟨g3, 9, none⟩ = some (.int .i64 0) := HC.out.z 9 _ rfl
     have f9 := HC.out.fz 9
     have y10 : wd.cell? ⟨g3, 10, none⟩ = some (.int .i64 0) := HC.out.z 10 _ rfl
     have f10 := HC.out.fz 10
     have y11 : wd.cell? ⟨g3, 11, none⟩ = some (.int .i64 0) := HC.out.z 11 _ rfl
     have f11 := HC.out.fz 11
     have y12 : wd.cell? ⟨g3, 12, none⟩ = some (.int .i64 0) := HC.out.z 12 _ rfl
     have f12 := HC.out.fz 12
     have y13 : wd.cell? ⟨g3, 13, none⟩ = some (.string ⟨#[]⟩) := HC.out.z 13 _ rfl
     have f13 := HC.out.fz 13
     obtain ⟨ws0, Hws0⟩ := nm ((((((wd.setCell ⟨g3, 9, none⟩ (.int .i64 b0)).setCell ⟨g3, 10, none⟩ (.int .i64 b1)).setCell ⟨g3, 11, none⟩ (.int .i64 b2)).setCell ⟨g3, 12, none⟩ (.int .i64 sz)).setCell ⟨g3, 13, none⟩ (.string et)))
     have HE : Hid (Tw w ws0 g1 g3 #[.int .i64 3,.int .i64 i0,.int .i64 i1,.int .i64 i2,.string bu,.string ke,.int .i64 u0,.int .i64 u1,.int .i64 u2,.int .i64 b0,.int .i64 b1,.int .i64 b2,.int .i64 sz,.string et,.int .i64 pt,.slice pa pn pc,.int .i64 tm,.int .i64 dy] #[.int .i64 3,.int .i64 i0,.int .i64 i1,.int .i64 i2,.string bu,.string ke,.int .i64 0,.int .i64 0,.int .i64 0,.int .i64 b0,.int .i64 b1,.int .i64 b2,.int .i64 sz,.string et,.int .i64 0,.slice none 0 0,.int .i64 0,.int .i64 0]) := by rw [<- Hws0.out]; exact (tw_set (tw_set (tw_set (tw_set (tw_set HC.out gne.out gB.out 9 (.int .i64 b0)) gne.out gB.out 10 (.int .i64 b1)) gne.out gB.out 11 (.int .i64 b2)) gne.out gB.out 12 (.int .i64 sz)) gne.out gB.out 13 (.string et))
     refine seq_call (o := ⟨none, .store 58 (.tmp 70) (.tmp 67), 0, "ref.go:64", #[⟨4, .data⟩, ⟨1, .data⟩, ⟨0, .phase⟩, ⟨1, .phase⟩, { on := 2, ground := .textOnly Go.Departure.lateStores }, { on := 3, ground := .textOnly Go.Departure.lateStores }], none⟩) (by kernel_rfl) (fun K hK => ?_)
     rw [if_pos (by kernel_rfl)]
     go_simp
     rw [Hws0.out]
     refine hK.out _ _ ⟨HE.out.h1⟩ ?_
     clear hK K HC KC y9 f9 y10 f10 y11 f11 y12 f12 y13 f13 Hws0
     have HC := HE
     clear HE
     have KC : Hid (Kc ws0 g1 #[.int .i64 3,.int .i64 i0,.int .i64 i1,.int .i64 i2,.string bu,.string ke,.int .i64 u0,.int .i64 u1,.int .i64 u2,.int .i64 b0,.int .i64 b1,.int .i64 b2,.int .i64 sz,.string et,.int .i64 pt,.slice pa pn pc,.int .i64 tm,.int .i64 dy]) := ⟨HC.out.h1⟩
     try simp only [pG,Act.put]
     refine stk (o := ⟨some 71, .fieldAddr 60 (.tmp 3) 8, 0, "ref.go:64", #[⟨0, .phase⟩, ⟨1, .phase⟩, ⟨2, .phase⟩, ⟨3, .phase⟩, ⟨4, .phase⟩, ⟨5, .phase⟩], none⟩) (v := .pointer (some ⟨g3, 16, none⟩)) ?_
     simp only [pG,Act.put]
     have y16 : ws0.cell? ⟨g3, 16, none⟩ = some (.int .i64 0) := HC.out.z 16 _ rfl
     have f16 := HC.out.fz 16
     obtain ⟨ws1, Hws1⟩ := nm ((ws0.setCell ⟨g3, 16, none⟩ (.int .i64 tm)))
     have HE : Hid (Tw w ws1 g1 g3 #[.int .i64 3,.int .i64 i0,.int .i64 i1,.int .i64 i2,.string bu,.string ke,.int .i64 u0,.int .i64 u1,.int .i64 u2,.int .i64 b0,.int .i64 b1,.int .i64 b2,.int .i64 sz,.string et,.int .i64 pt,.slice pa pn pc,.int .i64 tm,.int .i64 dy] #[.int .i64 3,.int .i64 i0,.int .i64 i1,.int .i64 i2,.string bu,.string ke,.int .i64 0,.int .i64 0,.int .i64 0,.int .i64 b0,.int .i64 b1,.int .i64 b2,.int .i64 sz,.string et,.int .i64 0,.slice none 0 0,.int .i64 tm,.int .i64 0]) := by rw [<- Hws1.out]; exact (tw_set HC.out gne.out gB.out 16 (.int .i64 tm))
     refine seq_call (o := ⟨none, .store 3 (.tmp 71) (.tmp 69), 0, "ref.go:64", #[⟨6, .data⟩, ⟨3, .data⟩, ⟨5, .chain⟩, ⟨0, .phase⟩, ⟨1, .phase⟩, ⟨2, .phase⟩, ⟨3, .phase⟩, ⟨4, .phase⟩, ⟨5, .phase⟩], none⟩) (by kernel_rfl) (fun K hK => ?_)
     rw [if_pos (by kernel_rfl)]
     go_simp
     rw [Hws1.out]
     refine hK.out _ _ ⟨HE.out.h1⟩ ?_
     clear hK K HC KC y16 f16 Hws1
     have HC := HE
     clear HE
     have KC : Hid (Kc ws1 g1 #[.int .i64 3,.int .i64 i0,.int .i64 i1,.int .i64 i2,.string bu,.string ke,.int .i64 u0,.int .i64 u1,.int .i64 u2,.int .i64 b0,.int .i64 b1,.int .i64 b2,.int .i64 sz,.string et,.int .i64 pt,.slice pa pn pc,.int .i64 tm,.int .i64 dy]) := ⟨HC.out.h1⟩
     try simp only [pG,Act.put]
     show (Exit.then _ _) .normal _ _
     clear KC
     go_upto_region 24 with (fail)
     cases bp with
     | false =>
       have x9 : ws1.cell? ⟨g1, 9, none⟩ = some (.int .i64 b0) := HC.out.c 9 _ rfl
       have x10 : ws1.cell? ⟨g1, 10, none⟩ = some (.int .i64 b1) := HC.out.c 10 _ rfl
       have x11 : ws1.cell? ⟨g1, 11, none⟩ = some (.int .i64 b2) := HC.out.c 11 _ rfl
       have x12 : ws1.cell? ⟨g1, 12, none⟩ = some (.int .i64 sz) := HC.out.c 12 _ rfl
       have x13 : ws1.cell? ⟨g1, 13, none⟩ = some (.string et) := HC.out.c 13 _ rfl
       go_upto_region 40 with (go_at_call 60; refine (refPiece_n _ _ _ _ _ het _).mono ?_; rintro e w9 ⟨rfl, h0⟩; rw [Hbp.out])
       have HE := HC.out.below h0.out
       clear HC h0 x9 x10 x11 x12 x13
       have HC : Hid (Tw w w9 g1 g3 #[.int .i64 3,.int .i64 i0,.int .i64 i1,.int .i64 i2,.string bu,.string ke,.int .i64 u0,.int .i64 u1,.int .i64 u2,.int .i64 b0,.int .i64 b1,.int .i64 b2,.int .i64 sz,.string et,.int .i64 pt,.slice pa pn pc,.int .i64 tm,.int .i64 dy] #[.int .i64 3,.int .i64 i0,.int .i64 i1,.int .i64 i2,.string bu,.string ke,.int .i64 0,.int .i64 0,.int .i64 0,.int .i64 b0,.int .i64 b1,.int .i64 b2,.int .i64 sz,.string et,.int .i64 0,.slice none 0 0,.int .i64 tm,.int .i64 0]) := HE
       clear HE
       refine chain40 (fun _ _ _ d _ h => by cases d <;> exact h) HC ?_
       intro a' W' q1 q2 q3
       refine (by assumption : ∀ (a : Act) (w : World), Code.wp Tryd.prog Code.ret _ a w -> _) a' W' ?_
       go_wp2
       refine bodyPost_ret (results_tmp Tryd.results45 _ _ _) q2 ?_
       rw [q1]
       refine ⟨congrArg (fun b => Ending.returned (Value.bool b)) ?_, q3⟩
       rw [<- fr3 HG.out hI.out.len]
       simp only [Hbn.out, Hbk.out, Hbp.out, Hze.out, Bool.true_and, Bool.false_and, Bool.and_true, Bool.and_false]
     | true =>
       have x9 : ws1.cell? ⟨g1, 9, none⟩ = some (.int .i64 b0) := HC.out.c 9 _ rfl
       have x10 : ws1.cell? ⟨g1, 10, none⟩ = some (.int .i64 b1) := HC.out.c 10 _ rfl
       have x11 : ws1.cell? ⟨g1, 11, none⟩ = some (.int .i64 b2) := HC.out.c 11 _ rfl
       have x12 : ws1.cell? ⟨g1, 12, none⟩ = some (.int .i64 sz) := HC.out.c 12 _ rfl
       have x13 : ws1.cell? ⟨g1, 13, none⟩ = some (.string et) := HC.out.c 13 _ rfl
       go_upto_region 40 with (go_at_call 60; refine (refPiece_n _ _ _ _ _ het _).mono ?_; rintro e w9 ⟨rfl, h0⟩; rw [Hbp.out]; have HE := HC.out.below h0.out; have u1 := HE.c 1 _ rfl; have u2 := HE.c 2 _ rfl; have u3 := HE.c 3 _ rfl; have u9 := HE.c 9 _ rfl; have u10 := HE.c 10 _ rfl; have u11 := HE.c 11 _ rfl; have u14 := HE.c 14 _ rfl)
       clear HC h0 x9 x10 x11 x12 x13 u1 u2 u3 u9 u10 u11 u14
       have HC : Hid (Tw w w9 g1 g3 #[.int .i64 3,.int .i64 i0,.int .i64 i1,.int .i64 i2,.string bu,.string ke,.int .i64 u0,.int .i64 u1,.int .i64 u2,.int .i64 b0,.int .i64 b1,.int .i64 b2,.int .i64 sz,.string et,.int .i64 pt,.slice pa pn pc,.int .i64 tm,.int .i64 dy] #[.int .i64 3,.int .i64 i0,.int .i64 i1,.int .i64 i2,.string bu,.string ke,.int .i64 0,.int .i64 0,.int .i64 0,.int .i64 b0,.int .i64 b1,.int .i64 b2,.int .i64 sz,.string et,.int .i64 0,.slice none 0 0,.int .i64 tm,.int .i64 0]) := HE
       clear HE
       refine chain40 (fun _ _ _ d _ h => by cases d <;> exact h) HC ?_
       intro a' W' q1 q2 q3
       refine (by assumption : ∀ (a : Act) (w : World), Code.wp Tryd.prog Code.ret _ a w -> _) a' W' ?_
       go_wp2
       refine bodyPost_ret (results_tmp Tryd.results45 _ _ _) q2 ?_
       rw [q1]
       refine ⟨congrArg (fun b => Ending.returned (Value.bool b)) ?_, q3⟩
       rw [<- fr3 HG.out hI.out.len]
       simp only [Hbn.out, Hbk.out, Hbp.out, Hze.out, Bool.true_and, Bool.false_and, Bool.and_true, Bool.and_false]
end Go.Proofs.YtppibcambhmomaaDoor
