import Derived.Test.YtppibcambhmomaaDoorPp
import Derived.Test.YtppibcambhmomaaDoorP20
namespace Go.Proofs.YtppibcambhmomaaDoor
open Go.ChangeShapes Go.WideShapes Go.ChangeAt Go.RowKit
set_option maxRecDepth 20000
set_option linter.unusedVariables false
set_option linter.unusedSimpArgs false
set_option maxHeartbeats 4000000 in
theorem inF_7 {w : World} {i0 i1 i2 : Int} {bu ke : ByteArray} {u0 u1 u2 b0 b1 b2 sz : Int} {et : ByteArray} {pt : Int} {ps : List Int} {pa : Option Addr} {pn pc : Nat} {tm dy : Int} (hI : Hid (Irow w 0 pa pn ps)) (HG : Hid (gdI i0 i1 i2 = true)) (hbu : bu.size <= 281474976710656) (hke : ke.size <= 281474976710656) (het : et.size <= 281474976710656) :
  Calls Tryd.prog 45 #[.agg #[.int .i64 7,.int .i64 i0,.int .i64 i1,.int .i64 i2,.string bu,.string ke,.int .i64 u0,.int .i64 u1,.int .i64 u2,.int .i64 b0,.int .i64 b1,.int .i64 b2,.int .i64 sz,.string et,.int .i64 pt,.slice pa pn pc,.int .i64 tm,.int .i64 dy]] w fun e w' => e = .returned (.bool (frm ⟨7, i0, i1, i2, bu, ke, u0, u1, u2, b0, b1, b2, sz, et, pt, ps, tm, dy⟩)) /\ Hid (Below w.heap.size w w') := by
 obtain ⟨g1, Hg1⟩ := nm (w.heap.size)
 obtain ⟨w1, Hw1⟩ := nm (w.alloc (.cells #[.int .i64 7,.int .i64 i0,.int .i64 i1,.int .i64 i2,.string bu,.string ke,.int .i64 u0,.int .i64 u1,.int .i64 u2,.int .i64 b0,.int .i64 b1,.int .i64 b2,.int .i64 sz,.string et,.int .i64 pt,.slice pa pn pc,.int .i64 tm,.int .i64 dy] 60))
 have B1 := al1 Hw1
 have k1 : Hid (w1.heap[g1]? = some (.cells #[.int .i64 7,.int .i64 i0,.int .i64 i1,.int .i64 i2,.string bu,.string ke,.int .i64 u0,.int .i64 u1,.int .i64 u2,.int .i64 b0,.int .i64 b1,.int .i64 b2,.int .i64 sz,.string et,.int .i64 pt,.slice pa pn pc,.int .i64 tm,.int .i64 dy] 60 (0, 0))) := by rw [<- Hw1.out, <- Hg1.out]; exact heap_alloc_new w _
 have x1 : w1.cell? ⟨g1, 1, none⟩ = some (.int .i64 i0) := by simp [World.cell?, k1.out]
 have x2 : w1.cell? ⟨g1, 2, none⟩ = some (.int .i64 i1) := by simp [World.cell?, k1.out]
 have x3 : w1.cell? ⟨g1, 3, none⟩ = some (.int .i64 i2) := by simp [World.cell?, k1.out]
 go_enter Tryd.func45, Tryd.ntmps45
 go_upto_region 1 with (fail)
 rw [Hw1.out, Hg1.out]
 go_upto_region 3 with (go_at_call 20; refine (refGoodId_n _ _ _ _).mono ?_; rintro e w2 ⟨rfl, h2⟩; rw [HG.out])
 clear x1 x2 x3
 have hb2 := al2 h2
 have k2 := sh hb2 k1
 have x0 : w2.cell? ⟨g1, 0, none⟩ = some (.int .i64 7) := by simp [World.cell?, k2.out]
 have x1 : w2.cell? ⟨g1, 1, none⟩ = some (.int .i64 i0) := by simp [World.cell?, k2.out]
 have x2 : w2.cell? ⟨g1, 2, none⟩ = some (.int .i64 i1) := by simp [World.cell?, k2.out]
 have x3 : w2.cell? ⟨g1, 3, none⟩ = some (.int .i64 i2) := by simp [World.cell?, k2.out]
 obtain ⟨g3, Hg3⟩ := nm (w2.heap.size)
 obtain ⟨w3, Hw3⟩ := nm (w2.alloc (.cells #[.int .i64 7,.int .i64 i0,.int .i64 i1,.int .i64 i2,.string ⟨#[]⟩,.string ⟨#[]⟩,.int .i64 0,.int .i64 0,.int .i64 0,.int .i64 0,.int .i64 0,.int .i64 0,.int .i64 0,.string ⟨#[]⟩,.int .i64 0,.slice none 0 0,.int .i64 0,.int .i64 0] 60))
 have hb3 := al1 Hw3
 have HC : Hid (Tw w w3 g1 g3 #[.int .i64 7,.int .i64 i0,.int .i64 i1,.int .i64 i2,.string bu,.string ke,.int .i64 u0,.int .i64 u1,.int .i64 u2,.int .i64 b0,.int .i64 b1,.int .i64 b2,.int .i64 sz,.string et,.int .i64 pt,.slice pa pn pc,.int .i64 tm,.int .i64 dy] #[.int .i64 7,.int .i64 i0,.int .i64 i1,.int .i64 i2,.string ⟨#[]⟩,.string ⟨#[]⟩,.int .i64 0,.int .i64 0,.int .i64 0,.int .i64 0,.int .i64 0,.int .i64 0,.int .i64 0,.string ⟨#[]⟩,.int .i64 0,.slice none 0 0,.int .i64 0,.int .i64 0]) := by
  refine ⟨(hb3.out.block g1 (gl k2.out)).trans k2.out, ?_, (B1.out.trans (hb2.out.mono B1.out.size)).trans (hb3.out.mono (Nat.le_trans B1.out.size hb2.out.size))⟩
  rw [<- Hw3.out, <- Hg3.out]
  exact heap_alloc_new w2 _
 have gne : Hid (g1 ≠ g3) := by
  have h := (gl k2.out)
  rw [Hg3.out] at h
  exact Nat.ne_of_lt h
 have GB0 : Hid (w.heap.size <= g3) := by
  have h := Nat.le_trans B1.out.size hb2.out.size
  rw [Hg3.out] at h
  exact h
 go_upto_region 5 with (fail)
 rw [Hw3.out, Hg3.out]
 clear x0 x1 x2 x3 h2 hb2 hb3 k1 k2 B1 Hw1 Hg1 Hw3 Hg3
 have gB : Hid (w.heap.size <= g3) := GB0.out
 obtain ⟨bn, Hbn⟩ := nm (gdN bu)
 obtain ⟨bk, Hbk⟩ := nm (gdK ke)
 have x0 : w3.cell? ⟨g1, 0, none⟩ = some (.int .i64 7) := HC.out.c 0 _ rfl
 go_upto_region 7 with (fail)
 clear x0
 have x4 : w3.cell? ⟨g1, 4, none⟩ = some (.string bu) := HC.out.c 4 _ rfl
 have y4 : w3.cell? ⟨g3, 4, none⟩ = some (.string ⟨#[]⟩) := HC.out.z 4 _ rfl
 have f4 := HC.out.fz 4
 obtain ⟨w4, Hw4⟩ := nm ((w3.setCell ⟨g3, 4, none⟩ (.string bu)))
 have HD : Hid (Tw w w4 g1 g3 #[.int .i64 7,.int .i64 i0,.int .i64 i1,.int .i64 i2,.string bu,.string ke,.int .i64 u0,.int .i64 u1,.int .i64 u2,.int .i64 b0,.int .i64 b1,.int .i64 b2,.int .i64 sz,.string et,.int .i64 pt,.slice pa pn pc,.int .i64 tm,.int .i64 dy] #[.int .i64 7,.int .i64 i0,.int .i64 i1,.int .i64 i2,.string bu,.string ⟨#[]⟩,.int .i64 0,.int .i64 0,.int .i64 0,.int .i64 0,.int .i64 0,.int .i64 0,.int .i64 0,.string ⟨#[]⟩,.int .i64 0,.slice none 0 0,.int .i64 0,.int .i64 0]) := by rw [<- Hw4.out]; exact (tw_set HC.out gne.out gB.out 4 (.string bu))
 go_upto_region 8 with (fail)
 rw [Hw4.out]
 clear HC x4 y4 f4
 have HC := HD
 clear HD Hw4
 have x4 : w4.cell? ⟨g1, 4, none⟩ = some (.string bu) := HC.out.c 4 _ rfl
 go_upto_region 9 with (go_at_call 58; refine (refBucket_n bu hbu _).mono ?_; rintro e w0 ⟨rfl, h0⟩; rw [h0, Hbn.out]; clear h0)
 clear x4
 have x0 : w4.cell? ⟨g1, 0, none⟩ = some (.int .i64 7) := HC.out.c 0 _ rfl
 go_upto_region 11 with (fail)
 clear x0
 have x5 : w4.cell? ⟨g1, 5, none⟩ = some (.string ke) := HC.out.c 5 _ rfl
 have y5 : w4.cell? ⟨g3, 5, none⟩ = some (.string ⟨#[]⟩) := HC.out.z 5 _ rfl
 have f5 := HC.out.fz 5
 obtain ⟨w5, Hw5⟩ := nm ((w4.setCell ⟨g3, 5, none⟩ (.string ke)))
 have HD : Hid (Tw w w5 g1 g3 #[.int .i64 7,.int .i64 i0,.int .i64 i1,.int .i64 i2,.string bu,.string ke,.int .i64 u0,.int .i64 u1,.int .i64 u2,.int .i64 b0,.int .i64 b1,.int .i64 b2,.int .i64 sz,.string et,.int .i64 pt,.slice pa pn pc,.int .i64 tm,.int .i64 dy] #[.int .i64 7,.int .i64 i0,.int .i64 i1,.int .i64 i2,.string bu,.string ke,.int .i64 0,.int .i64 0,.int .i64 0,.int .i64 0,.int .i64 0,.int .i64 0,.int .i64 0,.string ⟨#[]⟩,.int .i64 0,.slice none 0 0,.int .i64 0,.int .i64 0]) := by rw [<- Hw5.out]; exact (tw_set HC.out gne.out gB.out 5 (.string ke))
 go_upto_region 12 with (fail)
 rw [Hw5.out]
 clear HC x5 y5 f5
 have HC := HD
 clear HD Hw5
 cases bn with
 | false =>
   go_upto_region 13 with (fail)
   have x0 : w5.cell? ⟨g1, 0, none⟩ = some (.int .i64 7) := HC.out.c 0 _ rfl
   go_upto_region 29 with (fail)
   clear x0
   obtain ⟨wd, Hwd⟩ := nm (w5.drew)
   have HE : Hid (Tw w wd g1 g3 #[.int .i64 7,.int .i64 i0,.int .i64 i1,.int .i64 i2,.string bu,.string ke,.int .i64 u0,.int .i64 u1,.int .i64 u2,.int .i64 b0,.int .i64 b1,.int .i64 b2,.int .i64 sz,.string et,.int .i64 pt,.slice pa pn pc,.int .i64 tm,.int .i64 dy] #[.int .i64 7,.int .i64 i0,.int .i64 i1,.int .i64 i2,.string bu,.string ke,.int .i64 0,.int .i64 0,.int .i64 0,.int .i64 0,.int .i64 0,.int .i64 0,.int .i64 0,.string ⟨#[]⟩,.int .i64 0,.slice none 0 0,.int .i64 0,.int .i64 0]) := by rw [<- Hwd.out]; exact HC.out.below (Below.refl _ _).drew
   clear HC
   have HC := HE
   clear HE
   have KC : Hid (Kc wd g1 #[.int .i64 7,.int .i64 i0,.int .i64 i1,.int .i64 i2,.string bu,.string ke,.int .i64 u0,.int .i64 u1,.int .i64 u2,.int .i64 b0,.int .i64 b1,.int .i64 b2,.int .i64 sz,.string et,.int .i64 pt,.slice pa pn pc,.int .i64 tm,.int .i64 dy]) := ⟨HC.out.h1⟩
   refine wp_region_seq (ops := ops29) (C := fun W => Kc W g1 #[.int .i64 7,.int .i64 i0,.int .i64 i1,.int .i64 i2,.string bu,.string ke,.int .i64 u0,.int .i64 u1,.int .i64 u2,.int .i64 b0,.int .i64 b1,.int .i64 b2,.int .i64 sz,.string et,.int .i64 pt,.slice pa pn pc,.int .i64 tm,.int .i64 dy]) [(0, false), (1, false), (2, false), (3, false), (4, false), (5, false), (6, false), (7, true), (8, false), (9, true), (10, false), (11, true)] (by kernel_rfl) (by kernel_rfl) (by rw [Hwd.out]; exact KC.out) ?_
   rw [Hwd.out]
   clear Hwd
   refine stk (o := ⟨some 123, .fieldAddr 60 (.tmp 1) 4, 0, "ref.go:70", #[], none⟩) (v := .pointer (some ⟨g1, 6, none⟩)) ?_
   simp only [pG,Act.put]
   refine sty (o := ⟨some 124, .load 23 (.tmp 123), 23, "ref.go:70", #[⟨0, .data⟩], none⟩) (v := .agg #[.int .i64 u0,.int .i64 u1,.int .i64 u2]) (Or.inl ⟨by kernel_rfl, fun W hW => by have q0 := hW.c 6 _ rfl; have q1 := hW.c 7 _ rfl; have q2 := hW.c 8 _ rfl; go_simp⟩) ?_
   simp only [pG,Act.put]
   refine stk (o := ⟨some 125, .fieldAddr 60 (.tmp 1) 8, 0, "ref.go:70", #[{ on := 7, ground := .gcOnly Go.Departure.lateStores }], none⟩) (v := .pointer (some ⟨g1, 16, none⟩)) ?_
   simp only [pG,Act.put]
   refine sty (o := ⟨some 126, .load 3 (.tmp 125), 3, "ref.go:70", #[⟨2, .data⟩, { on := 7, ground := .gcOnly Go.Departure.lateStores }], none⟩) (v := .int .i64 tm) (Or.inl ⟨by kernel_rfl, fun W hW => by have q0 := hW.c 16 _ rfl; go_simp⟩) ?_
   simp only [pG,Act.put]
   refine stk (o := ⟨some 127, .fieldAddr 60 (.tmp 1) 7, 0, "ref.go:70", #[{ on := 9, ground := .gcOnly Go.Departure.lateStores }], none⟩) (v := .pointer (some ⟨g1, 15, none⟩)) ?_
   simp only [pG,Act.put]
   refine sty (o := ⟨some 128, .load 55 (.tmp 127), 55, "ref.go:70", #[⟨4, .data⟩, { on := 9, ground := .gcOnly Go.Departure.lateStores }], none⟩) (v := .slice pa pn pc) (Or.inl ⟨by kernel_rfl, fun W hW => by have q0 := hW.c 15 _ rfl; go_simp⟩) ?_
   simp only [pG,Act.put]
   refine stk (o := ⟨some 129, .fieldAddr 60 (.tmp 3) 4, 0, "ref.go:70", #[⟨0, .phase⟩, ⟨1, .phase⟩, { on := 2, ground := .textOnly Go.Departure.lateStores }, { on := 3, ground := .textOnly Go.Departure.lateStores }, { on := 4, ground := .textOnly Go.Departure.lateStores }, { on := 5, ground := .textOnly Go.Departure.lateStores }], none⟩) (v := .pointer (some ⟨g3, 6, none⟩)) ?_
   simp only [pG,Act.put]
   have y6 : wd.cell? ⟨g3, 6, none⟩ = some (.int .i64 0) := HC.out.z 6 _ rfl
   have f6 := HC.out.fz 6
   have y7 : wd.cell? ⟨g3, 7, none⟩ = some (.int .i64 0) := HC.out.z 7 _ rfl
   have f7 := HC.out.fz 7
   have y8 : wd.cell? ⟨g3, 8, none⟩ = some (.int .i64 0) := HC.out.z 8 _ rfl
   have f8 := HC.out.fz 8
   obtain ⟨ws0, Hws0⟩ := nm ((((wd.setCell ⟨g3, 6, none⟩ (.int .i64 u0)).setCell ⟨g3, 7, none⟩ (.int .i64 u1)).setCell ⟨g3, 8, none⟩ (.int .i64 u2)))
   have HE : Hid (Tw w ws0 g1 g3 #[.int .i64 7,.int .i64 i0,.int .i64 i1,.int .i64 i2,.string bu,.string ke,.int .i64 u0,.int .i64 u1,.int .i64 u2,.int .i64 b0,.int .i64 b1,.int .i64 b2,.int .i64 sz,.string et,.int .i64 pt,.slice pa pn pc,.int .i64 tm,.int .i64 dy] #[.int .i64 7,.int .i64 i0,.int .i64 i1,.int .i64 i2,.string bu,.string ke,.int .i64 u0,.int .i64 u1,.int .i64 u2,.int .i64 0,.int .i64 0,.int .i64 0,.int .i64 0,.string ⟨#[]⟩,.int .i64 0,.slice none 0 0,.int .i64 0,.int .i64 0]) := by rw [<- Hws0.out]; exact (tw_set (tw_set (tw_set HC.out gne.out gB.out 6 (.int .i64 u0)) gne.out gB.out 7 (.int .i64 u1)) gne.out gB.out 8 (.int .i64 u2))
   refine seq_call (o := ⟨none, .store 23 (.tmp 129) (.tmp 124), 0, "ref.go:70", #[⟨6, .data⟩, ⟨1, .data⟩, ⟨0, .phase⟩, ⟨1, .phase⟩, { on := 2, ground := .textOnly Go.Departure.lateStores }, { on := 3, ground := .textOnly Go.Departure.lateStores }, { on := 4, ground := .textOnly Go.Departure.lateStores }, { on := 5, ground := .textOnly Go.Departure.lateStores }], none⟩) (by kernel_rfl) (fun K hK => ?_)
   rw [if_pos (by kernel_rfl)]
   go_simp
   rw [Hws0.out]
   refine hK.out _ _ ⟨HE.out.h1⟩ ?_
   clear hK K HC KC y6 f6 y7 f7 y8 f8 Hws0
   have HC := HE
   clear HE
   have KC : Hid (Kc ws0 g1 #[.int .i64 7,.int .i64 i0,.int .i64 i1,.int .i64 i2,.string bu,.string ke,.int .i64 u0,.int .i64 u1,.int .i64 u2,.int .i64 b0,.int .i64 b1,.int .i64 b2,.int .i64 sz,.string et,.int .i64 pt,.slice pa pn pc,.int .i64 tm,.int .i64 dy]) := ⟨HC.out.h1⟩
   try simp only [pG,Act.put]
   refine stk (o := ⟨some 130, .fieldAddr 60 (.tmp 3) 8, 0, "ref.go:70", #[⟨0, .phase⟩, ⟨1, .phase⟩, ⟨2, .phase⟩, ⟨3, .phase⟩, { on := 4, ground := .textOnly Go.Departure.lateStores }, { on := 5, ground := .textOnly Go.Departure.lateStores }, ⟨6, .phase⟩, ⟨7, .phase⟩], none⟩) (v := .pointer (some ⟨g3, 16, none⟩)) ?_
   simp only [pG,Act.put]
   have y16 : ws0.cell? ⟨g3, 16, none⟩ = some (.int .i64 0) := HC.out.z 16 _ rfl
   have f16 := HC.out.fz 16
   obtain ⟨ws1, Hws1⟩ := nm ((ws0.setCell ⟨g3, 16, none⟩ (.int .i64 tm)))
   have HE : Hid (Tw w ws1 g1 g3 #[.int .i64 7,.int .i64 i0,.int .i64 i1,.int .i64 i2,.string bu,.string ke,.int .i64 u0,.int .i64 u1,.int .i64 u2,.int .i64 b0,.int .i64 b1,.int .i64 b2,.int .i64 sz,.string et,.int .i64 pt,.slice pa pn pc,.int .i64 tm,.int .i64 dy] #[.int .i64 7,.int .i64 i0,.int .i64 i1,.int .i64 i2,.string bu,.string ke,.int .i64 u0,.int .i64 u1,.int .i64 u2,.int .i64 0,.int .i64 0,.int .i64 0,.int .i64 0,.string ⟨#[]⟩,.int .i64 0,.slice none 0 0,.int .i64 tm,.int .i64 0]) := by rw [<- Hws1.out]; exact (tw_set HC.out gne.out gB.out 16 (.int .i64 tm))
   refine seq_call (o := ⟨none, .store 3 (.tmp 130) (.tmp 126), 0, "ref.go:70", #[⟨8, .data⟩, ⟨3, .data⟩, ⟨7, .chain⟩, ⟨0, .phase⟩, ⟨1, .phase⟩, ⟨2, .phase⟩, ⟨3, .phase⟩, { on := 4, ground := .textOnly Go.Departure.lateStores }, { on := 5, ground := .textOnly Go.Departure.lateStores }, ⟨6, .phase⟩, ⟨7, .phase⟩], none⟩) (by kernel_rfl) (fun K hK => ?_)
   rw [if_pos (by kernel_rfl)]
   go_simp
   rw [Hws1.out]
   refine hK.out _ _ ⟨HE.out.h1⟩ ?_
   clear hK K HC KC y16 f16 Hws1
   have HC := HE
   clear HE
   have KC : Hid (Kc ws1 g1 #[.int .i64 7,.int .i64 i0,.int .i64 i1,.int .i64 i2,.string bu,.string ke,.int .i64 u0,.int .i64 u1,.int .i64 u2,.int .i64 b0,.int .i64 b1,.int .i64 b2,.int .i64 sz,.string et,.int .i64 pt,.slice pa pn pc,.int .i64 tm,.int .i64 dy]) := ⟨HC.out.h1⟩
   try simp only [pG,Act.put]
   refine stk (o := ⟨some 131, .fieldAddr 60 (.tmp 3) 7, 0, "ref.go:70", #[⟨0, .phase⟩, ⟨1, .phase⟩, ⟨2, .phase⟩, ⟨3, .phase⟩, ⟨4, .phase⟩, ⟨5, .phase⟩, ⟨6, .phase⟩, ⟨7, .phase⟩, ⟨8, .phase⟩, ⟨9, .phase⟩], none⟩) (v := .pointer (some ⟨g3, 15, none⟩)) ?_
   simp only [pG,Act.put]
   have y15 : ws1.cell? ⟨g3, 15, none⟩ = some (.slice none 0 0) := HC.out.z 15 _ rfl
   have f15 := HC.out.fz 15
   obtain ⟨ws2, Hws2⟩ := nm ((ws1.setCell ⟨g3, 15, none⟩ (.slice pa pn pc)))
   have HE : Hid (Tw w ws2 g1 g3 #[.int .i64 7,.int .i64 i0,.int .i64 i1,.int .i64 i2,.string bu,.string ke,.int .i64 u0,.int .i64 u1,.int .i64 u2,.int .i64 b0,.int .i64 b1,.int .i64 b2,.int .i64 sz,.string et,.int .i64 pt,.slice pa pn pc,.int .i64 tm,.int .i64 dy] #[.int .i64 7,.int .i64 i0,.int .i64 i1,.int .i64 i2,.string bu,.string ke,.int .i64 u0,.int .i64 u1,.int .i64 u2,.int .i64 0,.int .i64 0,.int .i64 0,.int .i64 0,.string ⟨#[]⟩,.int .i64 0,.slice pa pn pc,.int .i64 tm,.int .i64 0]) := by rw [<- Hws2.out]; exact (tw_set HC.out gne.out gB.out 15 (.slice pa pn pc))
   refine seq_call (o := ⟨none, .store 55 (.tmp 131) (.tmp 128), 0, "ref.go:70", #[⟨10, .data⟩, ⟨5, .data⟩, ⟨9, .chain⟩, ⟨0, .phase⟩, ⟨1, .phase⟩, ⟨2, .phase⟩, ⟨3, .phase⟩, ⟨4, .phase⟩, ⟨5, .phase⟩, ⟨6, .phase⟩, ⟨7, .phase⟩, ⟨8, .phase⟩, ⟨9, .phase⟩], none⟩) (by kernel_rfl) (fun K hK => ?_)
   rw [if_pos (by kernel_rfl)]
   go_simp
   rw [Hws2.out]
   refine hK.out _ _ ⟨HE.out.h1⟩ ?_
   clear hK K HC KC y15 f15 Hws2
   have HC := HE
   clear HE
   have KC : Hid (Kc ws2 g1 #[.int .i64 7,.int .i64 i0,.int .i64 i1,.int .i64 i2,.string bu,.string ke,.int .i64 u0,.int .i64 u1,.int .i64 u2,.int .i64 b0,.int .i64 b1,.int .i64 b2,.int .i64 sz,.string et,.int .i64 pt,.slice pa pn pc,.int .i64 tm,.int .i64 dy]) := ⟨HC.out.h1⟩
   try simp only [pG,Act.put]
   show (Exit.then _ _) .normal _ _
   clear KC
   have HIr : Hid (Irow ws2 0 pa pn ps) := hI.out.keep HC.out.bel.size (fun q _ hq => HC.out.bel.block q hq)
   have hsz := HIr.out.sz
   have HL : Hid (pn = ps.length) := HIr.out.len
   go_upto_region 30 with (fail)
   have x15 : ws2.cell? ⟨g1, 15, none⟩ = some (.slice pa pn pc) := HC.out.c 15 _ rfl
   have SB : Hid ((false && rsP ps 0) = false) := rfl
   go_upto_region 32 with (fail)
   go_wp2
   go_loop [4, 142] (fun t4 t142 => ∃ i : Nat, i <= pn /\ t142 = .int .i64 (i : Int) /\ t4 = .bool (false && rsP ps i)) (fun _ t142 => pn - (intOf t142).toNat)
   case atStart => exact ⟨0, by omega, rfl, by rw [SB.out]⟩
   case round =>
    obtain ⟨i, hi, rfl, rfl⟩ := hrel
    by_cases hlt : i < pn
    . have il : (i : Int) < (pn : Int) := by omega
      have SU : Hid ((false && rsP ps (i + 1)) = ((false && rsP ps i) && (ptP (ps.getD i 0) && decide (lst ps i < ps.getD i 0)))) := by rw [rsP_succ, Bool.and_assoc]; exact (rfl : (_ : Bool) = _)
      obtain ⟨tb, tO, epa, e1⟩ := HIr.out.at_ hlt
      obtain ⟨x, Hx⟩ := nm (ps.getD i 0)
      rw [Hx.out] at e1 SU
      rcases Bool.eq_false_or_eq_true (false && rsP ps i) with hb | hb
      . simp at hb
      . have HB : Hid ((false && rsP ps i) = false) := hb
        clear hb
        rw [HB.out] at SU ⊢
        subst epa
        go_wp2
        go_round
        case rel => exact ⟨i + 1, by omega, by go_num, by rw [SU.out] <;> rfl⟩
        case measure => simp [intOf]; omega
    . obtain rfl : i = pn := by omega
      obtain ⟨okv, Hokv⟩ := nm ((false && rsP ps i))
      have GS : Hid (gdS ps = (rsP ps i && decide (0 < i))) := by show gdS ps = _; unfold gdS; rw [<- HL.out]
      rw [Hokv.out]
      clear hlt hi x15
      go_upto_region 40 with (fail)
      refine chain40 (fun _ _ _ d _ h => by cases d <;> exact h) HC ?_
      intro a' W' q1 q2 q3
      refine (by assumption : ∀ (a : Act) (w : World), Code.wp Tryd.prog Code.ret _ a w -> _) a' W' ?_
      go_wp2
      refine bodyPost_ret (results_tmp Tryd.results45 _ _ _) q2 ?_
      rw [q1]
      refine ⟨congrArg (fun b => Ending.returned (Value.bool b)) ?_, q3⟩
      rw [<- fr7 HG.out hI.out.len, GS.out, <- Hokv.out]
      simp only [Hbn.out, Bool.true_and, Bool.false_and, Bool.and_true, Bool.and_false]
 | true =>
   have x5 : w5.cell? ⟨g1, 5, none⟩ = some (.string ke) := HC.out.c 5 _ rfl
   go_upto_region 13 with (go_at_call 59; refine (refKey_n ke hke _).mono ?_; rintro e w0 ⟨rfl, h0⟩; rw [h0, Hbk.out]; clear h0)
   clear x5
   cases bk with
   | false =>
     have x0 : w5.cell? ⟨g1, 0, none⟩ = some (.int .i64 7) := HC.out.c 0 _ rfl
     go_upto_region 29 with (fail)
     clear x0
     obtain ⟨wd, Hwd⟩ := nm (w5.drew)
     have HE : Hid (Tw w wd g1 g3 #[.int .i64 7,.int .i64 i0,.int .i64 i1,.int .i64 i2,.string bu,.string ke,.int .i64 u0,.int .i64 u1,.int .i64 u2,.int .i64 b0,.int .i64 b1,.int .i64 b2,.int .i64 sz,.string et,.int .i64 pt,.slice pa pn pc,.int .i64 tm,.int .i64 dy] #[.int .i64 7,.int .i64 i0,.int .i64 i1,.int .i64 i2,.string bu,.string ke,.int .i64 0,.int .i64 0,.int .i64 0,.int .i64 0,.int .i64 0,.int .i64 0,.int .i64 0,.string ⟨#[]⟩,.int .i64 0,.slice none 0 0,.int .i64 0,.int .i64 0]) := by rw [<- Hwd.out]; exact HC.out.below (Below.refl _ _).drew
     clear HC
     have HC := HE
     clear HE
     have KC : Hid (Kc wd g1 #[.int .i64 7,.int .i64 i0,.int .i64 i1,.int .i64 i2,.string bu,.string ke,.int .i64 u0,.int .i64 u1,.int .i64 u2,.int .i64 b0,.int .i64 b1,.int .i64 b2,.int .i64 sz,.string et,.int .i64 pt,.slice pa pn pc,.int .i64 tm,.int .i64 dy]) := ⟨HC.out.h1⟩
     refine wp_region_seq (ops := ops29) (C := fun W => Kc W g1 #[.int .i64 7,.int .i64 i0,.int .i64 i1,.int .i64 i2,.string bu,.string ke,.int .i64 u0,.int .i64 u1,.int .i64 u2,.int .i64 b0,.int .i64 b1,.int .i64 b2,.int .i64 sz,.string et,.int .i64 pt,.slice pa pn pc,.int .i64 tm,.int .i64 dy]) [(0, false), (1, false), (2, false), (3, false), (4, false), (5, false), (6, false), (7, true), (8, false), (9, true), (10, false), (11, true)] (by kernel_rfl) (by kernel_rfl) (by rw [Hwd.out]; exact KC.out) ?_
     rw [Hwd.out]
     clear Hwd
     refine stk (o := ⟨some 123, .fieldAddr 60 (.tmp 1) 4, 0, "ref.go:70", #[], none⟩) (v := .pointer (some ⟨g1, 6, none⟩)) ?_
     simp only [pG,Act.put]
     refine sty (o := ⟨some 124, .load 23 (.tmp 123), 23, "ref.go:70", #[⟨0, .data⟩], none⟩) (v := .agg #[.int .i64 u0,.int .i64 u1,.int .i64 u2]) (Or.inl ⟨by kernel_rfl, fun W hW => by have q0 := hW.c 6 _ rfl; have q1 := hW.c 7 _ rfl; have q2 := hW.c 8 _ rfl; go_simp⟩) ?_
     simp only [pG,Act.put]
     refine stk (o := ⟨some 125, .fieldAddr 60 (.tmp 1) 8, 0, "ref.go:70", #[{ on := 7, ground := .gcOnly Go.Departure.lateStores }], none⟩) (v := .pointer (some ⟨g1, 16, none⟩)) ?_
     simp only [pG,Act.put]
     refine sty (o := ⟨some 126, .load 3 (.tmp 125), 3, "ref.go:70", #[⟨2, .data⟩, { on := 7, ground := .gcOnly Go.Departure.lateStores }], none⟩) (v := .int .i64 tm) (Or.inl ⟨by kernel_rfl, fun W hW => by have q0 := hW.c 16 _ rfl; go_simp⟩) ?_
     simp only [pG,Act.put]
     refine stk (o := ⟨some 127, .fieldAddr 60 (.tmp 1) 7, 0, "ref.go:70", #[{ on := 9, ground := .gcOnly Go.Departure.lateStores }], none⟩) (v := .pointer (some ⟨g1, 15, none⟩)) ?_
     simp only [pG,Act.put]
     refine sty (o := ⟨some 128, .load 55 (.tmp 127), 55, "ref.go:70", #[⟨4, .data⟩, { on := 9, ground := .gcOnly Go.Departure.lateStores }], none⟩) (v := .slice pa pn pc) (Or.inl ⟨by kernel_rfl, fun W hW => by have q0 := hW.c 15 _ rfl; go_simp⟩) ?_
     simp only [pG,Act.put]
     refine stk (o := ⟨some 129, .fieldAddr 60 (.tmp 3) 4, 0, "ref.go:70", #[⟨0, .phase⟩, ⟨1, .phase⟩, { on := 2, ground := .textOnly Go.Departure.lateStores }, { on := 3, ground := .textOnly Go.Departure.lateStores }, { on := 4, ground := .textOnly Go.Departure.lateStores }, { on := 5, ground := .textOnly Go.Departure.lateStores }], none⟩) (v := .pointer (some ⟨g3, 6, none⟩)) ?_
     simp only [pG,Act.put]
     have y6 : wd.cell? ⟨g3, 6, none⟩ = some (.int .i64 0) := HC.out.z 6 _ rfl
     have f6 := HC.out.fz 6
     have y7 : wd.cell? ⟨g3, 7, none⟩ = some (.int .i64 0) := HC.out.z 7 _ rfl
     have f7 := HC.out.fz 7
     have y8 : wd.cell? ⟨g3, 8, none⟩ = some (.int .i64 0) := HC.out.z 8 _ rfl
     have f8 := HC.out.fz 8
     obtain ⟨ws0, Hws0⟩ := nm ((((wd.setCell ⟨g3, 6, none⟩ (.int .i64 u0)).setCell ⟨g3, 7, none⟩ (.int .i64 u1)).setCell ⟨g3, 8, none⟩ (.int .i64 u2)))
     have HE : Hid (Tw w ws0 g1 g3 #[.int .i64 7,.int .i64 i0,.int .i64 i1,.int .i64 i2,.string bu,.string ke,.int .i64 u0,.int .i64 u1,.int .i64 u2,.int .i64 b0,.int .i64 b1,.int .i64 b2,.int .i64 sz,.string et,.int .i64 pt,.slice pa pn pc,.int .i64 tm,.int .i64 dy] #[.int .i64 7,.int .i64 i0,.int .i64 i1,.int .i64 i2,.string bu,.string ke,.int .i64 u0,.int .i64 u1,.int .i64 u2,.int .i64 0,.int .i64 0,.int .i64 0,.int .i64 0,.string ⟨#[]⟩,.int .i64 0,.slice none 0 0,.int .i64 0,.int .i64 0]) := by rw [<- Hws0.out]; exact (tw_set (tw_set (tw_set HC.out gne.out gB.out 6 (.int .i64 u0)) gne.out gB.out 7 (.int .i64 u1)) gne.out gB.out 8 (.int .i64 u2))
     refine seq_call (o := ⟨none, .store 23 (.tmp 129) (.tmp 124), 0, "ref.go:70", #[⟨6, .data⟩, ⟨1, .data⟩, ⟨0, .phase⟩, ⟨1, .phase⟩, { on := 2, ground := .textOnly Go.Departure.lateStores }, { on := 3, ground := .textOnly Go.Departure.lateStores }, { on := 4, ground := .textOnly Go.Departure.lateStores }, { on := 5, ground := .textOnly Go.Departure.lateStores }], none⟩) (by kernel_rfl) (fun K hK => ?_)
     rw [if_pos (by kernel_rfl)]
     go_simp
     rw [Hws0.out]
     refine hK.out _ _ ⟨HE.out.h1⟩ ?_
     clear hK K HC KC y6 f6 y7 f7 y8 f8 Hws0
     have HC := HE
     clear HE
     have KC : Hid (Kc ws0 g1 #[.int .i64 7,.int .i64 i0,.int .i64 i1,.int .i64 i2,.string bu,.string ke,.int .i64 u0,.int .i64 u1,.int .i64 u2,.int .i64 b0,.int .i64 b1,.int .i64 b2,.int .i64 sz,.string et,.int .i64 pt,.slice pa pn pc,.int .i64 tm,.int .i64 dy]) := ⟨HC.out.h1⟩
     try simp only [pG,Act.put]
     refine stk (o := ⟨some 130, .fieldAddr 60 (.tmp 3) 8, 0, "ref.go:70", #[⟨0, .phase⟩, ⟨1, .phase⟩, ⟨2, .phase⟩, ⟨3, .phase⟩, { on := 4, ground := .textOnly Go.Departure.lateStores }, { on := 5, ground := .textOnly Go.Departure.lateStores }, ⟨6, .phase⟩, ⟨7, .phase⟩], none⟩) (v := .pointer (some ⟨g3, 16, none⟩)) ?_
     simp only [pG,Act.put]
     have y16 : ws0.cell? ⟨g3, 16, none⟩ = some (.int .i64 0) := HC.out.z 16 _ rfl
     have f16 := HC.out.fz 16
     obtain ⟨ws1, Hws1⟩ := nm ((ws0.setCell ⟨g3, 16, none⟩ (.int .i64 tm)))
     have HE : Hid (Tw w ws1 g1 g3 #[.int .i64 7,.int .i64 i0,.int .i64 i1,.int .i64 i2,.string bu,.string ke,.int .i64 u0,.int .i64 u1,.int .i64 u2,.int .i64 b0,.int .i64 b1,.int .i64 b2,.int .i64 sz,.string et,.int .i64 pt,.slice pa pn pc,.int .i64 tm,.int .i64 dy] #[.int .i64 7,.int .i64 i0,.int .i64 i1,.int .i64 i2,.string bu,.string ke,.int .i64 u0,.int .i64 u1,.int .i64 u2,.int .i64 0,.int .i64 0,.int .i64 0,.int .i64 0,.string ⟨#[]⟩,.int .i64 0,.slice none 0 0,.int .i64 tm,.int .i64 0]) := by rw [<- Hws1.out]; exact (tw_set HC.out gne.out gB.out 16 (.int .i64 tm))
     refine seq_call (o := ⟨none, .store 3 (.tmp 130) (.tmp 126), 0, "ref.go:70", #[⟨8, .data⟩, ⟨3, .data⟩, ⟨7, .chain⟩, ⟨0, .phase⟩, ⟨1, .phase⟩, ⟨2, .phase⟩, ⟨3, .phase⟩, { on := 4, ground := .textOnly Go.Departure.lateStores }, { on := 5, ground := .textOnly Go.Departure.lateStores }, ⟨6, .phase⟩, ⟨7, .phase⟩], none⟩) (by kernel_rfl) (fun K hK => ?_)
     rw [if_pos (by kernel_rfl)]
     go_simp
     rw [Hws1.out]
     refine hK.out _ _ ⟨HE.out.h1⟩ ?_
     clear hK K HC KC y16 f16 Hws1
     have HC := HE
     clear HE
     have KC : Hid (Kc ws1 g1 #[.int .i64 7,.int .i64 i0,.int .i64 i1,.int .i64 i2,.string bu,.string ke,.int .i64 u0,.int .i64 u1,.int .i64 u2,.int .i64 b0,.int .i64 b1,.int .i64 b2,.int .i64 sz,.string et,.int .i64 pt,.slice pa pn pc,.int .i64 tm,.int .i64 dy]) := ⟨HC.out.h1⟩
     try simp only [pG,Act.put]
     refine stk (o := ⟨some 131, .fieldAddr 60 (.tmp 3) 7, 0, "ref.go:70", #[⟨0, .phase⟩, ⟨1, .phase⟩, ⟨2, .phase⟩, ⟨3, .phase⟩, ⟨4, .phase⟩, ⟨5, .phase⟩, ⟨6, .phase⟩, ⟨7, .phase⟩, ⟨8, .phase⟩, ⟨9, .phase⟩], none⟩) (v := .pointer (some ⟨g3, 15, none⟩)) ?_
     simp only [pG,Act.put]
     have y15 : ws1.cell? ⟨g3, 15, none⟩ = some (.slice none 0 0) := HC.out.z 15 _ rfl
     have f15 := HC.out.fz 15
     obtain ⟨ws2, Hws2⟩ := nm ((ws1.setCell ⟨g3, 15, none⟩ (.slice pa pn pc)))
     have HE : Hid (Tw w ws2 g1 g3 #[.int .i64 7,.int .i64 i0,.int .i64 i1,.int .i64 i2,.string bu,.string ke,.int .i64 u0,.int .i64 u1,.int .i64 u2,.int .i64 b0,.int .i64 b1,.int .i64 b2,.int .i64 sz,.string et,.int .i64 pt,.slice pa pn pc,.int .i64 tm,.int .i64 dy] #[.int .i64 7,.int .i64 i0,.int .i64 i1,.int .i64 i2,.string bu,.string ke,.int .i64 u0,.int .i64 u1,.int .i64 u2,.int .i64 0,.int .i64 0,.int .i64 0,.int .i64 0,.string ⟨#[]⟩,.int .i64 0,.slice pa pn pc,.int .i64 tm,.int .i64 0]) := by rw [<- Hws2.out]; exact (tw_set HC.out gne.out gB.out 15 (.slice pa pn pc))
     refine seq_call (o := ⟨none, .store 55 (.tmp 131) (.tmp 128), 0, "ref.go:70", #[⟨10, .data⟩, ⟨5, .data⟩, ⟨9, .chain⟩, ⟨0, .phase⟩, ⟨1, .phase⟩, ⟨2, .phase⟩, ⟨3, .phase⟩, ⟨4, .phase⟩, ⟨5, .phase⟩, ⟨6, .phase⟩, ⟨7, .phase⟩, ⟨8, .phase⟩, ⟨9, .phase⟩], none⟩) (by kernel_rfl) (fun K hK => ?_)
     rw [if_pos (by kernel_rfl)]
     go_simp
     rw [Hws2.out]
     refine hK.out _ _ ⟨HE.out.h1⟩ ?_
     clear hK K HC KC y15 f15 Hws2
     have HC := HE
     clear HE
     have KC : Hid (Kc ws2 g1 #[.int .i64 7,.int .i64 i0,.int .i64 i1,.int .i64 i2,.string bu,.string ke,.int .i64 u0,.int .i64 u1,.int .i64 u2,.int .i64 b0,.int .i64 b1,.int .i64 b2,.int .i64 sz,.string et,.int .i64 pt,.slice pa pn pc,.int .i64 tm,.int .i64 dy]) := ⟨HC.out.h1⟩
     try simp only [pG,Act.put]
     show (Exit.then _ _) .normal _ _
     clear KC
     have HIr : Hid (Irow ws2 0 pa pn ps) := hI.out.keep HC.out.bel.size (fun q _ hq => HC.out.bel.block q hq)
     have hsz := HIr.out.sz
     have HL : Hid (pn = ps.length) := HIr.out.len
     go_upto_region 30 with (fail)
     have x15 : ws2.cell? ⟨g1, 15, none⟩ = some (.slice pa pn pc) := HC.out.c 15 _ rfl
     have SB : Hid ((false && rsP ps 0) = false) := rfl
     go_upto_region 32 with (fail)
     go_wp2
     go_loop [4, 142] (fun t4 t142 => ∃ i : Nat, i <= pn /\ t142 = .int .i64 (i : Int) /\ t4 = .bool (false && rsP ps i)) (fun _ t142 => pn - (intOf t142).toNat)
     case atStart => exact ⟨0, by omega, rfl, by rw [SB.out]⟩
     case round =>
      obtain ⟨i, hi, rfl, rfl⟩ := hrel
      by_cases hlt : i < pn
      . have il : (i : Int) < (pn : Int) := by omega
        have SU : Hid ((false && rsP ps (i + 1)) = ((false && rsP ps i) && (ptP (ps.getD i 0) && decide (lst ps i < ps.getD i 0)))) := by rw [rsP_succ, Bool.and_assoc]; exact (rfl : (_ : Bool) = _)
        obtain ⟨tb, tO, epa, e1⟩ := HIr.out.at_ hlt
        obtain ⟨x, Hx⟩ := nm (ps.getD i 0)
        rw [Hx.out] at e1 SU
        rcases Bool.eq_false_or_eq_true (false && rsP ps i) with hb | hb
        . simp at hb
        . have HB : Hid ((false && rsP ps i) = false) := hb
          clear hb
          rw [HB.out] at SU ⊢
          subst epa
          go_wp2
          go_round
          case rel => exact ⟨i + 1, by omega, by go_num, by rw [SU.out] <;> rfl⟩
          case measure => simp [intOf]; omega
      . obtain rfl : i = pn := by omega
        obtain ⟨okv, Hokv⟩ := nm ((false && rsP ps i))
        have GS : Hid (gdS ps = (rsP ps i && decide (0 < i))) := by show gdS ps = _; unfold gdS; rw [<- HL.out]
        rw [Hokv.out]
        clear hlt hi x15
        go_upto_region 40 with (fail)
        refine chain40 (fun _ _ _ d _ h => by cases d <;> exact h) HC ?_
        intro a' W' q1 q2 q3
        refine (by assumption : ∀ (a : Act) (w : World), Code.wp Tryd.prog Code.ret _ a w -> _) a' W' ?_
        go_wp2
        refine bodyPost_ret (results_tmp Tryd.results45 _ _ _) q2 ?_
        rw [q1]
        refine ⟨congrArg (fun b => Ending.returned (Value.bool b)) ?_, q3⟩
        rw [<- fr7 HG.out hI.out.len, GS.out, <- Hokv.out]
        simp only [Hbn.out, Hbk.out, Bool.true_and, Bool.false_and, Bool.and_true, Bool.and_false]
   | true =>
     have x0 : w5.cell? ⟨g1, 0, none⟩ = some (.int .i64 7) := HC.out.c 0 _ rfl
     go_upto_region 29 with (fail)
     clear x0
     obtain ⟨wd, Hwd⟩ := nm (w5.drew)
     have HE : Hid (Tw w wd g1 g3 #[.int .i64 7,.int .i64 i0,.int .i64 i1,.int .i64 i2,.string bu,.string ke,.int .i64 u0,.int .i64 u1,.int .i64 u2,.int .i64 b0,.int .i64 b1,.int .i64 b2,.int .i64 sz,.string et,.int .i64 pt,.slice pa pn pc,.int .i64 tm,.int .i64 dy] #[.int .i64 7,.int .i64 i0,.int .i64 i1,.int .i64 i2,.string bu,.string ke,.int .i64 0,.int .i64 0,.int .i64 0,.int .i64 0,.int .i64 0,.int .i64 0,.int .i64 0,.string ⟨#[]⟩,.int .i64 0,.slice none 0 0,.int .i64 0,.int .i64 0]) := by rw [<- Hwd.out]; exact HC.out.below (Below.refl _ _).drew
     clear HC
     have HC := HE
     clear HE
     have KC : Hid (Kc wd g1 #[.int .i64 7,.int .i64 i0,.int .i64 i1,.int .i64 i2,.string bu,.string ke,.int .i64 u0,.int .i64 u1,.int .i64 u2,.int .i64 b0,.int .i64 b1,.int .i64 b2,.int .i64 sz,.string et,.int .i64 pt,.slice pa pn pc,.int .i64 tm,.int .i64 dy]) := ⟨HC.out.h1⟩
     refine wp_region_seq (ops := ops29) (C := fun W => Kc W g1 #[.int .i64 7,.int .i64 i0,.int .i64 i1,.int .i64 i2,.string bu,.string ke,.int .i64 u0,.int .i64 u1,.int .i64 u2,.int .i64 b0,.int .i64 b1,.int .i64 b2,.int .i64 sz,.string et,.int .i64 pt,.slice pa pn pc,.int .i64 tm,.int .i64 dy]) [(0, false), (1, false), (2, false), (3, false), (4, false), (5, false), (6, false), (7, true), (8, false), (9, true), (10, false), (11, true)] (by kernel_rfl) (by kernel_rfl) (by rw [Hwd.out]; exact KC.out) ?_
     rw [Hwd.out]
     clear Hwd
     refine stk (o := ⟨some 123, .fieldAddr 60 (.tmp 1) 4, 0, "ref.go:70", #[], none⟩) (v := .pointer (some ⟨g1, 6, none⟩)) ?_
     simp only [pG,Act.put]
     refine sty (o := ⟨some 124, .load 23 (.tmp 123), 23, "ref.go:70", #[⟨0, .data⟩], none⟩) (v := .agg #[.int .i64 u0,.int .i64 u1,.int .i64 u2]) (Or.inl ⟨by kernel_rfl, fun W hW => by have q0 := hW.c 6 _ rfl; have q1 := hW.c 7 _ rfl; have q2 := hW.c 8 _ rfl; go_simp⟩) ?_
     simp only [pG,Act.put]
     refine stk (o := ⟨some 125, .fieldAddr 60 (.tmp 1) 8, 0, "ref.go:70", #[{ on := 7, ground := .gcOnly Go.Departure.lateStores }], none⟩) (v := .pointer (some ⟨g1, 16, none⟩)) ?_
     simp only [pG,Act.put]
     refine sty (o := ⟨some 126, .load 3 (.tmp 125), 3, "ref.go:70", #[⟨2, .data⟩, { on := 7, ground := .gcOnly Go.Departure.lateStores }], none⟩) (v := .int .i64 tm) (Or.inl ⟨by kernel_rfl, fun W hW => by have q0 := hW.c 16 _ rfl; go_simp⟩) ?_
     simp only [pG,Act.put]
     refine stk (o := ⟨some 127, .fieldAddr 60 (.tmp 1) 7, 0, "ref.go:70", #[{ on := 9, ground := .gcOnly Go.Departure.lateStores }], none⟩) (v := .pointer (some ⟨g1, 15, none⟩)) ?_
     simp only [pG,Act.put]
     refine sty (o := ⟨some 128, .load 55 (.tmp 127), 55, "ref.go:70", #[⟨4, .data⟩, { on := 9, ground := .gcOnly Go.Departure.lateStores }], none⟩) (v := .slice pa pn pc) (Or.inl ⟨by kernel_rfl, fun W hW => by have q0 := hW.c 15 _ rfl; go_simp⟩) ?_
     simp only [pG,Act.put]
     refine stk (o := ⟨some 129, .fieldAddr 60 (.tmp 3) 4, 0, "ref.go:70", #[⟨0, .phase⟩, ⟨1, .phase⟩, { on := 2, ground := .textOnly Go.Departure.lateStores }, { on := 3, ground := .textOnly Go.Departure.lateStores }, { on := 4, ground := .textOnly Go.Departure.lateStores }, { on := 5, ground := .textOnly Go.Departure.lateStores }], none⟩) (v := .pointer (some ⟨g3, 6, none⟩)) ?_
     simp only [pG,Act.put]
     have y6 : wd.cell? ⟨g3, 6, none⟩ = some (.int .i64 0) := HC.out.z 6 _ rfl
     have f6 := HC.out.fz 6
     have y7 : wd.cell? ⟨g3, 7, none⟩ = some (.int .i64 0) := HC.out.z 7 _ rfl
     have f7 := HC.out.fz 7
     have y8 : wd.cell? ⟨g3, 8, none⟩ = some (.int .i64 0) := HC.out.z 8 _ rfl
     have f8 := HC.out.fz 8
     obtain ⟨ws0, Hws0⟩ := nm ((((wd.setCell ⟨g3, 6, none⟩ (.int .i64 u0)).setCell ⟨g3, 7, none⟩ (.int .i64 u1)).setCell ⟨g3, 8, none⟩ (.int .i64 u2)))
     have HE : Hid (Tw w ws0 g1 g3 #[.int .i64 7,.int .i64 i0,.int .i64 i1,.int .i64 i2,.string bu,.string ke,.int .i64 u0,.int .i64 u1,.int .i64 u2,.int .i64 b0,.int .i64 b1,.int .i64 b2,.int .i64 sz,.string et,.int .i64 pt,.slice pa pn pc,.int .i64 tm,.int .i64 dy] #[.int .i64 7,.int .i64 i0,.int .i64 i1,.int .i64 i2,.string bu,.string ke,.int .i64 u0,.int .i64 u1,.int .i64 u2,.int .i64 0,.int .i64 0,.int .i64 0,.int .i64 0,.string ⟨#[]⟩,.int .i64 0,.slice none 0 0,.int .i64 0,.int .i64 0]) := by rw [<- Hws0.out]; exact (tw_set (tw_set (tw_set HC.out gne.out gB.out 6 (.int .i64 u0)) gne.out gB.out 7 (.int .i64 u1)) gne.out gB.out 8 (.int .i64 u2))
     refine seq_call (o := ⟨none, .store 23 (.tmp 129) (.tmp 124), 0, "ref.go:70", #[⟨6, .data⟩, ⟨1, .data⟩, ⟨0, .phase⟩, ⟨1, .phase⟩, { on := 2, ground := .textOnly Go.Departure.lateStores }, { on := 3, ground := .textOnly Go.Departure.lateStores }, { on := 4, ground := .textOnly Go.Departure.lateStores }, { on := 5, ground := .textOnly Go.Departure.lateStores }], none⟩) (by kernel_rfl) (fun K hK => ?_)
     rw [if_pos (by kernel_rfl)]
     go_simp
     rw [Hws0.out]
     refine hK.out _ _ ⟨HE.out.h1⟩ ?_
     clear hK K HC KC y6 f6 y7 f7 y8 f8 Hws0
     have HC := HE
     clear HE
     have KC : Hid (Kc ws0 g1 #[.int .i64 7,.int .i64 i0,.int .i64 i1,.int .i64 i2,.string bu,.string ke,.int .i64 u0,.int .i64 u1,.int .i64 u2,.int .i64 b0,.int .i64 b1,.int .i64 b2,.int .i64 sz,.string et,.int .i64 pt,.slice pa pn pc,.int .i64 tm,.int .i64 dy]) := ⟨HC.out.h1⟩
     try simp only [pG,Act.put]
     refine stk (o := ⟨some 130, .fieldAddr 60 (.tmp 3) 8, 0, "ref.go:70", #[⟨0, .phase⟩, ⟨1, .phase⟩, ⟨2, .phase⟩, ⟨3, .phase⟩, { on := 4, ground := .textOnly Go.Departure.lateStores }, { on := 5, ground := .textOnly Go.Departure.lateStores }, ⟨6, .phase⟩, ⟨7, .phase⟩], none⟩) (v := .pointer (some ⟨g3, 16, none⟩)) ?_
     simp only [pG,Act.put]
     have y16 : ws0.cell? ⟨g3, 16, none⟩ = some (.int .i64 0) := HC.out.z 16 _ rfl
     have f16 := HC.out.fz 16
     obtain ⟨ws1, Hws1⟩ := nm ((ws0.setCell ⟨g3, 16, none⟩ (.int .i64 tm)))
     have HE : Hid (Tw w ws1 g1 g3 #[.int .i64 7,.int .i64 i0,.int .i64 i1,.int .i64 i2,.string bu,.string ke,.int .i64 u0,.int .i64 u1,.int .i64 u2,.int .i64 b0,.int .i64 b1,.int .i64 b2,.int .i64 sz,.string et,.int .i64 pt,.slice pa pn pc,.int .i64 tm,.int .i64 dy] #[.int .i64 7,.int .i64 i0,.int .i64 i1,.int .i64 i2,.string bu,.string ke,.int .i64 u0,.int .i64 u1,.int .i64 u2,.int .i64 0,.int .i64 0,.int .i64 0,.int .i64 0,.string ⟨#[]⟩,.int .i64 0,.slice none 0 0,.int .i64 tm,.int .i64 0]) := by rw [<- Hws1.out]; exact (tw_set HC.out gne.out gB.out 16 (.int .i64 tm))
     refine seq_call (o := ⟨none, .store 3 (.tmp 130) (.tmp 126), 0, "ref.go:70", #[⟨8, .data⟩, ⟨3, .data⟩, ⟨7, .chain⟩, ⟨0, .phase⟩, ⟨1, .phase⟩, ⟨2, .phase⟩, ⟨3, .phase⟩, { on := 4, ground := .textOnly Go.Departure.lateStores }, { on := 5, ground := .textOnly Go.Departure.lateStores }, ⟨6, .phase⟩, ⟨7, .phase⟩], none⟩) (by kernel_rfl) (fun K hK => ?_)
     rw [if_pos (by kernel_rfl)]
     go_simp
     rw [Hws1.out]
     refine hK.out _ _ ⟨HE.out.h1⟩ ?_
     clear hK K HC KC y16 f16 Hws1
     have HC := HE
     clear HE
     have KC : Hid (Kc ws1 g1 #[.int .i64 7,.int .i64 i0,.int .i64 i1,.int .i64 i2,.string bu,.string ke,.int .i64 u0,.int .i64 u1,.int .i64 u2,.int .i64 b0,.int .i64 b1,.int .i64 b2,.int .i64 sz,.string et,.int .i64 pt,.slice pa pn pc,.int .i64 tm,.int .i64 dy]) := ⟨HC.out.h1⟩
     try simp only [pG,Act.put]
     refine stk (o := ⟨some 131, .fieldAddr 60 (.tmp 3) 7, 0, "ref.go:70", #[⟨0, .phase⟩, ⟨1, .phase⟩, ⟨2, .phase⟩, ⟨3, .phase⟩, ⟨4, .phase⟩, ⟨5, .phase⟩, ⟨6, .phase⟩, ⟨7, .phase⟩, ⟨8, .phase⟩, ⟨9, .phase⟩], none⟩) (v := .pointer (some ⟨g3, 15, none⟩)) ?_
     simp only [pG,Act.put]
     have y15 : ws1.cell? ⟨g3, 15, none⟩ = some (.slice none 0 0) := HC.out.z 15 _ rfl
     have f15 := HC.out.fz 15
     obtain ⟨ws2, Hws2⟩ := nm ((ws1.setCell ⟨g3, 15, none⟩ (.slice pa pn pc)))
     have HE : Hid (Tw w ws2 g1 g3 #[.int .i64 7,.int .i64 i0,.int .i64 i1,.int .i64 i2,.string bu,.string ke,.int .i64 u0,.int .i64 u1,.int .i64 u2,.int .i64 b0,.int .i64 b1,.int .i64 b2,.int .i64 sz,.string et,.int .i64 pt,.slice pa pn pc,.int .i64 tm,.int .i64 dy] #[.int .i64 7,.int .i64 i0,.int .i64 i1,.int .i64 i2,.string bu,.string ke,.int .i64 u0,.int .i64 u1,.int .i64 u2,.int .i64 0,.int .i64 0,.int .i64 0,.int .i64 0,.string ⟨#[]⟩,.int .i64 0,.slice pa pn pc,.int .i64 tm,.int .i64 0]) := by rw [<- Hws2.out]; exact (tw_set HC.out gne.out gB.out 15 (.slice pa pn pc))
     refine seq_call (o := ⟨none, .store 55 (.tmp 131) (.tmp 128), 0, "ref.go:70", #[⟨10, .data⟩, ⟨5, .data⟩, ⟨9, .chain⟩, ⟨0, .phase⟩, ⟨1, .phase⟩, ⟨2, .phase⟩, ⟨3, .phase⟩, ⟨4, .phase⟩, ⟨5, .phase⟩, ⟨6, .phase⟩, ⟨7, .phase⟩, ⟨8, .phase⟩, ⟨9, .phase⟩], none⟩) (by kernel_rfl) (fun K hK => ?_)
     rw [if_pos (by kernel_rfl)]
     go_simp
     rw [Hws2.out]
     refine hK.out _ _ ⟨HE.out.h1⟩ ?_
     clear hK K HC KC y15 f15 Hws2
     have HC := HE
     clear HE
     have KC : Hid (Kc ws2 g1 #[.int .i64 7,.int .i64 i0,.int .i64 i1,.int .i64 i2,.string bu,.string ke,.int .i64 u0,.int .i64 u1,.int .i64 u2,.int .i64 b0,.int .i64 b1,.int .i64 b2,.int .i64 sz,.string et,.int .i64 pt,.slice pa pn pc,.int .i64 tm,.int .i64 dy]) := ⟨HC.out.h1⟩
     try simp only [pG,Act.put]
     show (Exit.then _ _) .normal _ _
     clear KC
     have HIr : Hid (Irow ws2 0 pa pn ps) := hI.out.keep HC.out.bel.size (fun q _ hq => HC.out.bel.block q hq)
     have hsz := HIr.out.sz
     have HL : Hid (pn = ps.length) := HIr.out.len
     go_upto_region 30 with (fail)
     have x15 : ws2.cell? ⟨g1, 15, none⟩ = some (.slice pa pn pc) := HC.out.c 15 _ rfl
     by_cases hp : 0 < pn
     . have hp1 : (0 : Int) < (pn : Int) := by omega
       have SB : Hid ((true && rsP ps 0) = true) := rfl
       go_upto_region 32 with (fail)
       have HP : Hid (decide (0 < pn) = true) := decide_eq_true hp
       clear hp1
       go_wp2
       go_loop [4, 142] (fun t4 t142 => ∃ i : Nat, i <= pn /\ t142 = .int .i64 (i : Int) /\ t4 = .bool (true && rsP ps i)) (fun _ t142 => pn - (intOf t142).toNat)
       case atStart => exact ⟨0, by omega, rfl, by rw [SB.out]⟩
       case round =>
        obtain ⟨i, hi, rfl, rfl⟩ := hrel
        by_cases hlt : i < pn
        . have il : (i : Int) < (pn : Int) := by omega
          have SU : Hid ((true && rsP ps (i + 1)) = ((true && rsP ps i) && (ptP (ps.getD i 0) && decide (lst ps i < ps.getD i 0)))) := by rw [rsP_succ, Bool.and_assoc]; exact (rfl : (_ : Bool) = _)
          obtain ⟨tb, tO, epa, e1⟩ := HIr.out.at_ hlt
          obtain ⟨x, Hx⟩ := nm (ps.getD i 0)
          rw [Hx.out] at e1 SU
          rcases Bool.eq_false_or_eq_true (true && rsP ps i) with hb | hb
          . have HB : Hid ((true && rsP ps i) = true) := hb
            clear hb
            rw [HB.out] at SU ⊢
            rcases (show ¬ (1 <= x) ∨ (1 <= x /\ ¬ (x <= 16)) ∨ (1 <= x /\ x <= 16) by omega) with j1 | ⟨j1, j2⟩ | ⟨j1, j2⟩
            . have RV : Hid (ptP x = false) := decide_eq_false (by omega)
              subst epa
              go_wp2
              go_round
              case rel => exact ⟨i + 1, by omega, by go_num, by rw [SU.out, RV.out] <;> rfl⟩
              case measure => simp [intOf]; omega
            . have RV : Hid (ptP x = false) := decide_eq_false (by omega)
              subst epa
              go_wp2
              go_round
              case rel => exact ⟨i + 1, by omega, by go_num, by rw [SU.out, RV.out] <;> rfl⟩
              case measure => simp [intOf]; omega
            . have RV : Hid (ptP x = true) := decide_eq_true (by omega)
              rw [RV.out, Bool.true_and, Bool.true_and] at SU
              by_cases h0 : i = 0
              . have j0 : ((i : Int) == 0) = true := by simp [h0]
                have RW : Hid (decide (lst ps i < x) = true) := by
                   have e : lst ps i < x := by rw [h0]; show (0 : Int) < x; omega
                   exact decide_eq_true e
                clear h0
                subst epa
                go_wp2
                go_round
                case rel => exact ⟨i + 1, by omega, by go_num, by rw [SU.out, RW.out] <;> rfl⟩
                case measure => simp [intOf]; omega
              . obtain ⟨j, rfl⟩ : ∃ j, i = j + 1 := ⟨i - 1, by omega⟩
                obtain ⟨tb2, tO2, epa2, e2⟩ := HIr.out.at_ (i := j) (by omega)
                obtain ⟨y, Hy⟩ := nm (ps.getD j 0)
                rw [Hy.out] at e2
                have LY : Hid (lst ps (j + 1) = y) := Hy.out
                rw [LY.out] at SU
                subst epa
                simp only [Option.some.injEq, Addr.mk.injEq, and_true] at epa2
                obtain ⟨rfl, rfl⟩ := epa2
                have j3 : ((j : Int) + 1 == 0) = false := by simp; omega
                have il2 : (j : Int) + 1 < (pn : Int) := by omega
                have j4 : ((j : Int) + 1 - 1) = (j : Int) := by omega
                have j5 : (j : Int) < (pn : Int) := by omega
                by_cases hxy : y < x
                . have RW : Hid (decide (y < x) = true) := decide_eq_true hxy
                  go_wp2
                  go_round
                  case rel => exact ⟨j + 1 + 1, by omega, by go_num, by rw [SU.out, RW.out] <;> rfl⟩
                  case measure => simp [intOf]; omega
                . have RW : Hid (decide (y < x) = false) := decide_eq_false hxy
                  go_wp2
                  go_round
                  case rel => exact ⟨j + 1 + 1, by omega, by go_num, by rw [SU.out, RW.out] <;> rfl⟩
                  case measure => simp [intOf]; omega
          . have HB : Hid ((true && rsP ps i) = false) := hb
            clear hb
            rw [HB.out] at SU ⊢
            subst epa
            go_wp2
            go_round
            case rel => exact ⟨i + 1, by omega, by go_num, by rw [SU.out] <;> rfl⟩
            case measure => simp [intOf]; omega
        . obtain rfl : i = pn := by omega
          obtain ⟨okv, Hokv⟩ := nm ((true && rsP ps i))
          have GS : Hid (gdS ps = (rsP ps i && decide (0 < i))) := by show gdS ps = _; unfold gdS; rw [<- HL.out]
          rw [Hokv.out]
          clear hlt hi x15
          go_upto_region 40 with (fail)
          refine chain40 (fun _ _ _ d _ h => by cases d <;> exact h) HC ?_
          intro a' W' q1 q2 q3
          refine (by assumption : ∀ (a : Act) (w : World), Code.wp Tryd.prog Code.ret _ a w -> _) a' W' ?_
          go_wp2
          refine bodyPost_ret (results_tmp Tryd.results45 _ _ _) q2 ?_
          rw [q1]
          refine ⟨congrArg (fun b => Ending.returned (Value.bool b)) ?_, q3⟩
          rw [<- fr7 HG.out hI.out.len, GS.out, <- Hokv.out]
          simp only [Hbn.out, Hbk.out, HP.out, Bool.true_and, Bool.false_and, Bool.and_true, Bool.and_false]
     . have hp1 : ¬ ((0 : Int) < (pn : Int)) := by omega
       have SB : Hid ((false && rsP ps 0) = false) := rfl
       go_upto_region 32 with (fail)
       have HP : Hid (decide (0 < pn) = false) := decide_eq_false (by omega)
       clear hp1
       go_wp2
       go_loop [4, 142] (fun t4 t142 => ∃ i : Nat, i <= pn /\ t142 = .int .i64 (i : Int) /\ t4 = .bool (false && rsP ps i)) (fun _ t142 => pn - (intOf t142).toNat)
       case atStart => exact ⟨0, by omega, rfl, by rw [SB.out]⟩
       case round =>
        obtain ⟨i, hi, rfl, rfl⟩ := hrel
        by_cases hlt : i < pn
        . have il : (i : Int) < (pn : Int) := by omega
          have SU : Hid ((false && rsP ps (i + 1)) = ((false && rsP ps i) && (ptP (ps.getD i 0) && decide (lst ps i < ps.getD i 0)))) := by rw [rsP_succ, Bool.and_assoc]; exact (rfl : (_ : Bool) = _)
          obtain ⟨tb, tO, epa, e1⟩ := HIr.out.at_ hlt
          obtain ⟨x, Hx⟩ := nm (ps.getD i 0)
          rw [Hx.out] at e1 SU
          rcases Bool.eq_false_or_eq_true (false && rsP ps i) with hb | hb
          . simp at hb
          . have HB : Hid ((false && rsP ps i) = false) := hb
            clear hb
            rw [HB.out] at SU ⊢
            subst epa
            go_wp2
            go_round
            case rel => exact ⟨i + 1, by omega, by go_num, by rw [SU.out] <;> rfl⟩
            case measure => simp [intOf]; omega
        . obtain rfl : i = pn := by omega
          obtain ⟨okv, Hokv⟩ := nm ((false && rsP ps i))
          have GS : Hid (gdS ps = (rsP ps i && decide (0 < i))) := by show gdS ps = _; unfold gdS; rw [<- HL.out]
          rw [Hokv.out]
          clear hlt hi x15
          go_upto_region 40 with (fail)
          refine chain40 (fun _ _ _ d _ h => by cases d <;> exact h) HC ?_
          intro a' W' q1 q2 q3
          refine (by assumption : ∀ (a : Act) (w : World), Code.wp Tryd.prog Code.ret _ a w -> _) a' W' ?_
          go_wp2
          refine bodyPost_ret (results_tmp Tryd.results45 _ _ _) q2 ?_
          rw [q1]
          refine ⟨congrArg (fun b => Ending.returned (Value.bool b)) ?_, q3⟩
          rw [<- fr7 HG.out hI.out.len, GS.out, <- Hokv.out]
          simp only [Hbn.out, Hbk.out, HP.out, Bool.true_and, Bool.false_and, Bool.and_true, Bool.and_false]
end Go.Proofs.YtppibcambhmomaaDoor
