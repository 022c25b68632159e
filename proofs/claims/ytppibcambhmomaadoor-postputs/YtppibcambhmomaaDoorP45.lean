import Derived.Test.YtppibcambhmomaaDoorPp
import Derived.Test.YtppibcambhmomaaDoorP36
import Derived.Test.YtppibcambhmomaaDoorP37
import Derived.Test.YtppibcambhmomaaDoorP38
import Derived.Test.YtppibcambhmomaaDoorP39
import Derived.Test.YtppibcambhmomaaDoorP40
import Derived.Test.YtppibcambhmomaaDoorP41
import Derived.Test.YtppibcambhmomaaDoorP42
import Derived.Test.YtppibcambhmomaaDoorP43
import Derived.Test.YtppibcambhmomaaDoorP44
namespace Go.Proofs.YtppibcambhmomaaDoor
open Go.ChangeShapes Go.WideShapes Go.ChangeAt Go.RowKit
set_option maxRecDepth 20000
set_option linter.unusedVariables false
set_option linter.unusedSimpArgs false
set_option maxHeartbeats 8000000 in
theorem inFm_9 {w : World} {f t t0 t1 t2 p0 p1 q0 q1 : Int} {la : Option Addr} {ln lc : Nat} {u0 u1 u2 : Int} {vk : Bool} {fa : Option Addr} {fn fc : Nat} {X : List Cx} {L : List Nat} (hm : Hid (Ms w ⟨9, f, t, t0, t1, t2, p0, p1, q0, q1, la, ln, lc, u0, u1, u2, vk, fa, fn, fc⟩ X L)) (hp : Hid (ndT f = true /\ ndT t = true /\ gdI t0 t1 t2 = true)) :
  Calls Tryd.prog 11 #[.agg #[.int .i64 9,.int .i64 f,.int .i64 t,.int .i64 t0,.int .i64 t1,.int .i64 t2,.int .i64 p0,.int .i64 p1,.int .i64 q0,.int .i64 q1,.slice la ln lc,.int .i64 u0,.int .i64 u1,.int .i64 u2,.bool vk,.slice fa fn fc]] w fun e w' => e = .returned (.bool (mf ⟨9, f, t, t0, t1, t2, p0, p1, q0, q1, la, ln, lc, u0, u1, u2, vk, fa, fn, fc⟩ (led X))) /\ Hid (Below w.heap.size w w') := by
 obtain ⟨v, Hv⟩ := nm (mf ⟨9, f, t, t0, t1, t2, p0, p1, q0, q1, la, ln, lc, u0, u1, u2, vk, fa, fn, fc⟩ (led X))
 rw [Hv.out]
 have HL : Hid (ln = X.length) := hm.out.led.len
 have HN : Hid (fn = L.length) := hm.out.fr.len
 have HG : Hid (gdI t0 t1 t2 = true) := hp.out.2.2
 have hf : 0 <= f /\ f < 16 := of_decide_eq_true hp.out.1
 have ht : 0 <= t /\ t < 16 := of_decide_eq_true hp.out.2.1
 have i1 : ¬ f < 0 := by omega
 have i2 : ¬ 15 < f := by omega
 have i3 : ¬ t < 0 := by omega
 have i4 : ¬ 15 < t := by omega
 clear hf ht
 obtain ⟨g1, Hg1⟩ := nm (w.heap.size)
 obtain ⟨w1, Hw1⟩ := nm (w.alloc (.cells #[.int .i64 9,.int .i64 f,.int .i64 t,.int .i64 t0,.int .i64 t1,.int .i64 t2,.int .i64 p0,.int .i64 p1,.int .i64 q0,.int .i64 q1,.slice la ln lc,.int .i64 u0,.int .i64 u1,.int .i64 u2,.bool vk,.slice fa fn fc] 29))
 have B1 := al1 Hw1
 have k1 : Hid (w1.heap[g1]? = some (.cells #[.int .i64 9,.int .i64 f,.int .i64 t,.int .i64 t0,.int .i64 t1,.int .i64 t2,.int .i64 p0,.int .i64 p1,.int .i64 q0,.int .i64 q1,.slice la ln lc,.int .i64 u0,.int .i64 u1,.int .i64 u2,.bool vk,.slice fa fn fc] 29 (0, 0))) := by rw [<- Hw1.out, <- Hg1.out]; exact heap_alloc_new w _
 have x1 : w1.cell? ⟨g1, 1, none⟩ = some (.int .i64 f) := by simp [World.cell?, k1.out]
 have x2 : w1.cell? ⟨g1, 2, none⟩ = some (.int .i64 t) := by simp [World.cell?, k1.out]
 have x3 : w1.cell? ⟨g1, 3, none⟩ = some (.int .i64 t0) := by simp [World.cell?, k1.out]
 have x4 : w1.cell? ⟨g1, 4, none⟩ = some (.int .i64 t1) := by simp [World.cell?, k1.out]
 have x5 : w1.cell? ⟨g1, 5, none⟩ = some (.int .i64 t2) := by simp [World.cell?, k1.out]
 go_enter Tryd.func11, Tryd.ntmps11
 go_upto_region 1 with (fail)
 rw [Hw1.out, Hg1.out]
 go_upto_region 3 with (go_at_call 20; refine (refGoodId_n _ _ _ _).mono ?_; rintro e w2 ⟨rfl, h2⟩; rw [HG.out])
 clear x1 x2 x3 x4 x5 i1 i2 i3 i4
 have hb2 := al2 h2
 have k2 := sh hb2 k1
 obtain ⟨g3, Hg3⟩ := nm (w2.heap.size)
 obtain ⟨w2b, Hw2b⟩ := nm (w2.alloc (.cells #[.int .i64 0,.int .i64 0] 25))
 have hb2b := al1 Hw2b
 have k3 : Hid (w2b.heap[g3]? = some (.cells #[.int .i64 0,.int .i64 0] 25 (0, 0))) := by rw [<- Hw2b.out, <- Hg3.out]; exact heap_alloc_new w2 _
 have k2b := sh hb2b k2
 go_upto_region 4 with (fail)
 rw [Hw2b.out, Hg3.out]
 have x0 : w2b.cell? ⟨g1, 0, none⟩ = some (.int .i64 9) := by simp [World.cell?, k2b.out]
 have x1 : w2b.cell? ⟨g1, 1, none⟩ = some (.int .i64 f) := by simp [World.cell?, k2b.out]
 have x2 : w2b.cell? ⟨g1, 2, none⟩ = some (.int .i64 t) := by simp [World.cell?, k2b.out]
 have x3 : w2b.cell? ⟨g1, 3, none⟩ = some (.int .i64 t0) := by simp [World.cell?, k2b.out]
 have x4 : w2b.cell? ⟨g1, 4, none⟩ = some (.int .i64 t1) := by simp [World.cell?, k2b.out]
 have x5 : w2b.cell? ⟨g1, 5, none⟩ = some (.int .i64 t2) := by simp [World.cell?, k2b.out]
 obtain ⟨g4, Hg4⟩ := nm (w2b.heap.size)
 obtain ⟨w3, Hw3⟩ := nm (w2b.alloc (.cells #[.int .i64 9,.int .i64 f,.int .i64 t,.int .i64 t0,.int .i64 t1,.int .i64 t2,.int .i64 0,.int .i64 0,.int .i64 0,.int .i64 0,.slice none 0 0,.int .i64 0,.int .i64 0,.int .i64 0,.bool false,.slice none 0 0] 29))
 have hb3 := al1 Hw3
 have BW2 := bt B1 hb2
 have BW2b := bt BW2 hb2b
 have HC : Hid (TwM w w3 g1 g3 g4 #[.int .i64 9,.int .i64 f,.int .i64 t,.int .i64 t0,.int .i64 t1,.int .i64 t2,.int .i64 p0,.int .i64 p1,.int .i64 q0,.int .i64 q1,.slice la ln lc,.int .i64 u0,.int .i64 u1,.int .i64 u2,.bool vk,.slice fa fn fc] #[.int .i64 9,.int .i64 f,.int .i64 t,.int .i64 t0,.int .i64 t1,.int .i64 t2,.int .i64 0,.int .i64 0,.int .i64 0,.int .i64 0,.slice none 0 0,.int .i64 0,.int .i64 0,.int .i64 0,.bool false,.slice none 0 0]) := by
  refine ⟨(hb3.out.block g1 (gl k2b.out)).trans k2b.out, (hb3.out.block g3 (gl k3.out)).trans k3.out, ?_, ⟨?_, ?_, ?_⟩, BW2b.out.trans (hb3.out.mono BW2b.out.size)⟩
  . rw [<- Hw3.out, <- Hg4.out]
    exact heap_alloc_new w2b _
  . have h := (gl k2.out)
    have := Hg3.out
    omega
  . have h := (gl k3.out)
    have := Hg4.out
    omega
  . exact Nat.le_of_eq Hg1.out
 go_upto_region 5 with (fail)
 rw [Hw3.out, Hg4.out]
 clear x0 x1 x2 x3 x4 x5 h2 hb2 hb2b hb3 k1 k2 k2b k3 B1 BW2 BW2b Hw1 Hg1 Hw2b Hg3 Hw3 Hg4
 obtain ⟨lb, Hlb⟩ := nm (gdI u0 u1 u2)
 have x0 : w3.cell? ⟨g1, 0, none⟩ = some (.int .i64 9) := HC.out.c 0 _ rfl
 go_upto_region 9 with (fail)
 clear x0
 have x0 : w3.cell? ⟨g1, 0, none⟩ = some (.int .i64 9) := HC.out.c 0 _ rfl
 go_upto_region 10 with (fail)
 clear x0
 have x11 : w3.cell? ⟨g1, 11, none⟩ = some (.int .i64 u0) := HC.out.c 11 _ rfl
 have x12 : w3.cell? ⟨g1, 12, none⟩ = some (.int .i64 u1) := HC.out.c 12 _ rfl
 have x13 : w3.cell? ⟨g1, 13, none⟩ = some (.int .i64 u2) := HC.out.c 13 _ rfl
 have y11 : w3.cell? ⟨g4, 11, none⟩ = some (.int .i64 0) := HC.out.z 11 _ rfl
 have f11 := HC.out.fz 11
 have y12 : w3.cell? ⟨g4, 12, none⟩ = some (.int .i64 0) := HC.out.z 12 _ rfl
 have f12 := HC.out.fz 12
 have y13 : w3.cell? ⟨g4, 13, none⟩ = some (.int .i64 0) := HC.out.z 13 _ rfl
 have f13 := HC.out.fz 13
 obtain ⟨w4, Hwn⟩ := nm ((((w3.setCell ⟨g4, 11, none⟩ (.int .i64 u0)).setCell ⟨g4, 12, none⟩ (.int .i64 u1)).setCell ⟨g4, 13, none⟩ (.int .i64 u2)))
 have HD : Hid (TwM w w4 g1 g3 g4 #[.int .i64 9,.int .i64 f,.int .i64 t,.int .i64 t0,.int .i64 t1,.int .i64 t2,.int .i64 p0,.int .i64 p1,.int .i64 q0,.int .i64 q1,.slice la ln lc,.int .i64 u0,.int .i64 u1,.int .i64 u2,.bool vk,.slice fa fn fc] #[.int .i64 9,.int .i64 f,.int .i64 t,.int .i64 t0,.int .i64 t1,.int .i64 t2,.int .i64 0,.int .i64 0,.int .i64 0,.int .i64 0,.slice none 0 0,.int .i64 u0,.int .i64 u1,.int .i64 u2,.bool false,.slice none 0 0]) := by rw [<- Hwn.out]; exact (((HC.out.set 11 _).set 12 _).set 13 _)
 go_upto_region 11 with (fail)
 rw [Hwn.out]
 clear HC x11 y11 f11 x12 y12 f12 x13 y13 f13
 have HC := HD
 clear HD Hwn
 cases lb with
 | false =>
   have x11 : w4.cell? ⟨g1, 11, none⟩ = some (.int .i64 u0) := HC.out.c 11 _ rfl
   have x12 : w4.cell? ⟨g1, 12, none⟩ = some (.int .i64 u1) := HC.out.c 12 _ rfl
   have x13 : w4.cell? ⟨g1, 13, none⟩ = some (.int .i64 u2) := HC.out.c 13 _ rfl
   have HLB := hidI Hlb.out
   have FV : Hid (v = false) := by rw [<- Hv.out]; show _ = _; unfold mf; simp [kM, gB, gA, gL, gP, gO, gF, goz, HLB.out]
   go_wp2_with (go_at_call 20; refine (refGoodId_n _ _ _ _).mono ?_; rintro e wz ⟨rfl, hz⟩; rw [HLB.out])
   go_ret
   exact ⟨by rw [FV.out]; first | done | rfl, HC.out.bel.trans (by rw [hz.out]; exact (alloc1 _ _).mono HC.out.bel.size)⟩
 | true =>
   by_cases hr : 4096 < fn
   . have i1 : (4096 : Int) < (fn : Int) := by omega
     have HR := hidI hr
     clear hr
     have x11 : w4.cell? ⟨g1, 11, none⟩ = some (.int .i64 u0) := HC.out.c 11 _ rfl
     have x12 : w4.cell? ⟨g1, 12, none⟩ = some (.int .i64 u1) := HC.out.c 12 _ rfl
     have x13 : w4.cell? ⟨g1, 13, none⟩ = some (.int .i64 u2) := HC.out.c 13 _ rfl
     have k1 := HC.out.h1
     have FV : Hid (v = false) := by rw [<- Hv.out]; show _ = _; unfold mf; simp [kM, gB, gA, gL, gP, gO, gF, goz, show ¬ ((fn : Int) <= 4096) by (have := HR.out; omega), show ¬ ((fn : Int) = 0) by (have := HR.out; omega), show ¬ (fn <= 4096) by (have := HR.out; omega), show ¬ (fn = 0) by (have := HR.out; omega)]
     go_wp2_with first
      | (go_at_call 20; refine (refGoodId_n _ _ _ _).mono ?_; rintro e wy ⟨rfl, hz⟩; rw [Hlb.out]
         have HD : Hid (TwM w wy g1 g3 g4 #[.int .i64 9,.int .i64 f,.int .i64 t,.int .i64 t0,.int .i64 t1,.int .i64 t2,.int .i64 p0,.int .i64 p1,.int .i64 q0,.int .i64 q1,.slice la ln lc,.int .i64 u0,.int .i64 u1,.int .i64 u2,.bool vk,.slice fa fn fc] #[.int .i64 9,.int .i64 f,.int .i64 t,.int .i64 t0,.int .i64 t1,.int .i64 t2,.int .i64 0,.int .i64 0,.int .i64 0,.int .i64 0,.slice none 0 0,.int .i64 u0,.int .i64 u1,.int .i64 u2,.bool false,.slice none 0 0]) := HC.out.below (by rw [hz.out]; exact alloc1 _ _)
         have x15 : wy.cell? ⟨g1, 15, none⟩ = some (.slice fa fn fc) := HD.out.c 15 _ rfl)
     go_ret
     exact ⟨by rw [FV.out]; first | done | rfl, HD.out.bel⟩
   have i1 : ¬ ((4096 : Int) < (fn : Int)) := by omega
   have HR : Hid (fn <= 4096) := by show _ <= _; omega
   clear hr
   have x11 : w4.cell? ⟨g1, 11, none⟩ = some (.int .i64 u0) := HC.out.c 11 _ rfl
   have x12 : w4.cell? ⟨g1, 12, none⟩ = some (.int .i64 u1) := HC.out.c 12 _ rfl
   have x13 : w4.cell? ⟨g1, 13, none⟩ = some (.int .i64 u2) := HC.out.c 13 _ rfl
   go_upto_region 13 with first
    | (go_at_call 20; refine (refGoodId_n _ _ _ _).mono ?_; rintro e w5 ⟨rfl, hz⟩; rw [Hlb.out]
       have HD : Hid (TwM w w5 g1 g3 g4 #[.int .i64 9,.int .i64 f,.int .i64 t,.int .i64 t0,.int .i64 t1,.int .i64 t2,.int .i64 p0,.int .i64 p1,.int .i64 q0,.int .i64 q1,.slice la ln lc,.int .i64 u0,.int .i64 u1,.int .i64 u2,.bool vk,.slice fa fn fc] #[.int .i64 9,.int .i64 f,.int .i64 t,.int .i64 t0,.int .i64 t1,.int .i64 t2,.int .i64 0,.int .i64 0,.int .i64 0,.int .i64 0,.slice none 0 0,.int .i64 u0,.int .i64 u1,.int .i64 u2,.bool false,.slice none 0 0]) := HC.out.below (by rw [hz.out]; exact alloc1 _ _)
       have x15 : w5.cell? ⟨g1, 15, none⟩ = some (.slice fa fn fc) := HD.out.c 15 _ rfl)
   clear HC hz x11 x12 x13 x15 i1
   have HC := HD
   clear HD
   have x0 : w5.cell? ⟨g1, 0, none⟩ = some (.int .i64 9) := HC.out.c 0 _ rfl
   go_upto_region 33 with (fail)
   clear x0
   obtain ⟨w6, Hwd⟩ := nm (w5.drew)
   have HD : Hid (TwM w w6 g1 g3 g4 #[.int .i64 9,.int .i64 f,.int .i64 t,.int .i64 t0,.int .i64 t1,.int .i64 t2,.int .i64 p0,.int .i64 p1,.int .i64 q0,.int .i64 q1,.slice la ln lc,.int .i64 u0,.int .i64 u1,.int .i64 u2,.bool vk,.slice fa fn fc] #[.int .i64 9,.int .i64 f,.int .i64 t,.int .i64 t0,.int .i64 t1,.int .i64 t2,.int .i64 0,.int .i64 0,.int .i64 0,.int .i64 0,.slice none 0 0,.int .i64 u0,.int .i64 u1,.int .i64 u2,.bool false,.slice none 0 0]) := by rw [<- Hwd.out]; exact HC.out.below (below_drewN (Below.refl _ _) 1)
   go_upto_region 33 with (fail)
   clear HC
   have HC := HD
   clear HD
   refine wp_region_seq (C := fun W => W.heap[g1]? = some (.cells #[.int .i64 9,.int .i64 f,.int .i64 t,.int .i64 t0,.int .i64 t1,.int .i64 t2,.int .i64 p0,.int .i64 p1,.int .i64 q0,.int .i64 q1,.slice la ln lc,.int .i64 u0,.int .i64 u1,.int .i64 u2,.bool vk,.slice fa fn fc] 29 (0, 0))) [(0, false), (1, false), (2, false), (3, false), (4, false), (5, true), (6, false), (7, true)] (by kernel_rfl) (by kernel_rfl) (by rw [Hwd.out]; exact HC.out.h1) ?_
   rw [Hwd.out]
   clear Hwd
   refine stk (o := ⟨some 139, .fieldAddr 29 (.tmp 1) 8, 0, "ref.go:56", #[], none⟩) (v := .pointer (some ⟨g1, 14, none⟩)) ?_
   simp only [pG,Act.put]
   refine sty (o := ⟨some 140, .load 4 (.tmp 139), 4, "ref.go:56", #[⟨0, .data⟩], none⟩) (v := .bool vk) (Or.inl ⟨by kernel_rfl, fun W hW => by have q14 : W.cell? ⟨g1, 14, none⟩ = some (.bool vk) := (by simp [World.cell?, hW]); go_simp⟩) ?_
   simp only [pG,Act.put]
   refine stk (o := ⟨some 141, .fieldAddr 29 (.tmp 1) 9, 0, "ref.go:56", #[{ on := 5, ground := .gcOnly Go.Departure.lateStores }], none⟩) (v := .pointer (some ⟨g1, 15, none⟩)) ?_
   simp only [pG,Act.put]
   refine sty (o := ⟨some 142, .load 27 (.tmp 141), 27, "ref.go:56", #[⟨2, .data⟩, { on := 5, ground := .gcOnly Go.Departure.lateStores }], none⟩) (v := .slice fa fn fc) (Or.inl ⟨by kernel_rfl, fun W hW => by have q15 : W.cell? ⟨g1, 15, none⟩ = some (.slice fa fn fc) := (by simp [World.cell?, hW]); go_simp⟩) ?_
   simp only [pG,Act.put]
   refine stk (o := ⟨some 143, .fieldAddr 29 (.tmp 4) 8, 0, "ref.go:56", #[⟨0, .phase⟩, ⟨1, .phase⟩, { on := 2, ground := .textOnly Go.Departure.lateStores }, { on := 3, ground := .textOnly Go.Departure.lateStores }], none⟩) (v := .pointer (some ⟨g4, 14, none⟩)) ?_
   simp only [pG,Act.put]
   refine seq_call (o := ⟨none, .store 4 (.tmp 143) (.tmp 140), 0, "ref.go:56", #[⟨4, .data⟩, ⟨1, .data⟩, ⟨0, .phase⟩, ⟨1, .phase⟩, { on := 2, ground := .textOnly Go.Departure.lateStores }, { on := 3, ground := .textOnly Go.Departure.lateStores }], none⟩) (by kernel_rfl) (fun KK hK => ?_)
   rw [if_pos (by kernel_rfl)]
   have y14 : w6.cell? ⟨g4, 14, none⟩ = some (.bool false) := HC.out.z 14 _ rfl
   have f14 := HC.out.fz 14
   go_simp
   obtain ⟨w7, Hwn⟩ := nm ((w6.setCell ⟨g4, 14, none⟩ (.bool vk)))
   have HD : Hid (TwM w w7 g1 g3 g4 #[.int .i64 9,.int .i64 f,.int .i64 t,.int .i64 t0,.int .i64 t1,.int .i64 t2,.int .i64 p0,.int .i64 p1,.int .i64 q0,.int .i64 q1,.slice la ln lc,.int .i64 u0,.int .i64 u1,.int .i64 u2,.bool vk,.slice fa fn fc] #[.int .i64 9,.int .i64 f,.int .i64 t,.int .i64 t0,.int .i64 t1,.int .i64 t2,.int .i64 0,.int .i64 0,.int .i64 0,.int .i64 0,.slice none 0 0,.int .i64 u0,.int .i64 u1,.int .i64 u2,.bool vk,.slice none 0 0]) := by rw [<- Hwn.out]; exact (HC.out.set 14 _)
   rw [Hwn.out]
   clear HC Hwn y14 f14
   have HC := HD
   clear HD
   refine hK.out _ _ (HC.out.h1) ?_
   clear hK KK
   try simp only [pG,Act.put]
   refine stk (o := ⟨some 144, .fieldAddr 29 (.tmp 4) 9, 0, "ref.go:56", #[⟨0, .phase⟩, ⟨1, .phase⟩, ⟨2, .phase⟩, ⟨3, .phase⟩, ⟨4, .phase⟩, ⟨5, .phase⟩], none⟩) (v := .pointer (some ⟨g4, 15, none⟩)) ?_
   simp only [pG,Act.put]
   refine seq_call (o := ⟨none, .store 27 (.tmp 144) (.tmp 142), 0, "ref.go:56", #[⟨6, .data⟩, ⟨3, .data⟩, ⟨5, .chain⟩, ⟨0, .phase⟩, ⟨1, .phase⟩, ⟨2, .phase⟩, ⟨3, .phase⟩, ⟨4, .phase⟩, ⟨5, .phase⟩], none⟩) (by kernel_rfl) (fun KK hK => ?_)
   rw [if_pos (by kernel_rfl)]
   have y15 : w7.cell? ⟨g4, 15, none⟩ = some (.slice none 0 0) := HC.out.z 15 _ rfl
   have f15 := HC.out.fz 15
   go_simp
   obtain ⟨w8, Hwn⟩ := nm ((w7.setCell ⟨g4, 15, none⟩ (.slice fa fn fc)))
   have HD : Hid (TwM w w8 g1 g3 g4 #[.int .i64 9,.int .i64 f,.int .i64 t,.int .i64 t0,.int .i64 t1,.int .i64 t2,.int .i64 p0,.int .i64 p1,.int .i64 q0,.int .i64 q1,.slice la ln lc,.int .i64 u0,.int .i64 u1,.int .i64 u2,.bool vk,.slice fa fn fc] #[.int .i64 9,.int .i64 f,.int .i64 t,.int .i64 t0,.int .i64 t1,.int .i64 t2,.int .i64 0,.int .i64 0,.int .i64 0,.int .i64 0,.slice none 0 0,.int .i64 u0,.int .i64 u1,.int .i64 u2,.bool vk,.slice fa fn fc]) := by rw [<- Hwn.out]; exact (HC.out.set 15 _)
   rw [Hwn.out]
   clear HC Hwn y15 f15
   have HC := HD
   clear HD
   refine hK.out _ _ (HC.out.h1) ?_
   clear hK KK
   try simp only [pG,Act.put]
   show (Exit.then _ _) .normal _ _
   show (Exit.then _ _) .normal _ _
   by_cases hs : vk = true
   . have HS := hidI hs
     subst hs
     have x14 : w8.cell? ⟨g1, 14, none⟩ = some (.bool true) := HC.out.c 14 _ rfl
     go_upto_region 36 with (fail)
     clear x14
     have x10 : w8.cell? ⟨g1, 10, none⟩ = some (.slice la ln lc) := HC.out.c 10 _ rfl
     have C6 : Hid (Cms w8 0 la ln X) := hm.out.led.below HC.out.bel
     have MM : Hid (Ms w8 ⟨9, f, t, t0, t1, t2, p0, p1, q0, q1, la, ln, lc, u0, u1, u2, true, fa, fn, fc⟩ X L) := hm.out.below HC.out.bel
     rcases Bool.eq_false_or_eq_true (ldT ln (led X)) with hw | hw
     rotate_left
     . have FV : Hid (v = false) := by rw [<- Hv.out]; exact mf_led HL.out hw
       have HW := hidI hw
       clear hw
       by_cases hn : 4096 < ln
       . go_wp2_with (go_at_call 22; refine (refwrite_large hn).mono ?_; rintro e wz ⟨rfl, hz⟩)
         go_ret
         exact ⟨by rw [FV.out]; first | done | rfl, HC.out.bel.trans (hz.out.mono HC.out.bel.size)⟩
       . have HB : Hid (∃ x ∈ X, frm x.cm = false) := by
          have h := HW.out
          unfold ldT at h
          rw [decide_eq_true (by omega), Bool.true_and, List.all_eq_false] at h
          obtain ⟨y, hy, hf⟩ := h
          obtain ⟨x, hx, rfl⟩ := List.mem_map.1 hy
          exact ⟨x, hx, by simpa using hf⟩
         go_wp2_with (go_at_call 22; refine (refwrite_no C6 (by omega) HB).mono ?_; rintro e wz ⟨rfl, hz⟩)
         go_ret
         exact ⟨by rw [FV.out]; first | done | rfl, HC.out.bel.trans (hz.out.mono HC.out.bel.size)⟩
     have VV : Hid (v = smB ⟨9, f, t, t0, t1, t2, p0, p1, q0, q1, la, ln, lc, u0, u1, u2, true, fa, fn, fc⟩ (led X) L ⟨9, f, t, t0, t1, t2, 0, 0, 0, 0, none, 0, 0, u0, u1, u2, true, fa, fn, fc⟩ (led []) L) := by rw [<- Hv.out]; exact mfk_9a HL.out HN.out hp.out.1 hp.out.2.1 hp.out.2.2 hw Hlb.out HR.out rfl
     have HX : Hid (ln <= 4096 /\ ∀ x ∈ X, frm x.cm = true) := by
      simp only [ldT, Bool.and_eq_true, decide_eq_true_eq] at hw
      exact ⟨hw.1, fun x hx => List.all_eq_true.1 hw.2 x.cm (List.mem_map.2 ⟨x, hx, rfl⟩)⟩
     clear hw
     obtain ⟨ys, hy1, hy2⟩ := frm_all HX.out.2
     have HY1 : Hid (X.map Cx.cm = ys.map Nm.cm) := hy1
     have HY2 : Hid (∀ y ∈ ys, Nb y /\ frm y.cm = true) := hy2
     clear hy1 hy2
     go_upto_region 37 with (go_at_call 22; refine (refwrite_yes C6 HX.out.1 HY1 HY2).mono ?_; rintro e w7 ⟨b7, N7, d7, rfl, h7⟩)
     have HD : Hid (TwM w w7 g1 g3 g4 #[.int .i64 9,.int .i64 f,.int .i64 t,.int .i64 t0,.int .i64 t1,.int .i64 t2,.int .i64 p0,.int .i64 p1,.int .i64 q0,.int .i64 q1,.slice la ln lc,.int .i64 u0,.int .i64 u1,.int .i64 u2,.bool true,.slice fa fn fc] #[.int .i64 9,.int .i64 f,.int .i64 t,.int .i64 t0,.int .i64 t1,.int .i64 t2,.int .i64 0,.int .i64 0,.int .i64 0,.int .i64 0,.slice none 0 0,.int .i64 u0,.int .i64 u1,.int .i64 u2,.bool true,.slice fa fn fc]) := HC.out.below h7.out.2.2
     have M7 : Hid (Ms w7 ⟨9, f, t, t0, t1, t2, p0, p1, q0, q1, la, ln, lc, u0, u1, u2, true, fa, fn, fc⟩ X L) := MM.out.below h7.out.2.2
     have Z7 : Hid (Ms w7 ⟨9, f, t, t0, t1, t2, 0, 0, 0, 0, none, 0, 0, u0, u1, u2, true, fa, fn, fc⟩ [] L) := ⟨Cms.nil _ _ _, M7.out.fr, (fun _ => rfl), M7.out.fz, M7.out.fle, M7.out.flt⟩
     go_wp2_with first
      | (refine wpList_load_rowG (by rfl) 29 (.tmp 1) (by rfl) g1 (by rfl) 29 #[.int .i64 9,.int .i64 f,.int .i64 t,.int .i64 t0,.int .i64 t1,.int .i64 t2,.int .i64 p0,.int .i64 p1,.int .i64 q0,.int .i64 q1,.slice la ln lc,.int .i64 u0,.int .i64 u1,.int .i64 u2,.bool true,.slice fa fn fc] (0, 0) _ HD.out.h1 Tryd.underlying29 rfl (info29 (by rfl)) ?_)
      | (refine wpList_load_rowG (by rfl) 29 (.tmp 4) (by rfl) g4 (by rfl) 29 #[.int .i64 9,.int .i64 f,.int .i64 t,.int .i64 t0,.int .i64 t1,.int .i64 t2,.int .i64 0,.int .i64 0,.int .i64 0,.int .i64 0,.slice none 0 0,.int .i64 u0,.int .i64 u1,.int .i64 u2,.bool true,.slice fa fn fc] (0, 0) _ HD.out.h4 Tryd.underlying29 rfl (info29 (by rfl)) ?_)
      | (go_at_call 10; refine (sameM_n (hidI rfl) (hidI rfl) M7 Z7).mono ?_; rintro e w8 ⟨rfl, h8⟩; rw [<- VV.out])
     go_ret
     exact ⟨rfl, HD.out.bel.trans (h8.out.mono HD.out.bel.size)⟩
   have hs2 : vk = false := by simpa using hs
   clear hs
   subst hs2
   have x14 : w8.cell? ⟨g1, 14, none⟩ = some (.bool false) := HC.out.c 14 _ rfl
   by_cases hn : 0 < fn
   . have i1 : (0 : Int) < (fn : Int) := by omega
     have HN0 := hidI hn
     clear hn
     have x15 : w8.cell? ⟨g1, 15, none⟩ = some (.slice fa fn fc) := HC.out.c 15 _ rfl
     have FV : Hid (v = false) := by rw [<- Hv.out]; show _ = _; unfold mf; simp [kM, gB, gA, gL, gP, gO, gF, goz, show ¬ ((fn : Int) = 0) by (have := HN0.out; omega), show ¬ (fn = 0) by (have := HN0.out; omega)]
     go_wp2
     go_ret
     exact ⟨by rw [FV.out]; first | done | rfl, HC.out.bel⟩
   have i1 : ¬ ((0 : Int) < (fn : Int)) := by omega
   have HN0 : Hid (fn = 0) := by show _ = _; omega
   clear hn
   have x15 : w8.cell? ⟨g1, 15, none⟩ = some (.slice fa fn fc) := HC.out.c 15 _ rfl
   go_upto_region 36 with (fail)
   clear x14 x15 i1
   have x10 : w8.cell? ⟨g1, 10, none⟩ = some (.slice la ln lc) := HC.out.c 10 _ rfl
   have C6 : Hid (Cms w8 0 la ln X) := hm.out.led.below HC.out.bel
   have MM : Hid (Ms w8 ⟨9, f, t, t0, t1, t2, p0, p1, q0, q1, la, ln, lc, u0, u1, u2, false, fa, fn, fc⟩ X L) := hm.out.below HC.out.bel
   rcases Bool.eq_false_or_eq_true (ldT ln (led X)) with hw | hw
   rotate_left
   . have FV : Hid (v = false) := by rw [<- Hv.out]; exact mf_led HL.out hw
     have HW := hidI hw
     clear hw
     by_cases hn : 4096 < ln
     . go_wp2_with (go_at_call 22; refine (refwrite_large hn).mono ?_; rintro e wz ⟨rfl, hz⟩)
       go_ret
       exact ⟨by rw [FV.out]; first | done | rfl, HC.out.bel.trans (hz.out.mono HC.out.bel.size)⟩
     . have HB : Hid (∃ x ∈ X, frm x.cm = false) := by
        have h := HW.out
        unfold ldT at h
        rw [decide_eq_true (by omega), Bool.true_and, List.all_eq_false] at h
        obtain ⟨y, hy, hf⟩ := h
        obtain ⟨x, hx, rfl⟩ := List.mem_map.1 hy
        exact ⟨x, hx, by simpa using hf⟩
       go_wp2_with (go_at_call 22; refine (refwrite_no C6 (by omega) HB).mono ?_; rintro e wz ⟨rfl, hz⟩)
       go_ret
       exact ⟨by rw [FV.out]; first | done | rfl, HC.out.bel.trans (hz.out.mono HC.out.bel.size)⟩
   have VV : Hid (v = smB ⟨9, f, t, t0, t1, t2, p0, p1, q0, q1, la, ln, lc, u0, u1, u2, false, fa, fn, fc⟩ (led X) L ⟨9, f, t, t0, t1, t2, 0, 0, 0, 0, none, 0, 0, u0, u1, u2, false, fa, fn, fc⟩ (led []) L) := by rw [<- Hv.out]; exact mfk_9b HL.out HN.out hp.out.1 hp.out.2.1 hp.out.2.2 hw Hlb.out HR.out rfl HN0.out
   have HX : Hid (ln <= 4096 /\ ∀ x ∈ X, frm x.cm = true) := by
    simp only [ldT, Bool.and_eq_true, decide_eq_true_eq] at hw
    exact ⟨hw.1, fun x hx => List.all_eq_true.1 hw.2 x.cm (List.mem_map.2 ⟨x, hx, rfl⟩)⟩
   clear hw
   obtain ⟨ys, hy1, hy2⟩ := frm_all HX.out.2
   have HY1 : Hid (X.map Cx.cm = ys.map Nm.cm) := hy1
   have HY2 : Hid (∀ y ∈ ys, Nb y /\ frm y.cm = true) := hy2
   clear hy1 hy2
   go_upto_region 37 with (go_at_call 22; refine (refwrite_yes C6 HX.out.1 HY1 HY2).mono ?_; rintro e w7 ⟨b7, N7, d7, rfl, h7⟩)
   have HD : Hid (TwM w w7 g1 g3 g4 #[.int .i64 9,.int .i64 f,.int .i64 t,.int .i64 t0,.int .i64 t1,.int .i64 t2,.int .i64 p0,.int .i64 p1,.int .i64 q0,.int .i64 q1,.slice la ln lc,.int .i64 u0,.int .i64 u1,.int .i64 u2,.bool false,.slice fa fn fc] #[.int .i64 9,.int .i64 f,.int .i64 t,.int .i64 t0,.int .i64 t1,.int .i64 t2,.int .i64 0,.int .i64 0,.int .i64 0,.int .i64 0,.slice none 0 0,.int .i64 u0,.int .i64 u1,.int .i64 u2,.bool false,.slice fa fn fc]) := HC.out.below h7.out.2.2
   have M7 : Hid (Ms w7 ⟨9, f, t, t0, t1, t2, p0, p1, q0, q1, la, ln, lc, u0, u1, u2, false, fa, fn, fc⟩ X L) := MM.out.below h7.out.2.2
   have Z7 : Hid (Ms w7 ⟨9, f, t, t0, t1, t2, 0, 0, 0, 0, none, 0, 0, u0, u1, u2, false, fa, fn, fc⟩ [] L) := ⟨Cms.nil _ _ _, M7.out.fr, (fun _ => rfl), M7.out.fz, M7.out.fle, M7.out.flt⟩
   go_wp2_with first
    | (refine wpList_load_rowG (by rfl) 29 (.tmp 1) (by rfl) g1 (by rfl) 29 #[.int .i64 9,.int .i64 f,.int .i64 t,.int .i64 t0,.int .i64 t1,.int .i64 t2,.int .i64 p0,.int .i64 p1,.int .i64 q0,.int .i64 q1,.slice la ln lc,.int .i64 u0,.int .i64 u1,.int .i64 u2,.bool false,.slice fa fn fc] (0, 0) _ HD.out.h1 Tryd.underlying29 rfl (info29 (by rfl)) ?_)
    | (refine wpList_load_rowG (by rfl) 29 (.tmp 4) (by rfl) g4 (by rfl) 29 #[.int .i64 9,.int .i64 f,.int .i64 t,.int .i64 t0,.int .i64 t1,.int .i64 t2,.int .i64 0,.int .i64 0,.int .i64 0,.int .i64 0,.slice none 0 0,.int .i64 u0,.int .i64 u1,.int .i64 u2,.bool false,.slice fa fn fc] (0, 0) _ HD.out.h4 Tryd.underlying29 rfl (info29 (by rfl)) ?_)
    | (go_at_call 10; refine (sameM_n (hidI rfl) (hidI rfl) M7 Z7).mono ?_; rintro e w8 ⟨rfl, h8⟩; rw [<- VV.out])
   go_ret
   exact ⟨rfl, HD.out.bel.trans (h8.out.mono HD.out.bel.size)⟩
theorem inFmM_n {w : World} {x : Mc} {X : List Cx} {L : List Nat} {A : Array Value} (hA : Hid (A = (encM x).toArray)) (hm : Hid (Ms w x X L)) :
  Calls Tryd.prog 11 #[.agg A] w fun e w' => e = .returned (.bool (mf x (led X))) /\ Hid (Below w.heap.size w w') := by
 obtain rfl := hA.out
 obtain ⟨k, f, t, t0, t1, t2, p0, p1, q0, q1, la, ln, lc, u0, u1, u2, vk, fa, fn, fc⟩ := x
 by_cases hp : ndT f = true /\ ndT t = true /\ gdI t0 t1 t2 = true
 . by_cases hk : 1 <= k /\ k <= 9
   . rcases (show k = 1 ∨ k = 2 ∨ k = 3 ∨ k = 4 ∨ k = 5 ∨ k = 6 ∨ k = 7 ∨ k = 8 ∨ k = 9 by omega) with rfl | rfl | rfl | rfl | rfl | rfl | rfl | rfl | rfl
     . exact inFm_1 hm hp
     . exact inFm_2 hm hp
     . exact inFm_3 hm hp
     . exact inFm_4 hm hp
     . exact inFm_5 hm hp
     . exact inFm_6 hm hp
     . exact inFm_7 hm hp
     . exact inFm_8 hm hp
     . exact inFm_9 hm hp
   . exact inFm_0 hk hm hp
 . refine inFm_bad (L := L) ?_
   rcases Bool.eq_false_or_eq_true (ndT f) with h1 | h1
   . rcases Bool.eq_false_or_eq_true (ndT t) with h2 | h2
     . rcases Bool.eq_false_or_eq_true (gdI t0 t1 t2) with h3 | h3
       . exact absurd ⟨h1, h2, h3⟩ hp
       . exact .inr (.inr h3)
     . exact .inr (.inl h2)
   . exact .inl h1
def aq1 : Nmg := ⟨1, 0, 0, 0, 0, 0, 1, 0, 0, 0, 0, 0, 0, false⟩
def al0 : Nmg := ⟨1, 0, 0, 0, 0, 0, 0, 0, 0, 0, 0, 0, 0, false⟩
theorem al_len : 14 < (pmL aq1 [] []).length := by
 simp only [pmL, seal_len, mbL, List.length_append, aq1]
 have h : ∀ n, n < 128 -> (enc n).length = 1 := fun n hn => by rw [enc_lt hn]; rfl
 rw [h 1 (by omega), h 0 (by omega)]
 omega
theorem al_fst : (pmL aq1 [] []).getD 0 0 = 1 := by
 simp only [pmL, sealL, mbL, aq1]
 rw [enc_lt (n := 1) (by omega)]
 rfl
set_option maxHeartbeats 2000000 in
theorem aliveM_n {w : World} {M : Nat -> Prop} {E : Nat -> Addr} (hE : Hid (Sent w M E)) (hM0 : M 0) : Calls Tryd.prog 6 #[] w fun e w' => e = .returned (.bool true) /\ Hid (Below w.heap.size w w') := by
 have PO : Hid (Calls Tryd.prog 9 #[.agg #[.int .i64 1,.int .i64 0,.int .i64 0,.int .i64 0,.int .i64 0,.int .i64 0,.int .i64 1,.int .i64 0,.int .i64 0,.int .i64 0,.slice none 0 0,.int .i64 0,.int .i64 0,.int .i64 0,.bool false,.slice none 0 0]] w fun e w' => ∃ g N, e = .returned (.tuple #[.slice (some ⟨g, 0, none⟩) N N, .nilIface]) /\ Hid (Blk w' g (pmL aq1 [] []) /\ N = (pmL aq1 [] []).length /\ N <= 60000000 /\ w.heap.size <= g /\ Below w.heap.size w w')) :=
  putM_yes (x := aq1.mc none 0 0 none 0 0) (X := []) (R := []) (y := aq1) (ys := []) (hidI rfl) hE hM0 (hidI ⟨Cms.nil _ _ _, sln_none _, (fun _ => rfl), (fun _ => rfl), Nat.le_refl _, (fun y hy => by cases hy)⟩) (hidI (by decide +kernel)) (hidI rfl) (hidI ⟨by decide, by decide, by decide, by decide, by decide, by decide, by decide, by decide, by decide, by decide, by decide, by decide, by decide⟩) (hidI rfl) (hidI (fun z hz => by cases hz)) (hidI (Nat.zero_le _)) (hidI (Nat.zero_le _))
 go_enter Tryd.func6, Tryd.ntmps6
 go_upto_region 2 with (go_at_call 9; refine PO.out.mono ?_; rintro e w1 ⟨g, n, rfl, H1⟩)
 have B1 : Hid (Below w.heap.size w w1) := H1.out.2.2.2.2
 have E1 : Hid (Sent w1 M E) := hE.out.below B1.out
 have PN : Hid (Calls Tryd.prog 9 #[.agg #[.int .i64 1,.int .i64 0,.int .i64 0,.int .i64 0,.int .i64 0,.int .i64 0,.int .i64 0,.int .i64 0,.int .i64 0,.int .i64 0,.slice none 0 0,.int .i64 0,.int .i64 0,.int .i64 0,.bool false,.slice none 0 0]] w1 fun e w' => e = .returned (.tuple #[.slice none 0 0, er (E 0)]) /\ Hid (Below w1.heap.size w1 w')) :=
  putM_no (x := al0.mc none 0 0 none 0 0) (X := []) (hidI rfl) E1 hM0 (hidI (Cms.nil _ _ _)) (hidI (by decide +kernel))
 go_upto_region 3 with (go_at_call 9; refine PN.out.mono ?_; rintro e w2 ⟨rfl, h2⟩)
 have B2 := bt B1 h2
 have ce : w2.cell? ⟨0, 0, none⟩ = some (er (E 0)) := (hE.out.below B2.out).c 0 hM0
 have eq := eql_same w2 (E 0)
 have i1 : (14 : Int) < (n : Int) := by have := H1.out.2.1; have := al_len; omega
 have i2 : (0 : Int) < (n : Int) := by omega
 have x0 : w2.cell? ⟨g, 0, none⟩ = some (.int .u8 1) := by
  have h : w1.heap[g]? = some (.cells ((pmL aq1 [] []).map bv).toArray 5 (0, 0)) := H1.out.1
  have h3 := (h2.out.block g (gl h)).trans h
  have h4 : (pmL aq1 [] [])[0]? = some 1 := by
   have a := al_fst
   have b := al_len
   rw [List.getD_eq_getElem?_getD] at a
   rw [List.getElem?_eq_getElem (by omega)] at a ⊢
   simp at a
   rw [a]
  simp [World.cell?, h3, h4, bv]
 clear H1 PO PN h2
 go_wp2
 go_ret
 exact ⟨rfl, B2.out⟩
end Go.Proofs.YtppibcambhmomaaDoor
