import Derived.Test.YtppibcambhmomaaDoorPp
import Derived.Test.YtppibcambhmomaaDoorP36
namespace Go.Proofs.YtppibcambhmomaaDoor
open Go.ChangeShapes Go.WideShapes Go.ChangeAt Go.RowKit
set_option maxRecDepth 20000
set_option linter.unusedVariables false
set_option linter.unusedSimpArgs false
set_option maxHeartbeats 8000000 in
theorem inFm_3 {w : World} {f t t0 t1 t2 p0 p1 q0 q1 : Int} {la : Option Addr} {ln lc : Nat} {u0 u1 u2 : Int} {vk : Bool} {fa : Option Addr} {fn fc : Nat} {X : List Cx} {L : List Nat} (hm : Hid (Ms w ⟨3, f, t, t0, t1, t2, p0, p1, q0, q1, la, ln, lc, u0, u1, u2, vk, fa, fn, fc⟩ X L)) (hp : Hid (ndT f = true /\ ndT t = true /\ gdI t0 t1 t2 = true)) :
  Calls Tryd.prog 11 #[.agg #[.int .i64 3,.int .i64 f,.int .i64 t,.int .i64 t0,.int .i64 t1,.int .i64 t2,.int .i64 p0,.int .i64 p1,.int .i64 q0,.int .i64 q1,.slice la ln lc,.int .i64 u0,.int .i64 u1,.int .i64 u2,.bool vk,.slice fa fn fc]] w fun e w' => e = .returned (.bool (mf ⟨3, f, t, t0, t1, t2, p0, p1, q0, q1, la, ln, lc, u0, u1, u2, vk, fa, fn, fc⟩ (led X))) /\ Hid (Below w.heap.size w w') := by
 obtain ⟨v, Hv⟩ := nm (mf ⟨3, f, t, t0, t1, t2, p0, p1, q0, q1, la, ln, lc, u0, u1, u2, vk, fa, fn, fc⟩ (led X))
 rw [Hv.out]
 have HL : Hid (ln = X.length) := hm.out.led.len
 have HN : Hid (fn = L.length) := hm.out.fr.len
 have HG : Hid (gdI t0 t1 t2 = true) := hp.out.2.2
 have hf : 0 <= f /\ f < 16 := of_decide_eq_true hp.out.1
 have ht : 0 <= t /\ t < 16 := of_decide_eq_true hp.out.2.1
 have i1 : ¬ f < 0 := by omega
 have i2 : ¬ 15 < f := by omega
 have i3 : ¬ t < 0 := by omega
 have i4 : ¬ 15 < t := by omega
 clear hf ht
 obtain ⟨g1, Hg1⟩ := nm (w.heap.size)
 obtain ⟨w1, Hw1⟩ := nm (w.alloc (.cells #[.int .i64 3,.int .i64 f,.int .i64 t,.int .i64 t0,.int .i64 t1,.int .i64 t2,.int .i64 p0,.int .i64 p1,.int .i64 q0,.int .i64 q1,.slice la ln lc,.int .i64 u0,.int .i64 u1,.int .i64 u2,.bool vk,.slice fa fn fc] 29))
 have B1 := al1 Hw1
 have k1 : Hid (w1.heap[g1]? = some (.cells #[.int .i64 3,.int .i64 f,.int .i64 t,.int .i64 t0,.int .i64 t1,.int .i64 t2,.int .i64 p0,.int .i64 p1,.int .i64 q0,.int .i64 q1,.slice la ln lc,.int .i64 u0,.int .i64 u1,.int .i64 u2,.bool vk,.slice fa fn fc] 29 (0, 0))) := by rw [<- Hw1.out, <- Hg1.out]; exact heap_alloc_new w _
 have x1 : w1.cell? ⟨g1, 1, none⟩ = some (.int .i64 f) := by simp [World.cell?, k1.out]
 have x2 : w1.cell? ⟨g1, 2, none⟩ = some (.int .i64 t) := by simp [World.cell?, k1.out]
 have x3 : w1.cell? ⟨g1, 3, none⟩ = some (.int .i64 t0) := by simp [World.cell?, k1.out]
 have x4 : w1.cell? ⟨g1, 4, none⟩ = some (.int .i64 t1) := by simp [World.cell?, k1.out]
 have x5 : w1.cell? ⟨g1, 5, none⟩ = some (.int .i64 t2) := by simp [World.cell?, k1.out]
 go_enter Tryd.func11, Tryd.ntmps11
 go_upto_region 1 with (fail)
 rw [Hw1.out, Hg1.out]
 go_upto_region 3 with (go_at_call 20; refine (refGoodId_n _ _ _ _).mono ?_; rintro e w2 ⟨rfl, h2⟩; rw [HG.out])
 clear x1 x2 x3 x4 x5 i1 i2 i3 i4
 have hb2 := al2 h2
 have k2 := sh hb2 k1
 obtain ⟨g3, Hg3⟩ := nm (w2.heap.size)
 obtain ⟨w2b, Hw2b⟩ := nm (w2.alloc (.cells #[.int .i64 0,.int .i64 0] 25))
 have hb2b := al1 Hw2b
 have k3 : Hid (w2b.heap[g3]? = some (.cells #[.int .i64 0,.int .i64 0] 25 (0, 0))) := by rw [<- Hw2b.out, <- Hg3.out]; exact heap_alloc_new w2 _
 have k2b := sh hb2b k2
 go_upto_region 4 with (fail)
 rw [Hw2b.out, Hg3.out]
 have x0 : w2b.cell? ⟨g1, 0, none⟩ = some (.int .i64 3) := by simp [World.cell?, k2b.out]
 have x1 : w2b.cell? ⟨g1, 1, none⟩ = some (.int .i64 f) := by simp [World.cell?, k2b.out]
 have x2 : w2b.cell? ⟨g1, 2, none⟩ = some (.int .i64 t) := by simp [World.cell?, k2b.out]
 have x3 : w2b.cell? ⟨g1, 3, none⟩ = some (.int .i64 t0) := by simp [World.cell?, k2b.out]
 have x4 : w2b.cell? ⟨g1, 4, none⟩ = some (.int .i64 t1) := by simp [World.cell?, k2b.out]
 have x5 : w2b.cell? ⟨g1, 5, none⟩ = some (.int .i64 t2) := by simp [World.cell?, k2b.out]
 obtain ⟨g4, Hg4⟩ := nm (w2b.heap.size)
 obtain ⟨w3, Hw3⟩ := nm (w2b.alloc (.cells #[.int .i64 3,.int .i64 f,.int .i64 t,.int .i64 t0,.int .i64 t1,.int .i64 t2,.int .i64 0,.int .i64 0,.int .i64 0,.int .i64 0,.slice none 0 0,.int .i64 0,.int .i64 0,.int .i64 0,.bool false,.slice none 0 0] 29))
 have hb3 := al1 Hw3
 have BW2 := bt B1 hb2
 have BW2b := bt BW2 hb2b
 have HC : Hid (TwM w w3 g1 g3 g4 #[.int .i64 3,.int .i64 f,.int .i64 t,.int .i64 t0,.int .i64 t1,.int .i64 t2,.int .i64 p0,.int .i64 p1,.int .i64 q0,.int .i64 q1,.slice la ln lc,.int .i64 u0,.int .i64 u1,.int .i64 u2,.bool vk,.slice fa fn fc] #[.int .i64 3,.int .i64 f,.int .i64 t,.int .i64 t0,.int .i64 t1,.int .i64 t2,.int .i64 0,.int .i64 0,.int .i64 0,.int .i64 0,.slice none 0 0,.int .i64 0,.int .i64 0,.int .i64 0,.bool false,.slice none 0 0]) := by
  refine ⟨(hb3.out.block g1 (gl k2b.out)).trans k2b.out, (hb3.out.block g3 (gl k3.out)).trans k3.out, ?_, ⟨?_, ?_, ?_⟩, BW2b.out.trans (hb3.out.mono BW2b.out.size)⟩
  . rw [<- Hw3.out, <- Hg4.out]
    exact heap_alloc_new w2b _
  . have h := (gl k2.out)
    have := Hg3.out
    omega
  . have h := (gl k3.out)
    have := Hg4.out
    omega
  . exact Nat.le_of_eq Hg1.out
 go_upto_region 5 with (fail)
 rw [Hw3.out, Hg4.out]
 clear x0 x1 x2 x3 x4 x5 h2 hb2 hb2b hb3 k1 k2 k2b k3 B1 BW2 BW2b Hw1 Hg1 Hw2b Hg3 Hw3 Hg4
 obtain ⟨lb, Hlb⟩ := nm (lgT p0 p1)
 have x0 : w3.cell? ⟨g1, 0, none⟩ = some (.int .i64 3) := HC.out.c 0 _ rfl
 go_upto_region 6 with (fail)
 clear x0
 have x6 : w3.cell? ⟨g1, 6, none⟩ = some (.int .i64 p0) := HC.out.c 6 _ rfl
 have x7 : w3.cell? ⟨g1, 7, none⟩ = some (.int .i64 p1) := HC.out.c 7 _ rfl
 have y6 : w3.cell? ⟨g4, 6, none⟩ = some (.int .i64 0) := HC.out.z 6 _ rfl
 have f6 := HC.out.fz 6
 have y7 : w3.cell? ⟨g4, 7, none⟩ = some (.int .i64 0) := HC.out.z 7 _ rfl
 have f7 := HC.out.fz 7
 obtain ⟨w4, Hwn⟩ := nm (((w3.setCell ⟨g4, 6, none⟩ (.int .i64 p0)).setCell ⟨g4, 7, none⟩ (.int .i64 p1)))
 have HD : Hid (TwM w w4 g1 g3 g4 #[.int .i64 3,.int .i64 f,.int .i64 t,.int .i64 t0,.int .i64 t1,.int .i64 t2,.int .i64 p0,.int .i64 p1,.int .i64 q0,.int .i64 q1,.slice la ln lc,.int .i64 u0,.int .i64 u1,.int .i64 u2,.bool vk,.slice fa fn fc] #[.int .i64 3,.int .i64 f,.int .i64 t,.int .i64 t0,.int .i64 t1,.int .i64 t2,.int .i64 p0,.int .i64 p1,.int .i64 0,.int .i64 0,.slice none 0 0,.int .i64 0,.int .i64 0,.int .i64 0,.bool false,.slice none 0 0]) := by rw [<- Hwn.out]; exact ((HC.out.set 6 _).set 7 _)
 go_upto_region 7 with (fail)
 rw [Hwn.out]
 clear HC x6 y6 f6 x7 y7 f7
 have HC := HD
 clear HD Hwn
 cases lb with
 | false =>
   have x6 : w4.cell? ⟨g1, 6, none⟩ = some (.int .i64 p0) := HC.out.c 6 _ rfl
   have x7 : w4.cell? ⟨g1, 7, none⟩ = some (.int .i64 p1) := HC.out.c 7 _ rfl
   have hlb := Hlb.out
   have HLB := hidI hlb
   clear hlb
   have FV : Hid (v = false) := by rw [<- Hv.out]; show _ = _; unfold mf; simp [kM, gB, gA, gL, gP, gO, gF, goz, HLB.out]
   go_wp2_with (go_at_call 21; refine (legalM_n _ _ _).mono ?_; rintro e wz ⟨rfl, hz⟩; rw [HLB.out])
   go_ret
   exact ⟨by rw [FV.out]; first | done | rfl, HC.out.bel.trans (hz.out.mono HC.out.bel.size)⟩
 | true =>
   have x6 : w4.cell? ⟨g1, 6, none⟩ = some (.int .i64 p0) := HC.out.c 6 _ rfl
   have x7 : w4.cell? ⟨g1, 7, none⟩ = some (.int .i64 p1) := HC.out.c 7 _ rfl
   go_upto_region 9 with (go_at_call 21; refine (legalM_n _ _ _).mono ?_; rintro e w5 ⟨rfl, hz⟩; rw [Hlb.out])
   have HD : Hid (TwM w w5 g1 g3 g4 #[.int .i64 3,.int .i64 f,.int .i64 t,.int .i64 t0,.int .i64 t1,.int .i64 t2,.int .i64 p0,.int .i64 p1,.int .i64 q0,.int .i64 q1,.slice la ln lc,.int .i64 u0,.int .i64 u1,.int .i64 u2,.bool vk,.slice fa fn fc] #[.int .i64 3,.int .i64 f,.int .i64 t,.int .i64 t0,.int .i64 t1,.int .i64 t2,.int .i64 p0,.int .i64 p1,.int .i64 0,.int .i64 0,.slice none 0 0,.int .i64 0,.int .i64 0,.int .i64 0,.bool false,.slice none 0 0]) := HC.out.below hz.out
   clear HC hz x6 x7
   have HC := HD
   clear HD
   have x0 : w5.cell? ⟨g1, 0, none⟩ = some (.int .i64 3) := HC.out.c 0 _ rfl
   go_upto_region 13 with (fail)
   clear x0
   have x0 : w5.cell? ⟨g1, 0, none⟩ = some (.int .i64 3) := HC.out.c 0 _ rfl
   go_upto_region 23 with (fail)
   clear x0
   have x10 : w5.cell? ⟨g1, 10, none⟩ = some (.slice la ln lc) := HC.out.c 10 _ rfl
   have y10 : w5.cell? ⟨g4, 10, none⟩ = some (.slice none 0 0) := HC.out.z 10 _ rfl
   have f10 := HC.out.fz 10
   obtain ⟨w6, Hwn⟩ := nm ((w5.setCell ⟨g4, 10, none⟩ (.slice la ln lc)))
   have HD : Hid (TwM w w6 g1 g3 g4 #[.int .i64 3,.int .i64 f,.int .i64 t,.int .i64 t0,.int .i64 t1,.int .i64 t2,.int .i64 p0,.int .i64 p1,.int .i64 q0,.int .i64 q1,.slice la ln lc,.int .i64 u0,.int .i64 u1,.int .i64 u2,.bool vk,.slice fa fn fc] #[.int .i64 3,.int .i64 f,.int .i64 t,.int .i64 t0,.int .i64 t1,.int .i64 t2,.int .i64 p0,.int .i64 p1,.int .i64 0,.int .i64 0,.slice la ln lc,.int .i64 0,.int .i64 0,.int .i64 0,.bool false,.slice none 0 0]) := by rw [<- Hwn.out]; exact (HC.out.set 10 _)
   go_upto_region 36 with (fail)
   rw [Hwn.out]
   clear HC x10 y10 f10
   have HC := HD
   clear HD Hwn
   have x10 : w6.cell? ⟨g1, 10, none⟩ = some (.slice la ln lc) := HC.out.c 10 _ rfl
   have C6 : Hid (Cms w6 0 la ln X) := hm.out.led.below HC.out.bel
   have MM : Hid (Ms w6 ⟨3, f, t, t0, t1, t2, p0, p1, q0, q1, la, ln, lc, u0, u1, u2, vk, fa, fn, fc⟩ X L) := hm.out.below HC.out.bel
   rcases Bool.eq_false_or_eq_true (ldT ln (led X)) with hw | hw
   rotate_left
   . have FV : Hid (v = false) := by rw [<- Hv.out]; exact mf_led HL.out hw
     have HW := hidI hw
     clear hw
     by_cases hn : 4096 < ln
     . go_wp2_with (go_at_call 22; refine (refwrite_large hn).mono ?_; rintro e wz ⟨rfl, hz⟩)
       go_ret
       exact ⟨by rw [FV.out]; first | done | rfl, HC.out.bel.trans (hz.out.mono HC.out.bel.size)⟩
     . have HB : Hid (∃ x ∈ X, frm x.cm = false) := by
        have h := HW.out
        unfold ldT at h
        rw [decide_eq_true (by omega), Bool.true_and, List.all_eq_false] at h
        obtain ⟨y, hy, hf⟩ := h
        obtain ⟨x, hx, rfl⟩ := List.mem_map.1 hy
        exact ⟨x, hx, by simpa using hf⟩
       go_wp2_with (go_at_call 22; refine (refwrite_no C6 (by omega) HB).mono ?_; rintro e wz ⟨rfl, hz⟩)
       go_ret
       exact ⟨by rw [FV.out]; first | done | rfl, HC.out.bel.trans (hz.out.mono HC.out.bel.size)⟩
   have VV : Hid (v = smB ⟨3, f, t, t0, t1, t2, p0, p1, q0, q1, la, ln, lc, u0, u1, u2, vk, fa, fn, fc⟩ (led X) L ⟨3, f, t, t0, t1, t2, p0, p1, 0, 0, la, ln, lc, 0, 0, 0, false, none, 0, 0⟩ (led X) []) := by rw [<- Hv.out]; exact mfk_3 HL.out HN.out hp.out.1 hp.out.2.1 hp.out.2.2 hw Hlb.out
   have HX : Hid (ln <= 4096 /\ ∀ x ∈ X, frm x.cm = true) := by
    simp only [ldT, Bool.and_eq_true, decide_eq_true_eq] at hw
    exact ⟨hw.1, fun x hx => List.all_eq_true.1 hw.2 x.cm (List.mem_map.2 ⟨x, hx, rfl⟩)⟩
   clear hw
   obtain ⟨ys, hy1, hy2⟩ := frm_all HX.out.2
   have HY1 : Hid (X.map Cx.cm = ys.map Nm.cm) := hy1
   have HY2 : Hid (∀ y ∈ ys, Nb y /\ frm y.cm = true) := hy2
   clear hy1 hy2
   go_upto_region 37 with (go_at_call 22; refine (refwrite_yes C6 HX.out.1 HY1 HY2).mono ?_; rintro e w7 ⟨b7, N7, d7, rfl, h7⟩)
   have HD : Hid (TwM w w7 g1 g3 g4 #[.int .i64 3,.int .i64 f,.int .i64 t,.int .i64 t0,.int .i64 t1,.int .i64 t2,.int .i64 p0,.int .i64 p1,.int .i64 q0,.int .i64 q1,.slice la ln lc,.int .i64 u0,.int .i64 u1,.int .i64 u2,.bool vk,.slice fa fn fc] #[.int .i64 3,.int .i64 f,.int .i64 t,.int .i64 t0,.int .i64 t1,.int .i64 t2,.int .i64 p0,.int .i64 p1,.int .i64 0,.int .i64 0,.slice la ln lc,.int .i64 0,.int .i64 0,.int .i64 0,.bool false,.slice none 0 0]) := HC.out.below h7.out.2.2
   have M7 : Hid (Ms w7 ⟨3, f, t, t0, t1, t2, p0, p1, q0, q1, la, ln, lc, u0, u1, u2, vk, fa, fn, fc⟩ X L) := MM.out.below h7.out.2.2
   have Z7 : Hid (Ms w7 ⟨3, f, t, t0, t1, t2, p0, p1, 0, 0, la, ln, lc, 0, 0, 0, false, none, 0, 0⟩ X []) := ⟨M7.out.led, sln_none _, M7.out.lz, (fun _ => rfl), Nat.le_refl _, (fun y hy => by cases hy)⟩
   go_wp2_with first
    | (refine wpList_load_rowG (by rfl) 29 (.tmp 1) (by rfl) g1 (by rfl) 29 #[.int .i64 3,.int .i64 f,.int .i64 t,.int .i64 t0,.int .i64 t1,.int .i64 t2,.int .i64 p0,.int .i64 p1,.int .i64 q0,.int .i64 q1,.slice la ln lc,.int .i64 u0,.int .i64 u1,.int .i64 u2,.bool vk,.slice fa fn fc] (0, 0) _ HD.out.h1 Tryd.underlying29 rfl (info29 (by rfl)) ?_)
    | (refine wpList_load_rowG (by rfl) 29 (.tmp 4) (by rfl) g4 (by rfl) 29 #[.int .i64 3,.int .i64 f,.int .i64 t,.int .i64 t0,.int .i64 t1,.int .i64 t2,.int .i64 p0,.int .i64 p1,.int .i64 0,.int .i64 0,.slice la ln lc,.int .i64 0,.int .i64 0,.int .i64 0,.bool false,.slice none 0 0] (0, 0) _ HD.out.h4 Tryd.underlying29 rfl (info29 (by rfl)) ?_)
    | (go_at_call 10; refine (sameM_n (hidI rfl) (hidI rfl) M7 Z7).mono ?_; rintro e w8 ⟨rfl, h8⟩; rw [<- VV.out])
   go_ret
   exact ⟨rfl, HD.out.bel.trans (h8.out.mono HD.out.bel.size)⟩
end Go.Proofs.YtppibcambhmomaaDoor
