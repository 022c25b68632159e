import Derived.Test.YtppibcambhmomaaDoorPp
import Derived.Test.YtppibcambhmomaaDoorP34
namespace Go.Proofs.YtppibcambhmomaaDoor
open Go.ChangeShapes Go.WideShapes Go.ChangeAt Go.RowKit
set_option maxRecDepth 20000
set_option linter.unusedVariables false
set_option linter.unusedSimpArgs false
def rMs (l : List Nat) := andR (andR (andR (andR (andR (andR (andR (andR (andR (andR nop (nuR l)) (nuR l)) (nuR l)) (rId l)) (rBal l)) (rBal l)) (rId l)) (obR l)) (rLd l)) (lft l)
structure Mr (w W : World) (g gR g2 g3 B : Nat) (a : Option Addr) (n c : Nat) (l : List Nat) (o : Option Nat) (A : Array Value) : Prop where
 rm : Rm W g gR B a n c l o
 k2 : W.heap[g2]? = some (.cells #[.int .i64 0,.int .i64 0,.int .i64 0,.int .i64 0,.int .i64 0,.int .i64 0,.int .i64 0,.int .i64 0,.int .i64 0,.int .i64 0,.slice none 0 0,.int .i64 0,.int .i64 0,.int .i64 0,.bool false,.slice none 0 0] 29 (0, 0))
 k3 : W.heap[g3]? = some (.cells A 29 (0, 0))
 ne : g < w.heap.size /\ gR < w.heap.size /\ g2 = w.heap.size /\ g3 = w.heap.size + 1
 ap : ∀ q, blkOf a = some q -> q < w.heap.size
 fr : Rf w W g gR
section
variable {w W W' : World} {g gR g2 g3 B : Nat} {a : Option Addr} {n c : Nat} {l : List Nat} {o o' : Option Nat} {A : Array Value}
theorem Mr.c3 (h : Mr w W g gR g2 g3 B a n c l o A) (j : Nat) (v : Value) (hv : A[j]? = some v) : W.cell? ⟨g3, j, none⟩ = some v := by simp [World.cell?, h.k3, hv]
theorem Mr.f3 (h : Mr w W g gR g2 g3 B a n c l o A) (j : Nat) : W.frozen? ⟨g3, j, none⟩ = false := fz h.k3 j
theorem Mr.step (h : Mr w W g gR g2 g3 B a n c l o A) (hR : Rm W' g gR B a n c l o') (hf : Rf W W' g gR) : Mr w W' g gR g2 g3 B a n c l o' A := by
 have e := h.ne
 exact ⟨hR, (hf.block g2 (gl h.k2) (by omega) (by omega)).trans h.k2, (hf.block g3 (gl h.k3) (by omega) (by omega)).trans h.k3, h.ne, h.ap, h.fr.trans hf⟩
theorem Mr.set (h : Mr w W g gR g2 g3 B a n c l o A) (i : Nat) (v : Value) : Mr w (W.setCell ⟨g3, i, none⟩ v) g gR g2 g3 B a n c l o (A.setIfInBounds i v) := by
 have e := h.ne
 exact ⟨h.rm.set (by omega) (by omega) (fun e2 => by have := h.ap g3 e2; omega), (heap_setCell_other W ⟨g3, i, none⟩ g2 v (by show g2 ≠ g3; omega)).trans h.k2, set_blk h.k3 i v, h.ne, h.ap, h.fr.cell (by omega) i v⟩
theorem Mr.lt (h : Mr w W g gR g2 g3 B a n c l o A) : g3 < W.heap.size := (gl h.k3)
end
theorem Oc.frame {W W' : World} {lo : Nat} {a : Option Addr} {n c : Nat} {X : List Cx} (h : Oc W lo a n c X) (hb : ∀ k, lo <= k -> k < W.heap.size -> W'.heap[k]? = W.heap[k]?) : Oc W' lo a n c X :=
 ⟨rown_bel h.row (fun r hr => hb r (h.row.lt r hr).1 (h.row.lt r hr).2), h.sz, (fun x hx => ⟨rown_bel (h.ps x hx).1 (fun r hr => hb r ((h.ps x hx).1.lt r hr).1 ((h.ps x hx).1.lt r hr).2), (h.ps x hx).2⟩), h.st⟩
theorem Oc.low {W : World} {lo lo' : Nat} {a : Option Addr} {n c : Nat} {X : List Cx} (h : Oc W lo a n c X) (hl : lo' <= lo) : Oc W lo' a n c X :=
 ⟨rown_mono h.row hl, h.sz, (fun x hx => ⟨rown_mono (h.ps x hx).1 hl, (h.ps x hx).2⟩), h.st⟩
structure MsO (w w' : World) (y : Nmg) (ys : List Nm) (L : List Nat) (la : Option Addr) (ln lc : Nat) (fa : Option Addr) (fn fc : Nat) : Prop where
 led : ∃ Y, led Y = ys.map Nm.cm /\ Oc w' w.heap.size la ln lc Y
 fr : Own w' w.heap.size fa fn fc L
 nlt : Nlt y 9223372036854775808
 len : L.length <= 140737488352256
set_option maxHeartbeats 8000000 in
theorem message_rm {w : World} {g gR B : Nat} {M : Nat -> Prop} {E : Nat -> Addr} {a : Option Addr} {n c : Nat} {l : List Nat} {o : Option Nat} (h : Hid (Rm w g gR B a n c l o)) (hM : M 1) (hM3 : M 3) (hl : Hid (l.length <= 140737488352256)) (hb : Hid (∀ W, Rf w W g gR -> Sent W M E)) :
  Calls Tryd.prog 50 #[.pointer (some ⟨gR, 0, none⟩)] w fun e w' => ∃ (A : Array Value) (y : Nmg) (ys : List Nm) (L : List Nat) (la : Option Addr) (ln lc : Nat) (fa : Option Addr) (fn fc : Nat) (v : Nat) (o' : Option Nat), e = .returned (.agg A) /\ Hid (A = (encM (y.mc la ln lc fa fn fc)).toArray /\ y.ok = decide (v = 1) /\ MsO w w' y ys L la ln lc fa fn fc /\ Rm w' g gR B a n c l o' /\ Rf w w' g gR /\ o.bind (rMs l) = o'.map (fun q => ((((((((((((), y.K), y.F), y.T), ((((), y.t0), y.t1), y.t2)), (((), y.b0), y.b1)), (((), y.a0), y.a1)), ((((), y.B0), y.B1), y.B2)), v), ys), L), q))) := by
 obtain ⟨g2, Hg2⟩ := nm (w.heap.size)
 obtain ⟨g3, Hg3⟩ := nm (w.heap.size + 1)
 have G3 : Hid (g2 + 1 = g3) := by rw [<- Hg2.out]; exact Hg3.out
 obtain ⟨w1, Hw1⟩ := nm ((w.alloc (.cells #[.int .i64 0,.int .i64 0,.int .i64 0,.int .i64 0,.int .i64 0,.int .i64 0,.int .i64 0,.int .i64 0,.int .i64 0,.int .i64 0,.slice none 0 0,.int .i64 0,.int .i64 0,.int .i64 0,.bool false,.slice none 0 0] 29)).alloc (.cells #[.int .i64 0,.int .i64 0,.int .i64 0,.int .i64 0,.int .i64 0,.int .i64 0,.int .i64 0,.int .i64 0,.int .i64 0,.int .i64 0,.slice none 0 0,.int .i64 0,.int .i64 0,.int .i64 0,.bool false,.slice none 0 0] 29))
 have S : Hid (Mr w w1 g gR g2 g3 B a n c l o #[.int .i64 0,.int .i64 0,.int .i64 0,.int .i64 0,.int .i64 0,.int .i64 0,.int .i64 0,.int .i64 0,.int .i64 0,.int .i64 0,.slice none 0 0,.int .i64 0,.int .i64 0,.int .i64 0,.bool false,.slice none 0 0]) := by
  have b : Below w.heap.size w w1 := by rw [<- Hw1.out]; exact alloc2 w _ _
  refine ⟨h.out.below b, ?_, ?_, ⟨h.out.lt.2, h.out.lt.1, Hg2.out.symm, Hg3.out.symm⟩, h.out.ag, Rf.of_below b⟩
  . rw [<- Hw1.out, <- Hg2.out]
    exact ((alloc1 _ _).block w.heap.size (by simp)).trans (heap_alloc_new w _)
  . rw [<- Hw1.out, <- Hg3.out]
    show _ = _
    have hh := heap_alloc_new (w.alloc (.cells #[.int .i64 0,.int .i64 0,.int .i64 0,.int .i64 0,.int .i64 0,.int .i64 0,.int .i64 0,.int .i64 0,.int .i64 0,.int .i64 0,.slice none 0 0,.int .i64 0,.int .i64 0,.int .i64 0,.bool false,.slice none 0 0] 29)) (.cells #[.int .i64 0,.int .i64 0,.int .i64 0,.int .i64 0,.int .i64 0,.int .i64 0,.int .i64 0,.int .i64 0,.int .i64 0,.int .i64 0,.slice none 0 0,.int .i64 0,.int .i64 0,.int .i64 0,.bool false,.slice none 0 0] 29)
    simpa using hh
 have R : Hid (o.bind nop = o.map (fun q => ((), q))) := nop_rel o
 have HB : Hid (∀ {W : World} {o' : Option Nat} {A : Array Value}, Mr w W g gR g2 g3 B a n c l o' A -> Sent W M E) := fun {W o' A} h => hb.out W h.fr
 have HB2 : Hid (∀ {W : World} {o' : Option Nat} {A : Array Value}, Mr w W g gR g2 g3 B a n c l o' A -> ∀ W', Rf W W' g gR -> Sent W' M E) := fun {W o' A} h W' h2 => hb.out W' (h.fr.trans h2)
 go_enter Tryd.func50, Tryd.ntmps50
 go_upto_region 2 with (fail)
 rw [Hw1.out, Hg3.out, Hg2.out]
 clear Hw1
 go_upto_region 3 with (go_at_call 63; refine (num_rm (show Hid (Rm w1 g gR B a n c l o) from S.out.rm) (by omega) (show Hid (Sent w1 M E) from HB.out S.out) hM).mono ?_; rintro e w2a ⟨K, o1, rfl, H⟩; have T : Hid (Mr w w2a g gR g2 g3 B a n c l o1 #[.int .i64 0,.int .i64 0,.int .i64 0,.int .i64 0,.int .i64 0,.int .i64 0,.int .i64 0,.int .i64 0,.int .i64 0,.int .i64 0,.slice none 0 0,.int .i64 0,.int .i64 0,.int .i64 0,.bool false,.slice none 0 0]) := S.out.step H.out.1 H.out.2.1; have q0 := T.out.c3 0 _ rfl; have f0 := T.out.f3 0)
 have R := hidI (andR_rel (g := nuR l) R.out H.out.2.2.1)
 have LT1 : Hid (K < 9223372036854775808) := H.out.2.2.2
 obtain ⟨w2b, Hw⟩ := nm ((w2a.setCell ⟨g3, 0, none⟩ (.int .i64 (K : Int))))
 have S2 : Hid (Mr w w2b g gR g2 g3 B a n c l o1 #[.int .i64 (K : Int),.int .i64 0,.int .i64 0,.int .i64 0,.int .i64 0,.int .i64 0,.int .i64 0,.int .i64 0,.int .i64 0,.int .i64 0,.slice none 0 0,.int .i64 0,.int .i64 0,.int .i64 0,.bool false,.slice none 0 0]) := by rw [<- Hw.out]; exact (T.out.set 0 _)
 rw [Hw.out]
 clear Hw S T H q0 f0
 have S := S2
 clear S2
 go_upto_region 4 with (go_at_call 63; refine (num_rm (show Hid (Rm w2b g gR B a n c l o1) from S.out.rm) (by omega) (show Hid (Sent w2b M E) from HB.out S.out) hM).mono ?_; rintro e w3a ⟨Fm, o2, rfl, H⟩; have T : Hid (Mr w w3a g gR g2 g3 B a n c l o2 #[.int .i64 (K : Int),.int .i64 0,.int .i64 0,.int .i64 0,.int .i64 0,.int .i64 0,.int .i64 0,.int .i64 0,.int .i64 0,.int .i64 0,.slice none 0 0,.int .i64 0,.int .i64 0,.int .i64 0,.bool false,.slice none 0 0]) := S.out.step H.out.1 H.out.2.1; have q1 := T.out.c3 1 _ rfl; have f1 := T.out.f3 1)
 have R := hidI (andR_rel (g := nuR l) R.out H.out.2.2.1)
 have LT2 : Hid (Fm < 9223372036854775808) := H.out.2.2.2
 obtain ⟨w3b, Hw⟩ := nm ((w3a.setCell ⟨g3, 1, none⟩ (.int .i64 (Fm : Int))))
 have S2 : Hid (Mr w w3b g gR g2 g3 B a n c l o2 #[.int .i64 (K : Int),.int .i64 (Fm : Int),.int .i64 0,.int .i64 0,.int .i64 0,.int .i64 0,.int .i64 0,.int .i64 0,.int .i64 0,.int .i64 0,.slice none 0 0,.int .i64 0,.int .i64 0,.int .i64 0,.bool false,.slice none 0 0]) := by rw [<- Hw.out]; exact (T.out.set 1 _)
 rw [Hw.out]
 clear Hw S T H q1 f1
 have S := S2
 clear S2
 go_upto_region 5 with (go_at_call 63; refine (num_rm (show Hid (Rm w3b g gR B a n c l o2) from S.out.rm) (by omega) (show Hid (Sent w3b M E) from HB.out S.out) hM).mono ?_; rintro e w4a ⟨Tm, o3, rfl, H⟩; have T : Hid (Mr w w4a g gR g2 g3 B a n c l o3 #[.int .i64 (K : Int),.int .i64 (Fm : Int),.int .i64 0,.int .i64 0,.int .i64 0,.int .i64 0,.int .i64 0,.int .i64 0,.int .i64 0,.int .i64 0,.slice none 0 0,.int .i64 0,.int .i64 0,.int .i64 0,.bool false,.slice none 0 0]) := S.out.step H.out.1 H.out.2.1; have q2 := T.out.c3 2 _ rfl; have f2 := T.out.f3 2)
 have R := hidI (andR_rel (g := nuR l) R.out H.out.2.2.1)
 have LT3 : Hid (Tm < 9223372036854775808) := H.out.2.2.2
 obtain ⟨w4b, Hw⟩ := nm ((w4a.setCell ⟨g3, 2, none⟩ (.int .i64 (Tm : Int))))
 have S2 : Hid (Mr w w4b g gR g2 g3 B a n c l o3 #[.int .i64 (K : Int),.int .i64 (Fm : Int),.int .i64 (Tm : Int),.int .i64 0,.int .i64 0,.int .i64 0,.int .i64 0,.int .i64 0,.int .i64 0,.int .i64 0,.slice none 0 0,.int .i64 0,.int .i64 0,.int .i64 0,.bool false,.slice none 0 0]) := by rw [<- Hw.out]; exact (T.out.set 2 _)
 rw [Hw.out]
 clear Hw S T H q2 f2
 have S := S2
 clear S2
 go_upto_region 6 with (go_at_call 64; refine (id_rm (show Hid (Rm w4b g gR B a n c l o3) from S.out.rm) hM (show Hid (∀ W, Rf w4b W g gR -> Sent W M E) from HB2.out S.out)).mono ?_; rintro e w5a ⟨t0, t1, t2, o4, rfl, H⟩; have T : Hid (Mr w w5a g gR g2 g3 B a n c l o4 #[.int .i64 (K : Int),.int .i64 (Fm : Int),.int .i64 (Tm : Int),.int .i64 0,.int .i64 0,.int .i64 0,.int .i64 0,.int .i64 0,.int .i64 0,.int .i64 0,.slice none 0 0,.int .i64 0,.int .i64 0,.int .i64 0,.bool false,.slice none 0 0]) := S.out.step H.out.1 H.out.2.1; have q3 := T.out.c3 3 _ rfl; have f3 := T.out.f3 3; have q4 := T.out.c3 4 _ rfl; have f4 := T.out.f3 4; have q5 := T.out.c3 5 _ rfl; have f5 := T.out.f3 5)
 have R := hidI (andR_rel (g := rId l) R.out H.out.2.2.1)
 have LT4 := hidI H.out.2.2.2
 obtain ⟨w5b, Hw⟩ := nm ((((w5a.setCell ⟨g3, 3, none⟩ (.int .i64 (t0 : Int))).setCell ⟨g3, 4, none⟩ (.int .i64 (t1 : Int))).setCell ⟨g3, 5, none⟩ (.int .i64 (t2 : Int))))
 have S2 : Hid (Mr w w5b g gR g2 g3 B a n c l o4 #[.int .i64 (K : Int),.int .i64 (Fm : Int),.int .i64 (Tm : Int),.int .i64 (t0 : Int),.int .i64 (t1 : Int),.int .i64 (t2 : Int),.int .i64 0,.int .i64 0,.int .i64 0,.int .i64 0,.slice none 0 0,.int .i64 0,.int .i64 0,.int .i64 0,.bool false,.slice none 0 0]) := by rw [<- Hw.out]; exact (((T.out.set 3 _).set 4 _).set 5 _)
 rw [Hw.out]
 clear Hw S T H q3 f3 q4 f4 q5 f5
 have S := S2
 clear S2
 go_upto_region 7 with (go_at_call 65; refine (bal_rm (show Hid (Rm w5b g gR B a n c l o4) from S.out.rm) hM (show Hid (∀ W, Rf w5b W g gR -> Sent W M E) from HB2.out S.out)).mono ?_; rintro e w6a ⟨b0, b1, o5, rfl, H⟩; have T : Hid (Mr w w6a g gR g2 g3 B a n c l o5 #[.int .i64 (K : Int),.int .i64 (Fm : Int),.int .i64 (Tm : Int),.int .i64 (t0 : Int),.int .i64 (t1 : Int),.int .i64 (t2 : Int),.int .i64 0,.int .i64 0,.int .i64 0,.int .i64 0,.slice none 0 0,.int .i64 0,.int .i64 0,.int .i64 0,.bool false,.slice none 0 0]) := S.out.step H.out.1 H.out.2.1; have q6 := T.out.c3 6 _ rfl; have f6 := T.out.f3 6; have q7 := T.out.c3 7 _ rfl; have f7 := T.out.f3 7)
 have R := hidI (andR_rel (g := rBal l) R.out H.out.2.2.1)
 have LT5 := hidI H.out.2.2.2
 obtain ⟨w6b, Hw⟩ := nm (((w6a.setCell ⟨g3, 6, none⟩ (.int .i64 (b0 : Int))).setCell ⟨g3, 7, none⟩ (.int .i64 (b1 : Int))))
 have S2 : Hid (Mr w w6b g gR g2 g3 B a n c l o5 #[.int .i64 (K : Int),.int .i64 (Fm : Int),.int .i64 (Tm : Int),.int .i64 (t0 : Int),.int .i64 (t1 : Int),.int .i64 (t2 : Int),.int .i64 (b0 : Int),.int .i64 (b1 : Int),.int .i64 0,.int .i64 0,.slice none 0 0,.int .i64 0,.int .i64 0,.int .i64 0,.bool false,.slice none 0 0]) := by rw [<- Hw.out]; exact ((T.out.set 6 _).set 7 _)
 rw [Hw.out]
 clear Hw S T H q6 f6 q7 f7
 have S := S2
 clear S2
 go_upto_region 8 with (go_at_call 65; refine (bal_rm (show Hid (Rm w6b g gR B a n c l o5) from S.out.rm) hM (show Hid (∀ W, Rf w6b W g gR -> Sent W M E) from HB2.out S.out)).mono ?_; rintro e w7a ⟨a0, a1, o6, rfl, H⟩; have T : Hid (Mr w w7a g gR g2 g3 B a n c l o6 #[.int .i64 (K : Int),.int .i64 (Fm : Int),.int .i64 (Tm : Int),.int .i64 (t0 : Int),.int .i64 (t1 : Int),.int .i64 (t2 : Int),.int .i64 (b0 : Int),.int .i64 (b1 : Int),.int .i64 0,.int .i64 0,.slice none 0 0,.int .i64 0,.int .i64 0,.int .i64 0,.bool false,.slice none 0 0]) := S.out.step H.out.1 H.out.2.1; have q8 := T.out.c3 8 _ rfl; have f8 := T.out.f3 8; have q9 := T.out.c3 9 _ rfl; have f9 := T.out.f3 9)
 have R := hidI (andR_rel (g := rBal l) R.out H.out.2.2.1)
 have LT6 := hidI H.out.2.2.2
 obtain ⟨w7b, Hw⟩ := nm (((w7a.setCell ⟨g3, 8, none⟩ (.int .i64 (a0 : Int))).setCell ⟨g3, 9, none⟩ (.int .i64 (a1 : Int))))
 have S2 : Hid (Mr w w7b g gR g2 g3 B a n c l o6 #[.int .i64 (K : Int),.int .i64 (Fm : Int),.int .i64 (Tm : Int),.int .i64 (t0 : Int),.int .i64 (t1 : Int),.int .i64 (t2 : Int),.int .i64 (b0 : Int),.int .i64 (b1 : Int),.int .i64 (a0 : Int),.int .i64 (a1 : Int),.slice none 0 0,.int .i64 0,.int .i64 0,.int .i64 0,.bool false,.slice none 0 0]) := by rw [<- Hw.out]; exact ((T.out.set 8 _).set 9 _)
 rw [Hw.out]
 clear Hw S T H q8 f8 q9 f9
 have S := S2
 clear S2
 go_upto_region 9 with (go_at_call 64; refine (id_rm (show Hid (Rm w7b g gR B a n c l o6) from S.out.rm) hM (show Hid (∀ W, Rf w7b W g gR -> Sent W M E) from HB2.out S.out)).mono ?_; rintro e w8a ⟨B0, B1, B2, o7, rfl, H⟩; have T : Hid (Mr w w8a g gR g2 g3 B a n c l o7 #[.int .i64 (K : Int),.int .i64 (Fm : Int),.int .i64 (Tm : Int),.int .i64 (t0 : Int),.int .i64 (t1 : Int),.int .i64 (t2 : Int),.int .i64 (b0 : Int),.int .i64 (b1 : Int),.int .i64 (a0 : Int),.int .i64 (a1 : Int),.slice none 0 0,.int .i64 0,.int .i64 0,.int .i64 0,.bool false,.slice none 0 0]) := S.out.step H.out.1 H.out.2.1; have q11 := T.out.c3 11 _ rfl; have f11 := T.out.f3 11; have q12 := T.out.c3 12 _ rfl; have f12 := T.out.f3 12; have q13 := T.out.c3 13 _ rfl; have f13 := T.out.f3 13)
 have R := hidI (andR_rel (g := rId l) R.out H.out.2.2.1)
 have LT7 := hidI H.out.2.2.2
 obtain ⟨w8b, Hw⟩ := nm ((((w8a.setCell ⟨g3, 11, none⟩ (.int .i64 (B0 : Int))).setCell ⟨g3, 12, none⟩ (.int .i64 (B1 : Int))).setCell ⟨g3, 13, none⟩ (.int .i64 (B2 : Int))))
 have S2 : Hid (Mr w w8b g gR g2 g3 B a n c l o7 #[.int .i64 (K : Int),.int .i64 (Fm : Int),.int .i64 (Tm : Int),.int .i64 (t0 : Int),.int .i64 (t1 : Int),.int .i64 (t2 : Int),.int .i64 (b0 : Int),.int .i64 (b1 : Int),.int .i64 (a0 : Int),.int .i64 (a1 : Int),.slice none 0 0,.int .i64 (B0 : Int),.int .i64 (B1 : Int),.int .i64 (B2 : Int),.bool false,.slice none 0 0]) := by rw [<- Hw.out]; exact (((T.out.set 11 _).set 12 _).set 13 _)
 rw [Hw.out]
 clear Hw S T H q11 f11 q12 f12 q13 f13
 have S := S2
 clear S2
 go_upto_region 10 with (go_at_call 63; refine (num_rm (show Hid (Rm w8b g gR B a n c l o7) from S.out.rm) (by omega) (show Hid (Sent w8b M E) from HB.out S.out) hM).mono ?_; rintro e w9a ⟨v, o8, rfl, H⟩; have T : Hid (Mr w w9a g gR g2 g3 B a n c l o8 #[.int .i64 (K : Int),.int .i64 (Fm : Int),.int .i64 (Tm : Int),.int .i64 (t0 : Int),.int .i64 (t1 : Int),.int .i64 (t2 : Int),.int .i64 (b0 : Int),.int .i64 (b1 : Int),.int .i64 (a0 : Int),.int .i64 (a1 : Int),.slice none 0 0,.int .i64 (B0 : Int),.int .i64 (B1 : Int),.int .i64 (B2 : Int),.bool false,.slice none 0 0]) := S.out.step H.out.1 H.out.2.1; have q14 := T.out.c3 14 _ rfl; have f14 := T.out.f3 14; obtain ⟨vb, hvb⟩ : ∃ b : Bool, ((v : Int) == 1) = b := ⟨_, rfl⟩)
 have R := hidI (andR_rel (g := obR l) R.out H.out.2.2.1)
 have LT8 : Hid (v < 9223372036854775808) := H.out.2.2.2
 have VB : Hid (vb = decide (v = 1)) := by
  show _ = _
  rw [<- hvb]
  by_cases h : v = 1
  . subst h; rfl
  . rw [decide_eq_false h]
    have h2 : ¬ ((v : Int) = 1) := by omega
    simpa using h2
 clear hvb
 obtain ⟨w9b, Hw⟩ := nm ((w9a.setCell ⟨g3, 14, none⟩ (.bool vb)))
 have S2 : Hid (Mr w w9b g gR g2 g3 B a n c l o8 #[.int .i64 (K : Int),.int .i64 (Fm : Int),.int .i64 (Tm : Int),.int .i64 (t0 : Int),.int .i64 (t1 : Int),.int .i64 (t2 : Int),.int .i64 (b0 : Int),.int .i64 (b1 : Int),.int .i64 (a0 : Int),.int .i64 (a1 : Int),.slice none 0 0,.int .i64 (B0 : Int),.int .i64 (B1 : Int),.int .i64 (B2 : Int),.bool vb,.slice none 0 0]) := by rw [<- Hw.out]; exact (T.out.set 14 _)
 rw [Hw.out]
 clear Hw S T H q14 f14
 have S := S2
 clear S2
 go_upto_region 11 with (go_at_call 66; refine (ledger_rm (show Hid (Rm w9b g gR B a n c l o8) from S.out.rm) (show Hid (Sent w9b M E) from HB.out S.out) hM hM3 hl (show Hid (∀ W, Rf w9b W g gR -> Sent W M E) from HB2.out S.out)).mono ?_; rintro e w10a ⟨la, ln, lc, o9, ys, rfl, H⟩; have T : Hid (Mr w w10a g gR g2 g3 B a n c l o9 #[.int .i64 (K : Int),.int .i64 (Fm : Int),.int .i64 (Tm : Int),.int .i64 (t0 : Int),.int .i64 (t1 : Int),.int .i64 (t2 : Int),.int .i64 (b0 : Int),.int .i64 (b1 : Int),.int .i64 (a0 : Int),.int .i64 (a1 : Int),.slice none 0 0,.int .i64 (B0 : Int),.int .i64 (B1 : Int),.int .i64 (B2 : Int),.bool vb,.slice none 0 0]) := S.out.step H.out.2.1 H.out.2.2.1; have q10 := T.out.c3 10 _ rfl; have f10 := T.out.f3 10)
 have R := hidI (andR_rel (g := rLd l) R.out H.out.2.2.2)
 have HL : Hid (∃ Y, led Y = ys.map Nm.cm /\ Oc w10a w9b.heap.size la ln lc Y) := H.out.1
 have WL : Hid (w.heap.size <= w9b.heap.size /\ g3 < w9b.heap.size /\ g < w9b.heap.size /\ gR < w9b.heap.size) := ⟨S.out.fr.size, S.out.lt, S.out.rm.lt.2, S.out.rm.lt.1⟩
 obtain ⟨w10b, Hw⟩ := nm ((w10a.setCell ⟨g3, 10, none⟩ (.slice la ln lc)))
 have S2 : Hid (Mr w w10b g gR g2 g3 B a n c l o9 #[.int .i64 (K : Int),.int .i64 (Fm : Int),.int .i64 (Tm : Int),.int .i64 (t0 : Int),.int .i64 (t1 : Int),.int .i64 (t2 : Int),.int .i64 (b0 : Int),.int .i64 (b1 : Int),.int .i64 (a0 : Int),.int .i64 (a1 : Int),.slice la ln lc,.int .i64 (B0 : Int),.int .i64 (B1 : Int),.int .i64 (B2 : Int),.bool vb,.slice none 0 0]) := by rw [<- Hw.out]; exact (T.out.set 10 _)
 have HL2 : Hid (∃ Y, led Y = ys.map Nm.cm /\ Oc w10b w9b.heap.size la ln lc Y) := by
  obtain ⟨Y, hY, hO⟩ := HL.out
  refine ⟨Y, hY, hO.frame (fun k hk _ => ?_)⟩
  rw [<- Hw.out]
  exact heap_setCell_other _ ⟨g3, 10, none⟩ k _ (by have := WL.out; show k ≠ g3; omega)
 rw [Hw.out]
 clear Hw S T H q10 f10
 have S := S2
 clear S2
 go_upto_region 12 with (go_at_call 67; refine (bytes_rm (show Hid (Rm w10b g gR B a n c l o9) from S.out.rm) (show Hid (Sent w10b M E) from HB.out S.out) hM).mono ?_; rintro e w11a ⟨fa, fn, fc, L, o10, rfl, H⟩; have T : Hid (Mr w w11a g gR g2 g3 B a n c l o10 #[.int .i64 (K : Int),.int .i64 (Fm : Int),.int .i64 (Tm : Int),.int .i64 (t0 : Int),.int .i64 (t1 : Int),.int .i64 (t2 : Int),.int .i64 (b0 : Int),.int .i64 (b1 : Int),.int .i64 (a0 : Int),.int .i64 (a1 : Int),.slice la ln lc,.int .i64 (B0 : Int),.int .i64 (B1 : Int),.int .i64 (B2 : Int),.bool vb,.slice none 0 0]) := S.out.step H.out.2.1 H.out.2.2.1; have q15 := T.out.c3 15 _ rfl; have f15 := T.out.f3 15)
 have R := hidI (andR_rel (g := lft l) R.out H.out.2.2.2.1)
 have HF : Hid (Own w11a w10b.heap.size fa fn fc L /\ L.length <= l.length) := ⟨H.out.1, H.out.2.2.2.2⟩
 have FF : Hid (Rf w10b w11a g gR) := H.out.2.2.1
 have WF : Hid (w.heap.size <= w10b.heap.size /\ g3 < w10b.heap.size) := ⟨S.out.fr.size, S.out.lt⟩
 obtain ⟨w11b, Hw⟩ := nm ((w11a.setCell ⟨g3, 15, none⟩ (.slice fa fn fc)))
 have S2 : Hid (Mr w w11b g gR g2 g3 B a n c l o10 #[.int .i64 (K : Int),.int .i64 (Fm : Int),.int .i64 (Tm : Int),.int .i64 (t0 : Int),.int .i64 (t1 : Int),.int .i64 (t2 : Int),.int .i64 (b0 : Int),.int .i64 (b1 : Int),.int .i64 (a0 : Int),.int .i64 (a1 : Int),.slice la ln lc,.int .i64 (B0 : Int),.int .i64 (B1 : Int),.int .i64 (B2 : Int),.bool vb,.slice fa fn fc]) := by rw [<- Hw.out]; exact (T.out.set 15 _)
 rw [Hw.out]
 clear S T H q15 f15
 have S := S2
 clear S2
 obtain ⟨A, HA⟩ : ∃ A : Array Value, Hid (A = (#[.int .i64 (K : Int),.int .i64 (Fm : Int),.int .i64 (Tm : Int),.int .i64 (t0 : Int),.int .i64 (t1 : Int),.int .i64 (t2 : Int),.int .i64 (b0 : Int),.int .i64 (b1 : Int),.int .i64 (a0 : Int),.int .i64 (a1 : Int),.slice la ln lc,.int .i64 (B0 : Int),.int .i64 (B1 : Int),.int .i64 (B2 : Int),.bool vb,.slice fa fn fc] : Array Value)) := ⟨_, rfl⟩
 have HAe : Hid (A = (encM (Nmg.mc ⟨K, Fm, Tm, t0, t1, t2, b0, b1, a0, a1, B0, B1, B2, vb⟩ la ln lc fa fn fc)).toArray) := HA.out
 have a16 : A.size = 16 := encM_sz HAe.out
 have SA : Hid (Mr w w11b g gR g2 g3 B a n c l o10 A) := by rw [HA.out]; exact S.out
 clear S HA
 go_wp2_with first
  | (refine wpList_load_row (by rfl) 29 (.tmp 3) (by rfl) g3 (by rfl) 29 A (0, 0) _ SA.out.k3 Tryd.underlying29 rfl (info29 a16) ?_)
  | (refine wpList_store_row (by rfl) 29 (.tmp 2) (.tmp 35) (by rfl) g2 A (by rfl) (by rfl) 29 _ SA.out.k2 (info29 a16) a16.symm (encM_all HAe.out) ?_)
 refine bodyPost_ret (res1_29 Tryd.results50 _ _ g2 A (by rfl) (setRow_heap _ _ _ _ _ _ SA.out.k2) a16) rfl ?_
 have NE := SA.out.ne
 have oth : ∀ k, k ≠ g2 -> (w11b.setRow g2 A).heap[k]? = w11b.heap[k]? := fun k hk => setRow_other _ _ _ _ hk
 refine ⟨A, ⟨K, Fm, Tm, t0, t1, t2, b0, b1, a0, a1, B0, B1, B2, vb⟩, ys, L, la, ln, lc, fa, fn, fc, v, o10, rfl, HAe.out, VB.out, ⟨?_, ?_, ⟨LT1.out, LT2.out, LT3.out, LT4.out.1, LT4.out.2.1, LT4.out.2.2, LT5.out.1, LT5.out.2, LT6.out.1, LT6.out.2, LT7.out.1, LT7.out.2.1, LT7.out.2.2⟩, Nat.le_trans HF.out.2 hl.out⟩, SA.out.rm.frame (k := g2) oth (by omega) (by omega) (fun e => by have := SA.out.ap g2 e; omega), SA.out.fr.row (by omega) A, R.out⟩
 . obtain ⟨Y, hY, hO⟩ := HL2.out
   refine ⟨Y, hY, (hO.frame (fun k hk hk2 => ?_)).low WL.out.1⟩
   have e1 : w11b.heap[k]? = w11a.heap[k]? := by rw [<- Hw.out]; exact heap_setCell_other _ ⟨g3, 15, none⟩ k _ (by have := WL.out; show k ≠ g3; omega)
   exact (oth k (by have := WL.out; omega)).trans (e1.trans (FF.out.block k hk2 (by have := WL.out; omega) (by have := WL.out; omega)))
 . refine (HF.out.1.block (fun q hq => ?_)).le WF.out.1
   have h1 := (HF.out.1.ge q hq).1
   have e1 : w11b.heap[q]? = w11a.heap[q]? := by rw [<- Hw.out]; exact heap_setCell_other _ ⟨g3, 15, none⟩ q _ (by have := WF.out; show q ≠ g3; omega)
   exact (oth q (by have := WF.out; omega)).trans e1
end Go.Proofs.YtppibcambhmomaaDoor
