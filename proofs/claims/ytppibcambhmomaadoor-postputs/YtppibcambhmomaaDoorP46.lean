import Derived.Test.YtppibcambhmomaaDoorPp
import Derived.Test.YtppibcambhmomaaDoorP36
import Derived.Test.YtppibcambhmomaaDoorP32
import Derived.Test.YtppibcambhmomaaDoorP45
import Derived.Test.YtppibcambhmomaaDoorP09
import Derived.Test.YtppibcambhmomaaDoorP13
namespace Go.Proofs.YtppibcambhmomaaDoor
set_option maxRecDepth 20000
set_option linter.unusedVariables false
set_option linter.unusedSimpArgs false
theorem andR_some {α β : Type} {f : Nat -> Option (α × Nat)} {g : Nat -> Option (β × Nat)} {p q r : Nat} {a : α} {b : β} (h1 : f p = some (a, q)) (h2 : g q = some (b, r)) : andR f g p = some ((a, b), r) := by
 unfold andR
 rw [h1, Option.bind_some]
 simp only [h2, Option.bind_some]
theorem le_drop {l a t : List Nat} {p : Nat} (hp : p <= l.length) (h : l.drop p = a ++ t) : p + a.length <= l.length /\ a.length <= l.length - p := by
 have := congrArg List.length h
 simp only [List.length_drop, List.length_append] at this
 omega
theorem nu_there {l t : List Nat} {p X : Nat} (hp : p <= l.length) (h : l.drop p = enc X ++ t) (hX : X < 9223372036854775808) : ∃ q, nuR l p = some (X, q) /\ l.drop q = t /\ q <= l.length := by
 obtain ⟨h1, h2⟩ := rn_there (z := 9223372036854775807) h hX (by omega)
 exact ⟨_, h1, h2, (le_drop hp h).1⟩
theorem ob_there {l t : List Nat} {p : Nat} {b : Bool} (hp : p <= l.length) (h : l.drop p = enc (okN b) ++ t) : ∃ q, obR l p = some (okN b, q) /\ l.drop q = t /\ q <= l.length := by
 have hb : okN b <= 1 := by unfold okN; split <;> omega
 obtain ⟨h1, h2⟩ := rn_there (z := 1) h (by omega) (by omega)
 exact ⟨_, h1, h2, (le_drop hp h).1⟩
theorem id_there {l t : List Nat} {p X Y Z : Nat} (hp : p <= l.length) (h : l.drop p = (enc X ++ (enc Y ++ enc Z)) ++ t) (hX : X < 9223372036854775808) (hY : Y < 9223372036854775808) (hZ : Z < 9223372036854775808) : ∃ q, rId l p = some (((((), X), Y), Z), q) /\ l.drop q = t /\ q <= l.length := by
 rw [List.append_assoc, List.append_assoc] at h
 obtain ⟨q1, a1, h, l1⟩ := nu_there hp h hX
 obtain ⟨q2, a2, h, l2⟩ := nu_there l1 h hY
 obtain ⟨q3, a3, h, l3⟩ := nu_there l2 h hZ
 exact ⟨q3, andR_some (andR_some (andR_some (f := nop) rfl a1) a2) a3, h, l3⟩
theorem bal_there {l t : List Nat} {p X Y : Nat} (hp : p <= l.length) (h : l.drop p = (enc X ++ enc Y) ++ t) (hX : X < 9223372036854775808) (hY : Y < 9223372036854775808) : ∃ q, rBal l p = some ((((), X), Y), q) /\ l.drop q = t /\ q <= l.length := by
 rw [List.append_assoc] at h
 obtain ⟨q1, a1, h, l1⟩ := nu_there hp h hX
 obtain ⟨q2, a2, h, l2⟩ := nu_there l1 h hY
 exact ⟨q2, andR_some (andR_some (f := nop) rfl a1) a2, h, l2⟩
theorem lft_there {l S t : List Nat} {p : Nat} (hp : p <= l.length) (h : l.drop p = (enc S.length ++ S) ++ t) (hS : S.length < 9223372036854775808) : ∃ q, lft l p = some (S, q) /\ l.drop q = t /\ q <= l.length := by
 have h3 := le_drop hp h
 rw [List.length_append] at h3
 obtain ⟨h1, h2⟩ := rt_there (z := ((l.length - p : Nat) : Int)) h hS (by omega)
 exact ⟨_, h1, h2, (le_drop hp h).1⟩
theorem rdA_seal {ys : List Nm} (hn : ys.length <= 4096) (hy : ∀ y ∈ ys, Nb y /\ frm y.cm = true) : rdA (sealL (wrL ys)) = some ys := by
 unfold rdA
 rw [opn_seal]
 simp only [if_true]
 exact rdW_there hn hy
theorem okN_dec (b : Bool) : b = decide (okN b = 1) := by cases b <;> rfl
theorem rMg_there {y : Nmg} {ys : List Nm} {R : List Nat} (hy : Nlt y 1099511627777) (hn : ys.length <= 4096) (hys : ∀ z ∈ ys, Nb z /\ frm z.cm = true) (hR : R.length <= 4096) (hf : mfN y ys R = true) : rMg (mbL y (sealL (wrL ys)) R) = some (y, ys, R) := by
 obtain ⟨l, hl⟩ : ∃ l, l = mbL y (sealL (wrL ys)) R := ⟨_, rfl⟩
 rw [<- hl]
 have h : l.drop 0 = enc y.K ++ (enc y.F ++ (enc y.T ++ ((enc y.t0 ++ (enc y.t1 ++ enc y.t2)) ++ ((enc y.b0 ++ enc y.b1) ++ ((enc y.a0 ++ enc y.a1) ++ ((enc y.B0 ++ (enc y.B1 ++ enc y.B2)) ++ (enc (okN y.ok) ++ ((enc (sealL (wrL ys)).length ++ sealL (wrL ys)) ++ ((enc R.length ++ R) ++ []))))))))) := by
  rw [List.drop_zero, hl, List.append_nil]
  rfl
 have hz := hy.mono (b := 9223372036854775808) (by omega)
 have hw := wrL_len hys hn
 obtain ⟨q1, a1, h, l1⟩ := nu_there (Nat.zero_le _) h hz.K
 obtain ⟨q2, a2, h, l2⟩ := nu_there l1 h hz.F
 obtain ⟨q3, a3, h, l3⟩ := nu_there l2 h hz.T
 obtain ⟨q4, a4, h, l4⟩ := id_there l3 h hz.t0 hz.t1 hz.t2
 obtain ⟨q5, a5, h, l5⟩ := bal_there l4 h hz.b0 hz.b1
 obtain ⟨q6, a6, h, l6⟩ := bal_there l5 h hz.a0 hz.a1
 obtain ⟨q7, a7, h, l7⟩ := id_there l6 h hz.B0 hz.B1 hz.B2
 obtain ⟨q8, a8, h, l8⟩ := ob_there l7 h
 obtain ⟨q9, a9, h, l9⟩ := lft_there l8 h (by rw [seal_len]; omega)
 obtain ⟨q10, a10, h, l10⟩ := lft_there l9 h (by omega)
 have a9' : rLd l q8 = some (ys, q9) := by
  unfold rLd
  rw [a9, Option.bind_some]
  simp only [rdA_seal hn hys, Option.map_some]
 have e : q10 = l.length := by
  have := congrArg List.length h
  simp only [List.length_drop, List.length_nil] at this
  omega
 have r : rMs l 0 = some (tupM y (okN y.ok) ys R, q10) := andR_some (andR_some (andR_some (andR_some (andR_some (andR_some (andR_some (andR_some (andR_some (andR_some (f := nop) rfl a1) a2) a3) a4) a5) a6) a7) a8) a9') a10
 have r2 : rMw l = some (tupM y (okN y.ok) ys R) := by
  unfold rMw
  rw [r, Option.bind_some]
  simp only [e, if_true]
 unfold rMg
 rw [r2, Option.bind_some, unT_tup (okN_dec _)]
 exact if_pos hf
theorem back_same {y : Nmg} {ys : List Nm} {R : List Nat} {X Y : List Cx} {x : Mc} {la : Option Addr} {ln lc : Nat} {fa : Option Addr} {fn fc : Nat} (hx : x = y.mc x.la x.ln x.lc x.fa x.fn x.fc) (hX : X.map Cx.cm = ys.map Nm.cm) (hY : led Y = ys.map Nm.cm) : smB (y.mc la ln lc fa fn fc) (led Y) R x (led X) R = true := by
 have hlX : led X = ys.map Nm.cm := hX
 rw [hx, hlX, hY]
 simp [smB, Nmg.mc]
end Go.Proofs.YtppibcambhmomaaDoor
namespace Go.Proofs.YtppibcambhmomaaDoor
open Go.ChangeShapes Go.WideShapes Go.ChangeAt Go.RowKit
set_option maxRecDepth 20000
set_option linter.unusedVariables false
set_option linter.unusedSimpArgs false
theorem pmL_lt {y : Nmg} {ys : List Nm} {R : List Nat} (hR : ∀ x ∈ R, x < 256) : ∀ x ∈ mbL y (sealL (wrL ys)) R, x < 256 := by
 intro x hx
 simp only [mbL, List.mem_append] at hx
 simp only [or_assoc] at hx
 have hS := seal_bytes (l := wrL ys) wrL_lt
 repeat' (first | exact enc_bytes _ x hx | exact hS x hx | exact hR x hx | (rcases hx with hx | hx))
theorem getM_yes {w : World} {M : Nat -> Prop} {E : Nat -> Addr} {a : Option Addr} {n c : Nat} {l L1 : List Nat} {y : Nmg} {ys : List Nm} {R : List Nat} (hS : Hid (Sln w a n l)) (hz : Hid (a = none -> c = 0)) (hnc : n <= c) (hE : Hid (Sent w M E)) (hM0 : M 0) (hM : M 1) (hM3 : M 3) (ho : Hid (opn l = (L1, 0))) (hr : Hid (rMg L1 = some (y, ys, R))) :
  Calls Tryd.prog 12 #[.slice a n c] w fun e w' => ∃ (Am : Array Value) (la : Option Addr) (ln lc : Nat) (fa : Option Addr) (fn fc : Nat) (Y : List Cx), e = .returned (.tuple #[.agg Am, .nilIface]) /\ Hid (Am = (encM (y.mc la ln lc fa fn fc)).toArray /\ led Y = ys.map Nm.cm /\ Oc w' w.heap.size la ln lc Y /\ Own w' w.heap.size fa fn fc R /\ R.length <= 140737488352256 /\ Below w.heap.size w w') := by
 refine (getM_n hS hz hnc hE hM0 hM hM3 (by rw [ho.out]; exact hidI rfl)).mono ?_
 intro e w' H6
 rw [ho.out] at H6
 rcases H6 with ⟨h, _⟩ | ⟨Am, y2, ys2, R2, la, ln, lc, fa, fn, fc, Y, h, h1, h2, h3, h4, h5, h6, h7⟩
 . rw [hr.out] at h; cases h
 . rw [hr.out] at h
   simp only [Option.some.injEq, Prod.mk.injEq] at h
   obtain ⟨rfl, rfl, rfl⟩ := h
   exact ⟨Am, la, ln, lc, fa, fn, fc, Y, h1, h2, h3, h4, h5, h6, h7⟩
structure Cu (w W : World) (g2 g3 g9 : Nat) (A A' Am : Array Value) (gx Nx : Nat) (lx : List Nat) (gy Ny : Nat) (ly : List Nat) (x x' xm : Mc) (X X' Y : List Cx) (R R' : List Nat) : Prop where
 h2 : W.heap[g2]? = some (.cells A 29 (0, 0))
 h3 : W.heap[g3]? = some (.cells A' 29 (0, 0))
 h9 : W.heap[g9]? = some (.cells Am 29 (0, 0))
 sx : Hid (Sln W (some ⟨gx, 0, none⟩) Nx lx)
 sy : Hid (Sln W (some ⟨gy, 0, none⟩) Ny ly)
 ma : Hid (Ms W x X R)
 mb : Hid (Ms W x' X' R')
 mm : Hid (Ms W xm Y R)
 bel : Below w.heap.size w W
theorem Cu.below {w W W' : World} {g2 g3 g9 : Nat} {A A' Am : Array Value} {gx Nx : Nat} {lx : List Nat} {gy Ny : Nat} {ly : List Nat} {x x' xm : Mc} {X X' Y : List Cx} {R R' : List Nat} (h : Cu w W g2 g3 g9 A A' Am gx Nx lx gy Ny ly x x' xm X X' Y R R') (hb : Below W.heap.size W W') : Cu w W' g2 g3 g9 A A' Am gx Nx lx gy Ny ly x x' xm X X' Y R R' :=
 ⟨(hb.block _ (gl h.h2)).trans h.h2, (hb.block _ (gl h.h3)).trans h.h3, (hb.block _ (gl h.h9)).trans h.h9, h.sx.out.below hb, h.sy.out.below hb, h.ma.out.below hb, h.mb.out.below hb, h.mm.out.below hb, h.bel.trans (hb.mono h.bel.size)⟩
theorem setM10 (x : Mc) (a : Option Addr) (c : Nat) : (encM x).toArray.setIfInBounds 10 (.slice a x.ln c) = (encM { x with la := a, lc := c }).toArray := rfl
theorem setM15 (x : Mc) (a : Option Addr) (c : Nat) : (encM x).toArray.setIfInBounds 15 (.slice a x.fn c) = (encM { x with fa := a, fc := c }).toArray := rfl
set_option maxHeartbeats 8000000 in
theorem copiedM_n {w : World} {x : Mc} {X : List Cx} {L : List Nat} {A : Array Value} (hA : Hid (A = (encM x).toArray)) (hm : Hid (Ms w x X L)) :
  Calls Tryd.prog 7 #[.agg A] w fun e w' => ∃ a c b d, e = .returned (.agg (encM { x with la := a, lc := c, fa := b, fc := d }).toArray) /\ Hid (∃ Y, led Y = led X /\ Ms w' { x with la := a, lc := c, fa := b, fc := d } Y L /\ Below w.heap.size w w') := by
 have SL : Hid (Sln w x.fa x.fn L) := hm.out.fr
 have CL : Hid (Cms w 0 x.la x.ln X) := hm.out.led
 have LZ : Hid (x.la = none -> x.lc = 0) := hm.out.lz
 have FZ : Hid (x.fa = none -> x.fc = 0) := hm.out.fz
 have FL : Hid (∀ y ∈ L, y < 256) := hm.out.flt
 have FN : Hid (x.fn <= 140737488352256) := by
  have h1 := SL.out.len
  have h2 := SL.out.sli.2.1
  show x.fn <= 140737488352256
  omega
 clear hm
 obtain ⟨x, rfl⟩ : ∃ y, x = y := ⟨_, rfl⟩
 obtain ⟨la, Hla⟩ := nm (x.la)
 obtain ⟨ln, Hln⟩ := nm (x.ln)
 obtain ⟨lc, Hlc⟩ := nm (x.lc)
 obtain ⟨fa, Hfa⟩ := nm (x.fa)
 obtain ⟨fn, Hfn⟩ := nm (x.fn)
 obtain ⟨fc, Hfc⟩ := nm (x.fc)
 rw [Hla.out, Hln.out] at CL
 rw [Hla.out, Hlc.out] at LZ
 rw [Hfa.out, Hfc.out] at FZ
 rw [Hfa.out, Hfn.out] at SL
 rw [Hfn.out] at FN
 obtain ⟨g1, Hg1⟩ := nm (w.heap.size)
 obtain ⟨g2, Hg2⟩ := nm (w.heap.size + 1)
 have G2 : Hid (g1 + 1 = g2) := by rw [<- Hg1.out]; exact Hg2.out
 obtain ⟨Z, HZ⟩ : ∃ Z, Hid (Z = (#[.int .i64 0,.int .i64 0,.int .i64 0,.int .i64 0,.int .i64 0,.int .i64 0,.int .i64 0,.int .i64 0,.int .i64 0,.int .i64 0,.slice none 0 0,.int .i64 0,.int .i64 0,.int .i64 0,.bool false,.slice none 0 0] : Array Value)) := ⟨_, rfl⟩
 have Z16 : Z.size = 16 := by rw [HZ.out]; rfl
 obtain ⟨w1, Hw1⟩ := nm ((w.alloc (.cells A 29)).alloc (.cells Z 29))
 have B1 : Hid (Below w.heap.size w w1) := by rw [<- Hw1.out]; exact alloc2 w _ _
 have s1 : Hid (w1.heap.size = g1 + 2) := by show _ = _; rw [<- Hw1.out, <- Hg1.out]; simp
 have k1 : Hid (w1.heap[g1]? = some (.cells A 29 (0, 0))) := by
  rw [<- Hw1.out, <- Hg1.out]
  exact ((alloc1 _ _).block w.heap.size (by simp)).trans (heap_alloc_new w _)
 have k2 : Hid (w1.heap[g2]? = some (.cells Z 29 (0, 0))) := by
  rw [<- Hw1.out, <- Hg2.out]
  show _ = _
  have h := heap_alloc_new (w.alloc (.cells A 29)) (.cells Z 29)
  simpa using h
 have x10 : w1.cell? ⟨g1, 10, none⟩ = some (.slice la ln lc) := by simp [World.cell?, k1.out, hA.out, encM, Hla.out, Hln.out, Hlc.out]
 have C1 : Hid (Cms w1 0 la ln X) := CL.out.below B1.out
 have KK : Hid (∀ W, Below w1.heap.size w1 W -> W.cell? ⟨g1, 10, none⟩ = some (.slice la ln lc) /\ W.frozen? ⟨g1, 10, none⟩ = false /\ W.heap[g1]? = some (.cells A 29 (0, 0)) /\ W.heap[g2]? = some (.cells Z 29 (0, 0))) := fun W hW => by
  have h1 := (hW.block g1 (by have := s1.out; omega)).trans k1.out
  have h2 := (hW.block g2 (by have := s1.out; have := G2.out; omega)).trans k2.out
  exact ⟨by simp [World.cell?, h1, hA.out, encM, Hla.out, Hln.out, Hlc.out], by simp [World.frozen?, h1], h1, h2⟩
 go_enter Tryd.func7, Tryd.ntmps7
 go_upto_region 1 with (fail)
 rw [<- HZ.out, Hw1.out, Hg1.out, G2.out]
 go_upto_region 2 with (go_at_call 14; refine (copy_n C1 LZ).mono ?_; rintro e w2 ⟨a', c', rfl, H2⟩; have c2 := (KK.out w2 (by obtain ⟨Y, h1, h2, h3⟩ := H2.out; exact h3)).1; have fz2 := (KK.out w2 (by obtain ⟨Y, h1, h2, h3⟩ := H2.out; exact h3)).2.1)
 obtain ⟨Y, LY, OY0, BY0⟩ := H2.out
 clear H2 c2 fz2 x10
 have OY : Hid (Oc w2 w1.heap.size a' ln c' Y) := OY0
 have B2 : Hid (Below w1.heap.size w1 w2) := BY0
 have LYh : Hid (led Y = led X) := LY
 clear OY0 BY0 LY
 have s2 : Hid (g1 + 2 <= w2.heap.size) := by have := B2.out.size; have := s1.out; show _ <= _; omega
 obtain ⟨w3, Hw3⟩ := nm (w2.setCell ⟨g1, 10, none⟩ (.slice a' ln c'))
 obtain ⟨x3, Hx3⟩ : ∃ y : Mc, Hid ({ x with la := a', lc := c' } = y) := ⟨_, rfl⟩
 have A3 : Hid (A.setIfInBounds 10 (.slice a' ln c') = (encM x3).toArray) := by
  show _ = _
  rw [hA.out, <- Hln.out, setM10, Hx3.out]
 have k3 : Hid (w3.heap[g1]? = some (.cells (encM x3).toArray 29 (0, 0))) := by
  show _ = _
  rw [<- Hw3.out, set_blkf ((KK.out w2 B2.out).2.2.1), A3.out]
 have o3 : Hid (∀ q, q ≠ g1 -> w3.heap[q]? = w2.heap[q]?) := fun q hq => by rw [<- Hw3.out]; exact Below.heap_setCell _ _ _ _ hq
 have k32 : Hid (w3.heap[g2]? = some (.cells Z 29 (0, 0))) := (o3.out g2 (by have := G2.out; omega)).trans (KK.out w2 B2.out).2.2.2
 have s3 : Hid (w3.heap.size = w2.heap.size) := by show _ = _; rw [<- Hw3.out]; simp [World.setCell]
 have B3 : Hid (Below w.heap.size w w3) := by
  rw [<- Hw3.out]
  exact (B1.out.trans (B2.out.mono B1.out.size)).setCell (show w.heap.size <= g1 by have := Hg1.out; omega) _
 have S3 : Hid (Sln w3 fa fn L) := SL.out.below B3.out
 have x3a : x3.fa = fa /\ x3.fn = fn /\ x3.fc = fc := by rw [<- Hx3.out]; exact ⟨Hfa.out, Hfn.out, Hfc.out⟩
 rw [Hw3.out]
 obtain ⟨g5, Hg5⟩ := nm (w3.heap.size)
 obtain ⟨w4, Hw4⟩ := nm (w3.alloc (.cells #[] 5))
 have B4 := al1 Hw4
 have E4 : Hid (Own w4 g5 (some ⟨g5, 0, none⟩) 0 0 []) := by rw [<- Hw4.out, <- Hg5.out]; exact own_empty w3
 obtain ⟨b5, d5, w5, hrun, own5, gr5, new5⟩ := app_any (c2 := fc) E4.out (S3.out.below B4.out) FZ.out (by have := FN.out; omega) (by have := B4.out.size; have := Hg5.out; omega)
 rw [Nat.zero_add] at hrun own5
 rw [List.nil_append] at own5
 have AQ : Hid ((Builtin.append_ #[27, 27] 27 #[.slice (some ⟨g5, 0, none⟩) 0 0,.slice fa fn fc]).run Tryd.prog w4 = .ok (.slice b5 fn d5) w5) := hrun
 have B5 : Hid (Below w3.heap.size w3 w5) := B4.out.grown gr5 (by have := B4.out.size; omega) (fun q e => by simp [blkOf] at e; have := Hg5.out; omega)
 have O5 : Hid (Own w5 g5 b5 fn d5 L) := own5
 clear hrun own5 gr5 new5
 have k5 : Hid (w5.heap[g1]? = some (.cells (encM x3).toArray 29 (0, 0))) := (B5.out.block g1 (by have := s3.out; have := s2.out; omega)).trans k3.out
 have k52 : Hid (w5.heap[g2]? = some (.cells Z 29 (0, 0))) := (B5.out.block g2 (by have := s3.out; have := s2.out; have := G2.out; omega)).trans k32.out
 have k4 : w4.heap[g1]? = some (.cells (encM x3).toArray 29 (0, 0)) := (B4.out.block g1 (by have := s3.out; have := s2.out; omega)).trans k3.out
 have c4 : (w3.alloc (.cells #[] 5)).cell? ⟨g1, 15, none⟩ = some (.slice fa fn fc) := by rw [Hw4.out]; simp [World.cell?, k4, encM, x3a.1, x3a.2.1, x3a.2.2]
 have c5 : w5.cell? ⟨g1, 15, none⟩ = some (.slice fa fn fc) := by simp [World.cell?, k5.out, encM, x3a.1, x3a.2.1, x3a.2.2]
 have fz5 : w5.frozen? ⟨g1, 15, none⟩ = false := by simp [World.frozen?, k5.out]
 clear k4
 go_upto_region 3 with (at_builtin; rw [Hw4.out, Hg5.out]; refine wpList_app (by rfl) (.tmp 7) (.tmp 9) (by rfl) (by rfl) (by rfl) (by rfl) AQ ?_)
 clear c4 c5 fz5 AQ
 obtain ⟨w6, Hw6⟩ := nm (w5.setCell ⟨g1, 15, none⟩ (.slice b5 fn d5))
 obtain ⟨A6, HA6⟩ : ∃ A6, Hid (A6 = (encM { x3 with fa := b5, fc := d5 }).toArray) := ⟨_, rfl⟩
 have a6 : A6.size = 16 := encM_sz HA6.out
 have k6 : Hid (w6.heap[g1]? = some (.cells A6 29 (0, 0))) := by
  show _ = _
  rw [<- Hw6.out, set_blkf k5.out, <- x3a.2.1, setM15, HA6.out]
 have o6 : Hid (∀ q, q ≠ g1 -> w6.heap[q]? = w5.heap[q]?) := fun q hq => by rw [<- Hw6.out]; exact Below.heap_setCell _ _ _ _ hq
 have k62 : Hid (w6.heap[g2]? = some (.cells Z 29 (0, 0))) := (o6.out g2 (by have := G2.out; omega)).trans k52.out
 rw [Hw6.out]
 go_wp2_with (first
  | (refine wpList_load_row (by rfl) 29 (.tmp 1) (by rfl) g1 (by rfl) 29 A6 (0, 0) _ k6.out Tryd.underlying29 rfl (info29 a6) ?_)
  | (refine wpList_store_row (by rfl) 29 (.tmp 2) (.tmp 12) (by rfl) g2 A6 (by rfl) (by rfl) 29 _ k62.out (info29 a6) (Z16.trans a6.symm) (encM_all HA6.out) ?_))
 refine bodyPost_ret (res1_29 Tryd.results7 _ _ g2 A6 (by rfl) (setRow_heap _ _ _ _ _ _ k62.out) a6) rfl ?_
 obtain ⟨w7, Hw7⟩ := nm (w6.setRow g2 A6)
 rw [Hw7.out]
 have o7 : Hid (∀ q, q ≠ g1 -> q ≠ g2 -> w7.heap[q]? = w5.heap[q]?) := fun q h1 h2 => by rw [<- Hw7.out]; exact (setRow_other _ _ _ _ h2).trans (o6.out q h1)
 have BF : Below w.heap.size w w7 := by
  rw [<- Hw7.out, <- Hw6.out]
  exact below_setRow ((B3.out.trans (B5.out.mono B3.out.size)).setCell (show w.heap.size <= g1 by have := Hg1.out; omega) _) (by have := Hg2.out; omega) A6
 have OF : Oc w7 w1.heap.size a' ln c' Y := OY.out.keep (fun q h1 h2 => by
  have e1 := s1.out
  have e2 := G2.out
  rw [o7.out q (by omega) (by omega), B5.out.block q (by have := s3.out; omega), o3.out q (by omega)])
 have WF : Own w7 g5 b5 fn d5 L := O5.out.block (fun q hq => by
  have e1 := (O5.out.ge q hq).1
  have e2 := s3.out
  have e3 := s2.out
  have e4 := Hg5.out
  have e5 := G2.out
  exact o7.out q (by omega) (by omega))
 have EV : { x3 with fa := b5, fc := d5 } = { x with la := a', lc := c', fa := b5, fc := d5 } := by rw [<- Hx3.out]
 refine ⟨a', c', b5, d5, by rw [HA6.out, EV], Y, LYh.out, ⟨?_, ?_, OF.cap0, WF.cap0, ?_, FL.out⟩, BF⟩
 . show Cms w7 0 a' x.ln Y
   rw [Hln.out]
   exact (OF.mono (Nat.zero_le _)).cms
 . show Sln w7 b5 x.fn L
   rw [Hfn.out]
   exact WF.sln FN.out
 . show x.fn <= d5
   rw [Hfn.out]
   exact rown_cap WF.own
end Go.Proofs.YtppibcambhmomaaDoor
