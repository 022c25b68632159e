import Derived.Test.YtppibcambhmomaaDoorNp
import Derived.Test.YtppibcambhmomaaDoorN36
import Derived.Test.YtppibcambhmomaaDoorN32
import Derived.Test.YtppibcambhmomaaDoorN44
import Derived.Test.YtppibcambhmomaaDoorN09
namespace Go.Proofs.YtppibcambhmomaaDoor
set_option maxRecDepth 20000
set_option linter.unusedVariables false
set_option linter.unusedSimpArgs false
theorem andR_some {α β : Type} {f : Nat -> Option (α × Nat)} {g : Nat -> Option (β × Nat)} {p q r : Nat} {a : α} {b : β} (h1 : f p = some (a, q)) (h2 : g q = some (b, r)) : andR f g p = some ((a, b), r) := by
 unfold andR
 rw [h1, Option.bind_some]
 simp only [h2, Option.bind_some]
theorem le_drop {l a t : List Nat} {p : Nat} (hp : p <= l.length) (h : l.drop p = a ++ t) : p + a.length <= l.length /\ a.length <= l.length - p := by
 have := congrArg List.length h
 simp only [List.length_drop, List.length_append] at this
 omega
theorem nu_there {l t : List Nat} {p X : Nat} (hp : p <= l.length) (h : l.drop p = enc X ++ t) (hX : X < 9223372036854775808) : ∃ q, nuR l p = some (X, q) /\ l.drop q = t /\ q <= l.length := by
 obtain ⟨h1, h2⟩ := rn_there (z := 9223372036854775807) h hX (by omega)
 exact ⟨_, h1, h2, (le_drop hp h).1⟩
theorem ob_there {l t : List Nat} {p : Nat} {b : Bool} (hp : p <= l.length) (h : l.drop p = enc (okN b) ++ t) : ∃ q, obR l p = some (okN b, q) /\ l.drop q = t /\ q <= l.length := by
 have hb : okN b <= 1 := by unfold okN; split <;> omega
 obtain ⟨h1, h2⟩ := rn_there (z := 1) h (by omega) (by omega)
 exact ⟨_, h1, h2, (le_drop hp h).1⟩
theorem id_there {l t : List Nat} {p X Y Z : Nat} (hp : p <= l.length) (h : l.drop p = (enc X ++ (enc Y ++ enc Z)) ++ t) (hX : X < 9223372036854775808) (hY : Y < 9223372036854775808) (hZ : Z < 9223372036854775808) : ∃ q, rId l p = some (((((), X), Y), Z), q) /\ l.drop q = t /\ q <= l.length := by
 rw [List.append_assoc, List.append_assoc] at h
 obtain ⟨q1, a1, h, l1⟩ := nu_there hp h hX
 obtain ⟨q2, a2, h, l2⟩ := nu_there l1 h hY
 obtain ⟨q3, a3, h, l3⟩ := nu_there l2 h hZ
 exact ⟨q3, andR_some (andR_some (andR_some (f := nop) rfl a1) a2) a3, h, l3⟩
theorem bal_there {l t : List Nat} {p X Y : Nat} (hp : p <= l.length) (h : l.drop p = (enc X ++ enc Y) ++ t) (hX : X < 9223372036854775808) (hY : Y < 9223372036854775808) : ∃ q, rBal l p = some ((((), X), Y), q) /\ l.drop q = t /\ q <= l.length := by
 rw [List.append_assoc] at h
 obtain ⟨q1, a1, h, l1⟩ := nu_there hp h hX
 obtain ⟨q2, a2, h, l2⟩ := nu_there l1 h hY
 exact ⟨q2, andR_some (andR_some (f := nop) rfl a1) a2, h, l2⟩
theorem lft_there {l S t : List Nat} {p : Nat} (hp : p <= l.length) (h : l.drop p = (enc S.length ++ S) ++ t) (hS : S.length < 9223372036854775808) : ∃ q, lft l p = some (S, q) /\ l.drop q = t /\ q <= l.length := by
 have h3 := le_drop hp h
 rw [List.length_append] at h3
 obtain ⟨h1, h2⟩ := rt_there (z := ((l.length - p : Nat) : Int)) h hS (by omega)
 exact ⟨_, h1, h2, (le_drop hp h).1⟩
theorem rdA_seal {ys : List Nm} (hn : ys.length <= 4096) (hy : ∀ y ∈ ys, Nb y /\ frm y.cm = true) : rdA (sealL (wrL ys)) = some ys := by
 unfold rdA
 rw [opn_seal]
 simp only [if_true]
 exact rdW_there hn hy
theorem okN_dec (b : Bool) : b = decide (okN b = 1) := by cases b <;> rfl
theorem rMg_there {y : Nmg} {ys : List Nm} {R : List Nat} (hy : Nlt y 1099511627777) (hn : ys.length <= 4096) (hys : ∀ z ∈ ys, Nb z /\ frm z.cm = true) (hR : R.length <= 4096) (hf : mfN y ys R = true) : rMg (mbL y (sealL (wrL ys)) R) = some (y, ys, R) := by
 obtain ⟨l, hl⟩ : ∃ l, l = mbL y (sealL (wrL ys)) R := ⟨_, rfl⟩
 rw [<- hl]
 have h : l.drop 0 = enc y.K ++ (enc y.F ++ (enc y.T ++ ((enc y.t0 ++ (enc y.t1 ++ enc y.t2)) ++ ((enc y.b0 ++ enc y.b1) ++ ((enc y.a0 ++ enc y.a1) ++ ((enc y.B0 ++ (enc y.B1 ++ enc y.B2)) ++ (enc (okN y.ok) ++ ((enc (sealL (wrL ys)).length ++ sealL (wrL ys)) ++ ((enc R.length ++ R) ++ []))))))))) := by
  rw [List.drop_zero, hl, List.append_nil]
  rfl
 have hz := hy.mono (b := 9223372036854775808) (by omega)
 have hw := wrL_len hys hn
 obtain ⟨q1, a1, h, l1⟩ := nu_there (Nat.zero_le _) h hz.K
 obtain ⟨q2, a2, h, l2⟩ := nu_there l1 h hz.F
 obtain ⟨q3, a3, h, l3⟩ := nu_there l2 h hz.T
 obtain ⟨q4, a4, h, l4⟩ := id_there l3 h hz.t0 hz.t1 hz.t2
 obtain ⟨q5, a5, h, l5⟩ := bal_there l4 h hz.b0 hz.b1
 obtain ⟨q6, a6, h, l6⟩ := bal_there l5 h hz.a0 hz.a1
 obtain ⟨q7, a7, h, l7⟩ := id_there l6 h hz.B0 hz.B1 hz.B2
 obtain ⟨q8, a8, h, l8⟩ := ob_there l7 h
 obtain ⟨q9, a9, h, l9⟩ := lft_there l8 h (by rw [seal_len]; omega)
 obtain ⟨q10, a10, h, l10⟩ := lft_there l9 h (by omega)
 have a9' : rLd l q8 = some (ys, q9) := by
  unfold rLd
  rw [a9, Option.bind_some]
  simp only [rdA_seal hn hys, Option.map_some]
 have e : q10 = l.length := by
  have := congrArg List.length h
  simp only [List.length_drop, List.length_nil] at this
  omega
 have r : rMs l 0 = some (tupM y (okN y.ok) ys R, q10) := andR_some (andR_some (andR_some (andR_some (andR_some (andR_some (andR_some (andR_some (andR_some (andR_some (f := nop) rfl a1) a2) a3) a4) a5) a6) a7) a8) a9') a10
 have r2 : rMw l = some (tupM y (okN y.ok) ys R) := by
  unfold rMw
  rw [r, Option.bind_some]
  simp only [e, if_true]
 unfold rMg
 rw [r2, Option.bind_some, unT_tup (okN_dec _)]
 exact if_pos hf
theorem pm_same {y y' : Nmg} {ys ys' : List Nm} {R R' : List Nat} {X X' : List Cx} {x x' : Mc} (hx : x = y.mc x.la x.ln x.lc x.fa x.fn x.fc) (hx' : x' = y'.mc x'.la x'.ln x'.lc x'.fa x'.fn x'.fc) (hX : X.map Cx.cm = ys.map Nm.cm) (hX' : X'.map Cx.cm = ys'.map Nm.cm)
  (h : rMg (mbL y (sealL (wrL ys)) R) = some (y, ys, R)) (h' : rMg (mbL y' (sealL (wrL ys')) R') = some (y', ys', R')) :
  decide (pmL y ys R = pmL y' ys' R') = smB x (led X) R x' (led X') R' := by
 have hlX : led X = ys.map Nm.cm := hX
 have hlX' : led X' = ys'.map Nm.cm := hX'
 rw [hx, hx', hlX, hlX']
 by_cases he : pmL y ys R = pmL y' ys' R'
 . have h1 := congrArg opn he
   unfold pmL at h1
   rw [opn_seal, opn_seal] at h1
   have h2 : mbL y (sealL (wrL ys)) R = mbL y' (sealL (wrL ys')) R' := congrArg Prod.fst h1
   rw [h2, h'] at h
   simp only [Option.some.injEq, Prod.mk.injEq] at h
   obtain ⟨rfl, rfl, rfl⟩ := h
   rw [decide_eq_true he]
   simp [smB, Nmg.mc]
 . rw [decide_eq_false he]
   symm
   cases hs : smB (y.mc x.la x.ln x.lc x.fa x.fn x.fc) (ys.map Nm.cm) R (y'.mc x'.la x'.ln x'.lc x'.fa x'.fn x'.fc) (ys'.map Nm.cm) R' with
   | false => rfl
   | true =>
     exfalso
     apply he
     obtain ⟨K, F, T, t0, t1, t2, b0, b1, a0, a1, B0, B1, B2, ok⟩ := y
     obtain ⟨K', F', T', t0', t1', t2', b0', b1', a0', a1', B0', B1', B2', ok'⟩ := y'
     simp only [smB, Nmg.mc, Bool.and_eq_true] at hs
     obtain ⟨e0, e1, e2, e3, e6, e8, e10, e13, e14, e15⟩ := hs
     have f0 := of_decide_eq_true e0
     have f1 := of_decide_eq_true e1
     have f2 := of_decide_eq_true e2
     obtain ⟨f3, f4, f5⟩ := of_decide_eq_true e3
     obtain ⟨f6, f7⟩ := of_decide_eq_true e6
     obtain ⟨f8, f9⟩ := of_decide_eq_true e8
     obtain ⟨f10, f11, f12⟩ := of_decide_eq_true e10
     have f13 : ok = ok' := of_decide_eq_true e13
     have f14 : R = R' := of_decide_eq_true e14
     have f15 := of_decide_eq_true e15
     clear e13 e14 e15
     obtain rfl : K = K' := by omega
     obtain rfl : F = F' := by omega
     obtain rfl : T = T' := by omega
     obtain rfl : t0 = t0' := by omega
     obtain rfl : t1 = t1' := by omega
     obtain rfl : t2 = t2' := by omega
     obtain rfl : b0 = b0' := by omega
     obtain rfl : b1 = b1' := by omega
     obtain rfl : a0 = a0' := by omega
     obtain rfl : a1 = a1' := by omega
     obtain rfl : B0 = B0' := by omega
     obtain rfl : B1 = B1' := by omega
     obtain rfl : B2 = B2' := by omega
     subst f13
     subst f14
     obtain rfl := mapcm_inj f15
     rfl
theorem back_same {y : Nmg} {ys : List Nm} {R : List Nat} {X Y : List Cx} {x : Mc} {la : Option Addr} {ln lc : Nat} {fa : Option Addr} {fn fc : Nat} (hx : x = y.mc x.la x.ln x.lc x.fa x.fn x.fc) (hX : X.map Cx.cm = ys.map Nm.cm) (hY : led Y = ys.map Nm.cm) : smB (y.mc la ln lc fa fn fc) (led Y) R x (led X) R = true := by
 have hlX : led X = ys.map Nm.cm := hX
 rw [hx, hlX, hY]
 simp [smB, Nmg.mc]
end Go.Proofs.YtppibcambhmomaaDoor
namespace Go.Proofs.YtppibcambhmomaaDoor
open Go.ChangeShapes Go.WideShapes Go.ChangeAt Go.RowKit
set_option maxRecDepth 20000
set_option linter.unusedVariables false
set_option linter.unusedSimpArgs false
theorem pmL_lt {y : Nmg} {ys : List Nm} {R : List Nat} (hR : ∀ x ∈ R, x < 256) : ∀ x ∈ mbL y (sealL (wrL ys)) R, x < 256 := by
 intro x hx
 simp only [mbL, List.mem_append] at hx
 simp only [or_assoc] at hx
 have hS := seal_bytes (l := wrL ys) wrL_lt
 repeat' (first | exact enc_bytes _ x hx | exact hS x hx | exact hR x hx | (rcases hx with hx | hx))
theorem putM_any {w : World} {M : Nat -> Prop} {E : Nat -> Addr} {x : Mc} {X : List Cx} {R : List Nat} {A : Array Value} (hA : Hid (A = (encM x).toArray)) (hE : Hid (Sent w M E)) (hM0 : M 0) (hm : Hid (Ms w x X R)) :
  Calls Tryd.prog 9 #[.agg A] w fun e w' => ∃ a n c v, e = .returned (.tuple #[.slice a n c, v]) /\ Hid (Below w.heap.size w w' /\ (v = .nilIface ∨ ∃ p, v = er p)) := by
 rcases Bool.eq_false_or_eq_true (mf x (led X)) with hf | hf
 . obtain ⟨y, ys, hx, hy, hys, hya, hln, hfn⟩ := mf_nat hm.out.led.len hf
   refine (putM_yes hA hE hM0 hm (hidI hf) (hidI hx) (hidI hy) (hidI hys) (hidI hya) (hidI hln) (hidI hfn)).mono ?_
   rintro e w' ⟨g, n, rfl, h⟩
   exact ⟨_, _, _, _, rfl, h.out.2.2.2.2, .inl rfl⟩
 . refine (putM_no hA hE hM0 (hidI hm.out.led) (hidI hf)).mono ?_
   rintro e w' ⟨rfl, h⟩
   exact ⟨_, _, _, _, rfl, h.out, .inr ⟨_, rfl⟩⟩
theorem getM_yes {w : World} {M : Nat -> Prop} {E : Nat -> Addr} {a : Option Addr} {n c : Nat} {l L1 : List Nat} {y : Nmg} {ys : List Nm} {R : List Nat} (hS : Hid (Sln w a n l)) (hz : Hid (a = none -> c = 0)) (hnc : n <= c) (hE : Hid (Sent w M E)) (hM0 : M 0) (hM : M 1) (hM3 : M 3) (ho : Hid (opn l = (L1, 0))) (hr : Hid (rMg L1 = some (y, ys, R))) :
  Calls Tryd.prog 12 #[.slice a n c] w fun e w' => ∃ (Am : Array Value) (la : Option Addr) (ln lc : Nat) (fa : Option Addr) (fn fc : Nat) (Y : List Cx), e = .returned (.tuple #[.agg Am, .nilIface]) /\ Hid (Am = (encM (y.mc la ln lc fa fn fc)).toArray /\ led Y = ys.map Nm.cm /\ Oc w' w.heap.size la ln lc Y /\ Own w' w.heap.size fa fn fc R /\ R.length <= 140737488352256 /\ Below w.heap.size w w') := by
 refine (getM_n hS hz hnc hE hM0 hM hM3 (by rw [ho.out]; exact hidI rfl)).mono ?_
 intro e w' H6
 rw [ho.out] at H6
 rcases H6 with ⟨h, _⟩ | ⟨Am, y2, ys2, R2, la, ln, lc, fa, fn, fc, Y, h, h1, h2, h3, h4, h5, h6, h7⟩
 . rw [hr.out] at h; cases h
 . rw [hr.out] at h
   simp only [Option.some.injEq, Prod.mk.injEq] at h
   obtain ⟨rfl, rfl, rfl⟩ := h
   exact ⟨Am, la, ln, lc, fa, fn, fc, Y, h1, h2, h3, h4, h5, h6, h7⟩
structure Cu (w W : World) (g2 g3 g9 : Nat) (A A' Am : Array Value) (gx Nx : Nat) (lx : List Nat) (gy Ny : Nat) (ly : List Nat) (x x' xm : Mc) (X X' Y : List Cx) (R R' : List Nat) : Prop where
 h2 : W.heap[g2]? = some (.cells A 29 (0, 0))
 h3 : W.heap[g3]? = some (.cells A' 29 (0, 0))
 h9 : W.heap[g9]? = some (.cells Am 29 (0, 0))
 sx : Hid (Sln W (some ⟨gx, 0, none⟩) Nx lx)
 sy : Hid (Sln W (some ⟨gy, 0, none⟩) Ny ly)
 ma : Hid (Ms W x X R)
 mb : Hid (Ms W x' X' R')
 mm : Hid (Ms W xm Y R)
 bel : Below w.heap.size w W
theorem Cu.below {w W W' : World} {g2 g3 g9 : Nat} {A A' Am : Array Value} {gx Nx : Nat} {lx : List Nat} {gy Ny : Nat} {ly : List Nat} {x x' xm : Mc} {X X' Y : List Cx} {R R' : List Nat} (h : Cu w W g2 g3 g9 A A' Am gx Nx lx gy Ny ly x x' xm X X' Y R R') (hb : Below W.heap.size W W') : Cu w W' g2 g3 g9 A A' Am gx Nx lx gy Ny ly x x' xm X X' Y R R' :=
 ⟨(hb.block _ (gl h.h2)).trans h.h2, (hb.block _ (gl h.h3)).trans h.h3, (hb.block _ (gl h.h9)).trans h.h9, h.sx.out.below hb, h.sy.out.below hb, h.ma.out.below hb, h.mb.out.below hb, h.mm.out.below hb, h.bel.trans (hb.mono h.bel.size)⟩
set_option maxHeartbeats 8000000 in
theorem unlikeM_n {w : World} {M : Nat -> Prop} {E : Nat -> Addr} {x x' : Mc} {X X' : List Cx} {R R' : List Nat} {A A' : Array Value} (hA : Hid (A = (encM x).toArray)) (hA' : Hid (A' = (encM x').toArray)) (hm : Hid (Ms w x X R)) (hm' : Hid (Ms w x' X' R')) (hE : Hid (Sent w M E)) (hM0 : M 0) (hM1 : M 1) (hM3 : M 3) :
  Calls Tryd.prog 5 #[.agg A, .agg A'] w fun e w' => e = .returned (.bool true) /\ Hid (Below w.heap.size w w') := by
 have a16 : A.size = 16 := encM_sz hA.out
 have a16' : A'.size = 16 := encM_sz hA'.out
 obtain ⟨g2, Hg2⟩ := nm (w.heap.size)
 obtain ⟨g3, Hg3⟩ := nm (w.heap.size + 1)
 have G3 : Hid (g2 + 1 = g3) := by rw [<- Hg2.out]; exact Hg3.out
 obtain ⟨w0, Hw0⟩ := nm ((w.alloc (.cells A 29)).alloc (.cells A' 29))
 have B0 : Hid (Below w.heap.size w w0) := by rw [<- Hw0.out]; exact alloc2 w _ _
 have j0 : Hid (w0.heap[g2]? = some (.cells A 29 (0, 0))) := by
  rw [<- Hw0.out, <- Hg2.out]
  exact ((alloc1 _ _).block w.heap.size (by simp)).trans (heap_alloc_new w _)
 have k0 : Hid (w0.heap[g3]? = some (.cells A' 29 (0, 0))) := by
  rw [<- Hw0.out, <- Hg3.out]
  show _ = _
  have h := heap_alloc_new (w.alloc (.cells A 29)) (.cells A' 29)
  simpa using h
 have E0 : Hid (Sent w0 M E) := hE.out.below B0.out
 go_enter Tryd.func5, Tryd.ntmps5
 go_upto_region 1 with (fail)
 rw [Hw0.out, Hg2.out, G3.out]
 go_upto_region 3 with (go_at_call 6; refine (aliveM_n E0 hM0).mono ?_; rintro e w1 ⟨rfl, h1⟩)
 have B1 := bt B0 h1
 have j1 := sh h1 j0
 have k1 := sh h1 k0
 have E1 : Hid (Sent w1 M E) := hE.out.below B1.out
 have M1 : Hid (Ms w1 x X R) := hm.out.below B1.out
 have C1 : Hid (Cms w1 0 x.la x.ln X) := M1.out.led
 clear h1 k0 j0 E0 B0 Hw0 Hg2 Hg3 G3
 rcases Bool.eq_false_or_eq_true (mf x (led X)) with hf | hf
 rotate_left
 . have HF : Hid (mf x (led X) = false) := hf
   clear hf
   go_upto_region 4 with first
    | (refine wpList_load_row (by rfl) 29 (.tmp 2) (by rfl) g2 (by rfl) 29 A (0, 0) _ j1.out Tryd.underlying29 rfl (info29 a16) ?_)
    | (go_at_call 9; refine (putM_no hA E1 hM0 C1 HF).mono ?_; rintro e w2 ⟨rfl, h2⟩)
   have B2 := bt B1 h2
   have j2 := sh h2 j1
   have k2 := sh h2 k1
   have E2 : Hid (Sent w2 M E) := hE.out.below B2.out
   have N2 : Hid (Ms w2 x' X' R') := hm'.out.below B2.out
   go_upto_region 5 with first
    | (refine wpList_load_row (by rfl) 29 (.tmp 3) (by rfl) g3 (by rfl) 29 A' (0, 0) _ k2.out Tryd.underlying29 rfl (info29 a16') ?_)
    | (go_at_call 9; refine (putM_any hA' E2 hM0 N2).mono ?_; rintro e w3 ⟨ay, ny, cy, v, rfl, h3⟩)
   have B3 : Hid (Below w.heap.size w w3) := B2.out.trans (h3.out.1.mono B2.out.size)
   have j3 : Hid (w3.heap[g2]? = some (.cells A 29 (0, 0))) := (h3.out.1.block g2 (gl j2.out)).trans j2.out
   have M3 : Hid (Ms w3 x X R) := hm.out.below B3.out
   clear h2 h3
   go_wp2_with first
    | (refine wpList_load_row (by rfl) 29 (.tmp 2) (by rfl) g2 (by rfl) 29 A (0, 0) _ j3.out Tryd.underlying29 rfl (info29 a16) ?_)
    | (go_at_call 11; refine (inFmM_n hA M3).mono ?_; rintro e w4 ⟨rfl, h4⟩; rw [HF.out])
   go_ret
   exact ⟨rfl, B3.out.trans (h4.out.mono B3.out.size)⟩
 have HF : Hid (mf x (led X) = true) := hf
 obtain ⟨y, ys, hx, hy, hys, hya, hln, hfn⟩ := mf_nat hm.out.led.len hf
 have PM := putM_yes hA E1 hM0 M1 HF (hidI hx) (hidI hy) (hidI hys) (hidI hya) (hidI hln) (hidI hfn)
 have HPM := hidI PM
 have YN : Hid (ys.length <= 4096) := by
  have h := congrArg List.length hys
  simp only [List.length_map] at h
  have h2 := hm.out.led.len
  show _ <= _
  omega
 have MFN : Hid (mfN y ys R = true) := by
  have h := mf_mem (la := x.la) (lc := x.lc) (fa := x.fa) (fc := x.fc) (y := y) (ys := ys) (L := R) (ln := x.ln) (fn := x.fn) (Y := X) (by have h := congrArg List.length hys; simp only [List.length_map] at h; have h2 := hm.out.led.len; omega) hm.out.fr.len hys
  rw [<- hx, hf] at h
  exact h.symm
 have RG : Hid (rMg (mbL y (sealL (wrL ys)) R) = some (y, ys, R)) := rMg_there hy YN.out hya (by have := hm.out.fr.len; omega) MFN.out
 have HX : Hid (x = y.mc x.la x.ln x.lc x.fa x.fn x.fc /\ X.map Cx.cm = ys.map Nm.cm) := ⟨hx, hys⟩
 clear hf hx hy hys hya hln hfn PM MFN YN
 go_upto_region 4 with first
  | (refine wpList_load_row (by rfl) 29 (.tmp 2) (by rfl) g2 (by rfl) 29 A (0, 0) _ j1.out Tryd.underlying29 rfl (info29 a16) ?_)
  | (go_at_call 9; refine HPM.out.mono ?_; rintro e w2 ⟨gx, Nx, rfl, H2⟩)
 have b12 : Hid (Below w1.heap.size w1 w2) := H2.out.2.2.2.2
 have B2 := bt B1 b12
 have j2 := sh b12 j1
 have k2 := sh b12 k1
 have E2 : Hid (Sent w2 M E) := hE.out.below B2.out
 have N2 : Hid (Ms w2 x' X' R') := hm'.out.below B2.out
 have D2 : Hid (Cms w2 0 x'.la x'.ln X') := N2.out.led
 obtain ⟨lx, Hlx⟩ := nm (pmL y ys R)
 have LXB : Hid (∀ z ∈ lx, z < 256) := by rw [<- Hlx.out]; exact seal_bytes (pmL_lt hm.out.flt)
 have SX : Hid (Sln w2 (some ⟨gx, 0, none⟩) Nx lx) := by
  have h := H2.out.1
  rw [Hlx.out] at h
  have h3 := H2.out.2.1
  rw [Hlx.out] at h3
  have h4 := H2.out.2.2.1
  have h2 := h.sln LXB.out (by omega)
  rw [<- h3] at h2
  exact h2
 clear H2 HPM j1 k1 E1 M1 C1 b12 B1
 rcases Bool.eq_false_or_eq_true (mf x' (led X')) with hg | hg
 rotate_left
 . have HG : Hid (mf x' (led X') = false) := hg
   clear hg
   go_upto_region 5 with first
    | (refine wpList_load_row (by rfl) 29 (.tmp 3) (by rfl) g3 (by rfl) 29 A' (0, 0) _ k2.out Tryd.underlying29 rfl (info29 a16') ?_)
    | (go_at_call 9; refine (putM_no hA' E2 hM0 D2 HG).mono ?_; rintro e w3 ⟨rfl, h3⟩)
   have B3 := bt B2 h3
   have j3 := sh h3 j2
   have k3 := sh h3 k2
   have M3 : Hid (Ms w3 x X R) := hm.out.below B3.out
   clear h3
   go_wp2_with first
    | (go_at_call 11; refine (inFmM_n hA' N4).mono ?_; rintro e w5 ⟨rfl, h5⟩; rw [HG.out])
    | (refine wpList_load_row (by rfl) 29 (.tmp 2) (by rfl) g2 (by rfl) 29 A (0, 0) _ j3.out Tryd.underlying29 rfl (info29 a16) ?_)
    | (go_at_call 11; refine (inFmM_n hA M3).mono ?_; rintro e w4 ⟨rfl, h4⟩; rw [HF.out]
       have k4 := sh h4 k3
       have B4 := bt B3 h4
       have N4 : Hid (Ms w4 x' X' R') := hm'.out.below B4.out)
    | (refine wpList_load_rowG (by rfl) 29 (.tmp 3) (by rfl) g3 (by rfl) 29 A' (0, 0) _ k4.out Tryd.underlying29 rfl (info29 a16') ?_)
   go_ret
   exact ⟨rfl, B4.out.trans (h5.out.mono B4.out.size)⟩
 have HG : Hid (mf x' (led X') = true) := hg
 obtain ⟨y', ys', hx, hy, hys, hya, hln, hfn⟩ := mf_nat hm'.out.led.len hg
 have PM := putM_yes hA' E2 hM0 N2 HG (hidI hx) (hidI hy) (hidI hys) (hidI hya) (hidI hln) (hidI hfn)
 have HPM := hidI PM
 have YN : Hid (ys'.length <= 4096) := by
  have h := congrArg List.length hys
  simp only [List.length_map] at h
  have h2 := hm'.out.led.len
  show _ <= _
  omega
 have MFN : Hid (mfN y' ys' R' = true) := by
  have h := mf_mem (la := x'.la) (lc := x'.lc) (fa := x'.fa) (fc := x'.fc) (y := y') (ys := ys') (L := R') (ln := x'.ln) (fn := x'.fn) (Y := X') (by have h := congrArg List.length hys; simp only [List.length_map] at h; have h2 := hm'.out.led.len; omega) hm'.out.fr.len hys
  rw [<- hx, hg] at h
  exact h.symm
 have RG' : Hid (rMg (mbL y' (sealL (wrL ys')) R') = some (y', ys', R')) := rMg_there hy YN.out hya (by have := hm'.out.fr.len; omega) MFN.out
 have HX' : Hid (x' = y'.mc x'.la x'.ln x'.lc x'.fa x'.fn x'.fc /\ X'.map Cx.cm = ys'.map Nm.cm) := ⟨hx, hys⟩
 clear hg hx hy hys hya hln hfn PM MFN YN
 go_upto_region 5 with first
  | (refine wpList_load_row (by rfl) 29 (.tmp 3) (by rfl) g3 (by rfl) 29 A' (0, 0) _ k2.out Tryd.underlying29 rfl (info29 a16') ?_)
  | (go_at_call 9; refine HPM.out.mono ?_; rintro e w3 ⟨gy, Ny, rfl, H3⟩)
 have b23 : Hid (Below w2.heap.size w2 w3) := H3.out.2.2.2.2
 have B3 := bt B2 b23
 have j3 := sh b23 j2
 have k3 := sh b23 k2
 have M3 : Hid (Ms w3 x X R) := hm.out.below B3.out
 have SX3 : Hid (Sln w3 (some ⟨gx, 0, none⟩) Nx lx) := SX.out.below b23.out
 obtain ⟨ly, Hly⟩ := nm (pmL y' ys' R')
 have LYB : Hid (∀ z ∈ ly, z < 256) := by rw [<- Hly.out]; exact seal_bytes (pmL_lt hm'.out.flt)
 have SY : Hid (Sln w3 (some ⟨gy, 0, none⟩) Ny ly) := by
  have h := H3.out.1
  rw [Hly.out] at h
  have h3 := H3.out.2.1
  rw [Hly.out] at h3
  have h4 := H3.out.2.2.1
  have h2 := h.sln LYB.out (by omega)
  rw [<- h3] at h2
  exact h2
 obtain ⟨sm, SB2⟩ := nm (smB x (led X) R x' (led X') R')
 have DC : Hid (decide (lx = ly) = sm) := by
  rw [<- Hlx.out, <- Hly.out, <- SB2.out]
  exact pm_same HX.out.1 HX'.out.1 HX.out.2 HX'.out.2 RG.out RG'.out
 have OP : Hid (opn lx = (mbL y (sealL (wrL ys)) R, 0)) := by rw [<- Hlx.out]; exact opn_seal _
 have E8 : ∀ w, (Op.equalIn 10000 9 (.string (spell lx)) (.string (spell ly))).run Tryd.prog w = .ok sm w := fun w => by rw [eqS, spell_injM LXB.out LYB.out, DC.out]
 have D8 : ((spell lx).toList == (spell ly).toList) = sm := (spell_beq LXB.out LYB.out).trans DC.out
 clear H3 HPM j2 k2 E2 N2 D2 b23 SX B2 DC LYB Hly Hlx RG' HX'
 go_upto_region 7 with first
  | (go_at_call 11; refine (inFmM_n hA' N4).mono ?_; rintro e w5 ⟨rfl, h5⟩; rw [HG.out])
  | (refine wpList_load_row (by rfl) 29 (.tmp 2) (by rfl) g2 (by rfl) 29 A (0, 0) _ j3.out Tryd.underlying29 rfl (info29 a16) ?_)
  | (go_at_call 11; refine (inFmM_n hA M3).mono ?_; rintro e w4 ⟨rfl, h4⟩; rw [HF.out]
     have j4 := sh h4 j3
     have k4 := sh h4 k3
     have B4 := bt B3 h4
     have N4 : Hid (Ms w4 x' X' R') := hm'.out.below B4.out)
  | (refine wpList_load_rowG (by rfl) 29 (.tmp 3) (by rfl) g3 (by rfl) 29 A' (0, 0) _ k4.out Tryd.underlying29 rfl (info29 a16') ?_)
 have B5 := bt B4 h5
 have j5 := sh h5 j4
 have k5 := sh h5 k4
 have b35 := bt h4 h5
 have SX5 : Hid (Sln w5 (some ⟨gx, 0, none⟩) Nx lx) := SX3.out.below b35.out
 have SY5 : Hid (Sln w5 (some ⟨gy, 0, none⟩) Ny ly) := SY.out.below b35.out
 have E5 : Hid (Sent w5 M E) := hE.out.below B5.out
 have ZX : Hid ((some ⟨gx, 0, none⟩ : Option Addr) = none -> Nx = 0) := fun h => by cases h
 clear j3 k3 j4 k4 M3 N4 SX3 SY h4 h5 b35 B3 B4 HF HG
 go_upto_region 8 with first
  | (go_at_call 12; refine (getM_yes SX5 ZX (Nat.le_refl _) E5 hM0 hM1 hM3 OP RG).mono ?_; rintro e w6 ⟨Am, la, ln, lc, fa, fn, fc, Y, rfl, H6⟩
     have HAm := show Hid (Am = (encM (y.mc la ln lc fa fn fc)).toArray) from H6.out.1
     have am16 : Am.size = 16 := encM_sz HAm.out)
  | (refine wpList_store_row (by rfl) 29 (.tmp 9) (.tmp 40) (by rfl) w6.heap.size Am (by rfl) (by rfl) 29 _ (heap_alloc_new w6 _) (info29 am16) am16.symm (encM_all HAm.out) ?_)
 obtain ⟨g9, Hg9⟩ := nm (w6.heap.size)
 obtain ⟨w7, Hw7⟩ := nm ((w6.alloc (.cells #[.int .i64 0,.int .i64 0,.int .i64 0,.int .i64 0,.int .i64 0,.int .i64 0,.int .i64 0,.int .i64 0,.int .i64 0,.int .i64 0,.slice none 0 0,.int .i64 0,.int .i64 0,.int .i64 0,.bool false,.slice none 0 0] 29)).setRow w6.heap.size Am)
 have b67 : Hid (Below w6.heap.size w6 w7) := by rw [<- Hw7.out]; exact below_setRow (alloc1 w6 _) (Nat.le_refl _) Am
 have k9 : Hid (w7.heap[g9]? = some (.cells Am 29 (0, 0))) := by rw [<- Hw7.out, <- Hg9.out]; exact setRow_heap _ _ _ _ _ _ (heap_alloc_new w6 _)
 have b57 : Hid (Below w5.heap.size w5 w7) := H6.out.2.2.2.2.2.trans (b67.out.mono H6.out.2.2.2.2.2.size)
 obtain ⟨xm, Hxm⟩ := nm (y.mc la ln lc fa fn fc)
 have MM : Hid (Ms w7 xm Y R) := by
  rw [<- Hxm.out]
  have hO := H6.out.2.2.1
  have hF := H6.out.2.2.2.1
  refine ⟨(hO.below b67.out).cms.mono (Nat.zero_le _), (hF.below b67.out).sln (by have := hF.len; have := H6.out.2.2.2.2.1; omega), hO.cap0, hF.cap0, own_hnc hF, hF.lt⟩
 have SB1 : Hid (smB xm (led Y) R x (led X) R = true) := by rw [<- Hxm.out]; exact back_same HX.out.1 HX.out.2 H6.out.2.1
 have HAm : Hid (Am = (encM xm).toArray) := by rw [<- Hxm.out]; exact HAm.out
 have B7 := bt B5 b57
 have KO0 : Hid (Cu w w7 g2 g3 g9 A A' Am gx Nx lx gy Ny ly x x' xm X X' Y R R') :=
  ⟨(b57.out.block _ (gl j5.out)).trans j5.out, (b57.out.block _ (gl k5.out)).trans k5.out, k9.out, SX5.out.below b57.out, SY5.out.below b57.out, hm.out.below B7.out, hm'.out.below B7.out, MM, B7.out⟩
 rw [Hw7.out, Hg9.out]
 obtain ⟨wd, Hwd⟩ := nm (w7.drew)
 have KO : Hid (Cu w wd g2 g3 g9 A A' Am gx Nx lx gy Ny ly x x' xm X X' Y R R') := by rw [<- Hwd.out]; exact KO0.out.below (below_drewN (Below.refl _ _) 1)
 clear KO0 MM B7 H6 b57 b67 k9 j5 k5 SX5 SY5 Hw7 Hg9 B5 E5 Hxm HX RG OP
 refine wp_region_seq (C := fun W => Cu w W g2 g3 g9 A A' Am gx Nx lx gy Ny ly x x' xm X X' Y R R') [(0, false), (1, false), (2, false), (3, false), (4, false), (5, false), (6, false), (7, false), (8, false), (9, false), (10, false), (11, false), (12, false), (13, true), (14, false), (15, false), (16, false), (17, false), (18, false), (19, false), (20, false), (21, false), (22, false), (23, true), (24, false), (25, false), (26, false)] (by kernel_rfl) (by kernel_rfl) (by rw [Hwd.out]; exact KO.out) ?_
 rw [Hwd.out]
 clear Hwd
 refine seq_take (o := ⟨some 42, .move (.tmp 6), 33, "more.go:20", #[], none⟩) (v := .nilIface) (by kernel_rfl) (fun _ _ _ h => h) (Or.inl ⟨by kernel_rfl, fun W hW => by go_simp⟩) ?_
 simp only [pA,pB,pC,Act.put,pD,pE,pF]
 refine seq_take (o := ⟨some 43, .binOp .eql 33 (.tmp 42) (.const .nilIface) 33, 4, "more.go:20", #[⟨0, .data⟩], none⟩) (v := .bool true) (by kernel_rfl) (fun _ _ _ h => h) (Or.inl ⟨by kernel_rfl, fun W hW => by go_simp⟩) ?_
 simp only [pA,pB,pC,Act.put,pD,pE,pF]
 refine seq_take (o := ⟨some 44, .move (.tmp 43), 4, "more.go:20", #[⟨1, .data⟩], none⟩) (v := .bool true) (by kernel_rfl) (fun _ _ _ h => h) (Or.inl ⟨by kernel_rfl, fun W hW => by go_simp⟩) ?_
 simp only [pA,pB,pC,Act.put,pD,pE,pF]
 refine seq_take (o := ⟨some 45, .move (.tmp 8), 33, "more.go:20", #[⟨2, .guard⟩], some (2, true)⟩) (v := .nilIface) (by kernel_rfl) (fun _ _ _ h => h) (Or.inl ⟨by kernel_rfl, fun W hW => by go_simp⟩) ?_
 simp only [pA,pB,pC,Act.put,pD,pE,pF]
 refine seq_take (o := ⟨some 46, .binOp .eql 33 (.tmp 45) (.const .nilIface) 33, 4, "more.go:20", #[⟨3, .data⟩, ⟨2, .guard⟩], some (2, true)⟩) (v := .bool true) (by kernel_rfl) (fun _ _ _ h => h) (Or.inl ⟨by kernel_rfl, fun W hW => by go_simp⟩) ?_
 simp only [pA,pB,pC,Act.put,pD,pE,pF]
 refine seq_take (o := ⟨some 47, .pick (.tmp 44) (.tmp 46) (.const (.bool false)), 4, "more.go:20", #[⟨2, .data⟩, ⟨4, .data⟩], none⟩) (v := .bool true) (by kernel_rfl) (fun _ _ _ h => h) (Or.inl ⟨by kernel_rfl, fun W hW => by go_simp⟩) ?_
 simp only [pA,pB,pC,Act.put,pD,pE,pF]
 refine seq_take (o := ⟨some 48, .move (.tmp 47), 4, "more.go:20", #[⟨5, .data⟩, ⟨2, .chain⟩], none⟩) (v := .bool true) (by kernel_rfl) (fun _ _ _ h => h) (Or.inl ⟨by kernel_rfl, fun W hW => by go_simp⟩) ?_
 simp only [pA,pB,pC,Act.put,pD,pE,pF]
 refine seq_take (o := ⟨some 49, .move (.tmp 10), 33, "more.go:20", #[⟨6, .guard⟩], some (6, true)⟩) (v := .nilIface) (by kernel_rfl) (fun _ _ _ h => h) (Or.inl ⟨by kernel_rfl, fun W hW => by go_simp⟩) ?_
 simp only [pA,pB,pC,Act.put,pD,pE,pF]
 refine seq_take (o := ⟨some 50, .binOp .eql 33 (.tmp 49) (.const .nilIface) 33, 4, "more.go:20", #[⟨7, .data⟩, ⟨6, .guard⟩], some (6, true)⟩) (v := .bool true) (by kernel_rfl) (fun _ _ _ h => h) (Or.inl ⟨by kernel_rfl, fun W hW => by go_simp⟩) ?_
 simp only [pA,pB,pC,Act.put,pD,pE,pF]
 refine seq_take (o := ⟨some 51, .pick (.tmp 48) (.tmp 50) (.const (.bool false)), 4, "more.go:20", #[⟨6, .data⟩, ⟨8, .data⟩], none⟩) (v := .bool true) (by kernel_rfl) (fun _ _ _ h => h) (Or.inl ⟨by kernel_rfl, fun W hW => by go_simp⟩) ?_
 simp only [pA,pB,pC,Act.put,pD,pE,pF]
 refine seq_take (o := ⟨some 52, .move (.tmp 51), 4, "more.go:20", #[⟨9, .data⟩, ⟨6, .chain⟩], none⟩) (v := .bool true) (by kernel_rfl) (fun _ _ _ h => h) (Or.inl ⟨by kernel_rfl, fun W hW => by go_simp⟩) ?_
 simp only [pA,pB,pC,Act.put,pD,pE,pF]
 refine seq_take (o := ⟨some 53, .load 29 (.tmp 9), 29, "more.go:20", #[⟨10, .guard⟩], some (10, true)⟩) (v := .agg Am) (by kernel_rfl) (fun _ _ _ h => h) (yl_row29 (by kernel_rfl) (by rfl) (by rfl) (fun W hW => Cu.h9 hW) am16) ?_
 simp only [pA,pB,pC,Act.put,pD,pE,pF]
 refine seq_take (o := ⟨some 54, .load 29 (.tmp 2), 29, "more.go:20", #[⟨10, .guard⟩], some (10, true)⟩) (v := .agg A) (by kernel_rfl) (fun _ _ _ h => h) (yl_row29 (by kernel_rfl) (by rfl) (by rfl) (fun W hW => Cu.h2 hW) a16) ?_
 simp only [pA,pB,pC,Act.put,pD,pE,pF]
 refine seq_call (o := ⟨some 55, .call { callee := .value (.func 10), args := #[.tmp 53, .tmp 54], argTypes := #[29, 29] }, 4, "more.go:20", #[⟨11, .data⟩, ⟨12, .data⟩, ⟨10, .chain⟩, ⟨10, .guard⟩], some (10, true)⟩) (by kernel_rfl) (fun KK hK => ?_)
 rw [if_pos (by kernel_rfl)]
 go_simp
 go_wp2_with (go_at_call 10; refine (sameM_n HAm hA KO.out.mm KO.out.ma).mono ?_; rintro e v2 ⟨rfl, h2⟩; rw [SB1.out])
 have K2 : Hid (Cu w v2 g2 g3 g9 A A' Am gx Nx lx gy Ny ly x x' xm X X' Y R R') := KO.out.below h2.out
 clear KO h2
 have KO := K2
 clear K2
 refine hK.out _ _ (KO.out) ?_
 clear hK KK
 try simp only [pA,pB,pC,Act.put,pD,pE,pF]
 refine seq_take (o := ⟨some 56, .pick (.tmp 52) (.tmp 55) (.const (.bool false)), 4, "more.go:20", #[⟨10, .data⟩, ⟨13, .data⟩], none⟩) (v := .bool true) (by kernel_rfl) (fun _ _ _ h => h) (Or.inl ⟨by kernel_rfl, fun W hW => by go_simp⟩) ?_
 simp only [pA,pB,pC,Act.put,pD,pE,pF]
 refine seq_take (o := ⟨some 57, .move (.tmp 56), 4, "more.go:20", #[⟨14, .data⟩, ⟨13, .chain⟩], none⟩) (v := .bool true) (by kernel_rfl) (fun _ _ _ h => h) (Or.inl ⟨by kernel_rfl, fun W hW => by go_simp⟩) ?_
 simp only [pA,pB,pC,Act.put,pD,pE,pF]
 refine seq_take (o := ⟨some 58, .move (.tmp 5), 27, "more.go:20", #[⟨15, .guard⟩], some (15, true)⟩) (v := .slice (some ⟨gx, 0, none⟩) Nx Nx) (by kernel_rfl) (fun _ _ _ h => h) (Or.inl ⟨by kernel_rfl, fun W hW => by go_simp⟩) ?_
 simp only [pA,pB,pC,Act.put,pD,pE,pF]
 refine seq_take (o := ⟨some 59, .convert 27 9 (.tmp 58), 9, "more.go:20", #[⟨16, .data⟩, ⟨15, .guard⟩], some (15, true)⟩) (v := .string (spell lx)) (by kernel_rfl) (fun _ _ _ h => h) (Or.inl ⟨by kernel_rfl, fun W hW => by have q0 : (convert 27 9 (.slice (some ⟨gx, 0, none⟩) Nx Nx)).run Tryd.prog W = .ok (.string (spell lx)) W := conv_n hW.sx; go_simp⟩) ?_
 simp only [pA,pB,pC,Act.put,pD,pE,pF]
 refine seq_take (o := ⟨some 60, .move (.tmp 7), 27, "more.go:20", #[⟨15, .guard⟩], some (15, true)⟩) (v := .slice (some ⟨gy, 0, none⟩) Ny Ny) (by kernel_rfl) (fun _ _ _ h => h) (Or.inl ⟨by kernel_rfl, fun W hW => by go_simp⟩) ?_
 simp only [pA,pB,pC,Act.put,pD,pE,pF]
 refine seq_take (o := ⟨some 61, .convert 27 9 (.tmp 60), 9, "more.go:20", #[⟨18, .data⟩, ⟨15, .guard⟩], some (15, true)⟩) (v := .string (spell ly)) (by kernel_rfl) (fun _ _ _ h => h) (Or.inl ⟨by kernel_rfl, fun W hW => by have q0 : (convert 27 9 (.slice (some ⟨gy, 0, none⟩) Ny Ny)).run Tryd.prog W = .ok (.string (spell ly)) W := conv_n hW.sy; go_simp⟩) ?_
 simp only [pA,pB,pC,Act.put,pD,pE,pF]
 refine seq_take (o := ⟨some 62, .binOp .eql 9 (.tmp 59) (.tmp 61) 9, 4, "more.go:20", #[⟨17, .data⟩, ⟨19, .data⟩, ⟨15, .guard⟩], some (15, true)⟩) (v := .bool sm) (by kernel_rfl) (fun _ _ _ h => h) (Or.inl ⟨by kernel_rfl, fun W hW => by have q0 := E8; go_simp⟩) ?_
 simp only [pA,pB,pC,Act.put,pD,pE,pF]
 refine seq_take (o := ⟨some 63, .load 29 (.tmp 2), 29, "more.go:20", #[⟨15, .guard⟩], some (15, true)⟩) (v := .agg A) (by kernel_rfl) (fun _ _ _ h => h) (yl_row29 (by kernel_rfl) (by rfl) (by rfl) (fun W hW => Cu.h2 hW) a16) ?_
 simp only [pA,pB,pC,Act.put,pD,pE,pF]
 refine seq_take (o := ⟨some 64, .load 29 (.tmp 3), 29, "more.go:20", #[⟨15, .guard⟩], some (15, true)⟩) (v := .agg A') (by kernel_rfl) (fun _ _ _ h => h) (yl_row29 (by kernel_rfl) (by rfl) (by rfl) (fun W hW => Cu.h3 hW) a16') ?_
 simp only [pA,pB,pC,Act.put,pD,pE,pF]
 refine seq_call (o := ⟨some 65, .call { callee := .value (.func 10), args := #[.tmp 63, .tmp 64], argTypes := #[29, 29] }, 4, "more.go:20", #[⟨21, .data⟩, ⟨22, .data⟩, ⟨15, .chain⟩, ⟨15, .guard⟩], some (15, true)⟩) (by kernel_rfl) (fun KK hK => ?_)
 rw [if_pos (by kernel_rfl)]
 go_simp
 go_wp2_with (go_at_call 10; refine (sameM_n hA hA' KO.out.ma KO.out.mb).mono ?_; rintro e v3 ⟨rfl, h3⟩; rw [SB2.out])
 have K3 : Hid (Cu w v3 g2 g3 g9 A A' Am gx Nx lx gy Ny ly x x' xm X X' Y R R') := KO.out.below h3.out
 clear KO h3
 have KO := K3
 clear K3
 refine hK.out _ _ (KO.out) ?_
 clear hK KK
 try simp only [pA,pB,pC,Act.put,pD,pE,pF]
 refine seq_take (o := ⟨some 66, .binOp .eql 4 (.tmp 62) (.tmp 65) 4, 4, "more.go:20", #[⟨20, .data⟩, ⟨23, .data⟩, ⟨15, .guard⟩], some (15, true)⟩) (v := .bool true) (by kernel_rfl) (fun _ _ _ h => h) (Or.inl ⟨by kernel_rfl, fun W hW => by go_simp⟩) ?_
 simp only [pA,pB,pC,Act.put,pD,pE,pF]
 refine seq_take (o := ⟨some 67, .pick (.tmp 57) (.tmp 66) (.const (.bool false)), 4, "more.go:20", #[⟨15, .data⟩, ⟨24, .data⟩], none⟩) (v := .bool true) (by kernel_rfl) (fun _ _ _ h => h) (Or.inl ⟨by kernel_rfl, fun W hW => by go_simp⟩) ?_
 simp only [pA,pB,pC,Act.put,pD,pE,pF]
 refine seq_take (o := ⟨some 4, .assign (.tmp 67), 4, "more.go:20", #[⟨25, .data⟩, ⟨23, .chain⟩, ⟨0, .phase⟩, ⟨1, .phase⟩, ⟨2, .phase⟩, ⟨3, .phase⟩, ⟨4, .phase⟩, ⟨5, .phase⟩, ⟨6, .phase⟩, ⟨7, .phase⟩, ⟨8, .phase⟩, ⟨9, .phase⟩, ⟨10, .phase⟩, ⟨11, .phase⟩, ⟨12, .phase⟩, ⟨13, .phase⟩, ⟨14, .phase⟩, ⟨15, .phase⟩, ⟨16, .phase⟩, ⟨17, .phase⟩, ⟨18, .phase⟩, ⟨19, .phase⟩, ⟨20, .phase⟩, ⟨21, .phase⟩, ⟨22, .phase⟩, ⟨23, .phase⟩, ⟨24, .phase⟩, ⟨25, .phase⟩], none⟩) (v := .bool true) (by kernel_rfl) (fun _ _ _ h => h) (Or.inl ⟨by kernel_rfl, fun W hW => by go_simp⟩) ?_
 simp only [pA,pB,pC,Act.put,pD,pE,pF]
 show (Exit.then _ _) .normal _ _
 go_wp2
 go_ret
 exact ⟨rfl, KO.out.bel⟩
end Go.Proofs.YtppibcambhmomaaDoor
