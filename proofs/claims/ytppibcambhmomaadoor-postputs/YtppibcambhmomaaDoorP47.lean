import Derived.Test.YtppibcambhmomaaDoorPp
import Derived.Test.YtppibcambhmomaaDoorP32
import Derived.Test.YtppibcambhmomaaDoorP10
import Derived.Test.YtppibcambhmomaaDoorP46
namespace Go.Proofs.YtppibcambhmomaaDoor
open Go.ChangeShapes Go.WideShapes Go.ChangeAt Go.RowKit
set_option maxRecDepth 20000
set_option linter.unusedVariables false
set_option linter.unusedSimpArgs false
structure Wm (w W : World) (g1 g4 : Nat) (A NS : Array Value) (a : Option Addr) (n c : Nat) (L : List Nat) (m : Nat) : Prop where
 own : Own W w.heap.size a n c L
 bel : Below w.heap.size w W
 ln : n <= m
 k1 : W.heap[g1]? = some (.cells A 29 (0, 0))
 k4 : W.heap[g4]? = some (.cells NS 3 (0, 0))
 n1 : blkOf a ≠ some g1
 n4 : blkOf a ≠ some g4
theorem Wm.below {w W W' : World} {g1 g4 : Nat} {A NS : Array Value} {a : Option Addr} {n c : Nat} {L : List Nat} {m : Nat} (h : Wm w W g1 g4 A NS a n c L m) (hb : Below W.heap.size W W') : Wm w W' g1 g4 A NS a n c L m :=
 ⟨h.own.below hb, h.bel.trans (hb.mono h.bel.size), h.ln, (hb.block g1 (gl h.k1)).trans h.k1, (hb.block g4 (gl h.k4)).trans h.k4, h.n1, h.n4⟩
theorem Wm.c {w W : World} {g1 g4 : Nat} {A NS : Array Value} {a : Option Addr} {n c : Nat} {L : List Nat} {m : Nat} (h : Wm w W g1 g4 A NS a n c L m) (i : Nat) (v : Value) (hv : A[i]? = some v) : W.cell? ⟨g1, i, none⟩ = some v := by simp [World.cell?, h.k1, hv]
theorem Wm.d {w W : World} {g1 g4 : Nat} {A NS : Array Value} {a : Option Addr} {n c : Nat} {L : List Nat} {m : Nat} (h : Wm w W g1 g4 A NS a n c L m) (i : Nat) (v : Value) (hv : NS[i]? = some v) : W.cell? ⟨g4, i, none⟩ = some v := by simp [World.cell?, h.k4, hv]
theorem Wm.app {w W W2 : World} {g1 g4 : Nat} {A NS : Array Value} {a b : Option Addr} {n c n2 c2 : Nat} {L l : List Nat} {m m2 : Nat} (h : Wm w W g1 g4 A NS a n c L m) (hb : Below W.heap.size W W2) (ho : Own W2 W.heap.size b n2 c2 l) (h2 : n2 <= m2) (hm : m + m2 <= 140737488352256) :
  ∃ a' c' W3, (Builtin.append_ #[27, 27] 27 #[.slice a n c,.slice b n2 c2]).run Tryd.prog W2 = .ok (.slice a' (n + n2) c') W3 /\ Wm w W3 g1 g4 A NS a' (n + n2) c' (L ++ l) (m + m2) := by
 have h0 := h.below hb
 have hl := h.ln
 obtain ⟨a', c', W3, hrun, own3, gr3, new3⟩ := app_any (c2 := c2) h0.own (ho.sln (by omega)) ho.cap0 (by omega) h0.bel.size
 have g1l : g1 < W2.heap.size := (gl h0.k1)
 have g4l : g4 < W2.heap.size := (gl h0.k4)
 refine ⟨a', c', W3, hrun, own3, h0.bel.trans (grown_below gr3 h0.bel.size (fun q hq => (h0.own.ge q hq).1)), by omega, (gr3.block g1 g1l (fun e => h0.n1 e.symm)).trans h0.k1, (gr3.block g4 g4l (fun e => h0.n4 e.symm)).trans h0.k4, fun e => ?_, fun e => ?_⟩
 . rcases new3 g1 e with e1 | e1
   . exact h0.n1 e1
   . omega
 . rcases new3 g4 e with e1 | e1
   . exact h0.n4 e1
   . omega
theorem flat_next {ns : List Nat} {i v : Nat} (h : ns[i]? = some v) : (ns.take i).flatMap enc ++ enc v = (ns.take (i + 1)).flatMap enc := by
 rw [List.take_add_one, h]
 simp
set_option maxHeartbeats 16000000 in
theorem refputM_n {w : World} {x : Mc} {X : List Cx} {R : List Nat} {A : Array Value} {y : Nmg} {ys : List Nm} (hA : Hid (A = (encM x).toArray)) (hm : Hid (Ms w x X R)) (hx : Hid (x = y.mc x.la x.ln x.lc x.fa x.fn x.fc)) (hy : Hid (Nlt y 9223372036854775808)) (hys : Hid (X.map Cx.cm = ys.map Nm.cm)) (hya : Hid (∀ z ∈ ys, Nb z /\ frm z.cm = true)) (hln : Hid (x.ln <= 4096)) (hfn : Hid (x.fn <= 4096)) :
  Calls Tryd.prog 13 #[.agg A] w fun e w' => ∃ a N c, e = .returned (.slice a N c) /\ Hid (Own w' w.heap.size a N c (pmL y ys R) /\ Below w.heap.size w w') := by
 obtain ⟨la, Hla⟩ := nm (x.la)
 obtain ⟨ln, Hln⟩ := nm (x.ln)
 obtain ⟨lc, Hlc⟩ := nm (x.lc)
 obtain ⟨fa, Hfa⟩ := nm (x.fa)
 obtain ⟨fn, Hfn⟩ := nm (x.fn)
 obtain ⟨fc, Hfc⟩ := nm (x.fc)
 have HX : Hid (x = y.mc la ln lc fa fn fc) := by rw [<- Hla.out, <- Hln.out, <- Hlc.out, <- Hfa.out, <- Hfn.out, <- Hfc.out]; exact hx.out
 have HAy : Hid (A = (encM (y.mc la ln lc fa fn fc)).toArray) := by rw [<- HX.out]; exact hA.out
 have hRz : Hid (fa = none -> fc = 0) := by rw [<- Hfa.out, <- Hfc.out]; exact hm.out.fz
 have hS : Hid (Sln w fa fn R) := by rw [<- Hfa.out, <- Hfn.out]; exact hm.out.fr
 have hC : Hid (Cms w 0 la ln X) := by rw [<- Hla.out, <- Hln.out]; exact hm.out.led
 have ln4 : ln <= 4096 := by rw [<- Hln.out]; exact hln.out
 have fn4 : fn <= 4096 := by rw [<- Hfn.out]; exact hfn.out
 have RN : Hid (fn = R.length) := hS.out.len
 clear hA hm hx hln hfn HX Hla Hln Hlc Hfa Hfn Hfc
 obtain ⟨K, F, T, t0, t1, t2, p0, p1, q0, q1, u0, u1, u2, ok⟩ := y
 obtain ⟨h1, h2, h3, h4, h5, h6, h7, h8, h9, h10, h11, h12, h13⟩ := hy.out
 simp only at h1 h2 h3 h4 h5 h6 h7 h8 h9 h10 h11 h12 h13
 clear hy
 obtain ⟨g1, Hg1⟩ := nm (w.heap.size)
 obtain ⟨w1, Hw1⟩ := nm (w.alloc (.cells A 29))
 have B1 := al1 Hw1
 have s1 : Hid (w1.heap.size = g1 + 1) := by show _ = _; rw [<- Hw1.out, <- Hg1.out]; simp
 have k1 : Hid (w1.heap[g1]? = some (.cells A 29 (0, 0))) := by rw [<- Hw1.out, <- Hg1.out]; exact heap_alloc_new w _
 obtain ⟨g3, Hg3⟩ := nm (w1.heap.size)
 obtain ⟨w2, Hw2⟩ := nm (w1.alloc (.cells #[] 5))
 have B2 := al1 Hw2
 have s2 : Hid (w2.heap.size = g3 + 1) := by show _ = _; rw [<- Hw2.out, <- Hg3.out]; simp
 have O2 : Hid (Own w2 g3 (some ⟨g3, 0, none⟩) 0 0 []) := by rw [<- Hw2.out, <- Hg3.out]; exact own_empty w1
 have k2 : Hid (w2.heap[g1]? = some (.cells A 29 (0, 0))) := (B2.out.block g1 (by have := s1.out; omega)).trans k1.out
 have cc : Hid (∀ (i : Nat) (v : Value), A[i]? = some v -> w2.cell? ⟨g1, i, none⟩ = some v) := fun i v h => by simp [World.cell?, k2.out, h]
 have c14 : w1.cell? ⟨g1, 14, none⟩ = some (.bool ok) := by simp [World.cell?, k1.out, HAy.out, encM, Nmg.mc]
 have d0 : w2.cell? ⟨g1, 0, none⟩ = some (.int .i64 (K : Int)) := cc.out 0 _ (by rw [HAy.out]; rfl)
 have d1 : w2.cell? ⟨g1, 1, none⟩ = some (.int .i64 (F : Int)) := cc.out 1 _ (by rw [HAy.out]; rfl)
 have d2 : w2.cell? ⟨g1, 2, none⟩ = some (.int .i64 (T : Int)) := cc.out 2 _ (by rw [HAy.out]; rfl)
 have d3 : w2.cell? ⟨g1, 3, none⟩ = some (.int .i64 (t0 : Int)) := cc.out 3 _ (by rw [HAy.out]; rfl)
 have d4 : w2.cell? ⟨g1, 4, none⟩ = some (.int .i64 (t1 : Int)) := cc.out 4 _ (by rw [HAy.out]; rfl)
 have d5 : w2.cell? ⟨g1, 5, none⟩ = some (.int .i64 (t2 : Int)) := cc.out 5 _ (by rw [HAy.out]; rfl)
 have d6 : w2.cell? ⟨g1, 6, none⟩ = some (.int .i64 (p0 : Int)) := cc.out 6 _ (by rw [HAy.out]; rfl)
 have d7 : w2.cell? ⟨g1, 7, none⟩ = some (.int .i64 (p1 : Int)) := cc.out 7 _ (by rw [HAy.out]; rfl)
 have d8 : w2.cell? ⟨g1, 8, none⟩ = some (.int .i64 (q0 : Int)) := cc.out 8 _ (by rw [HAy.out]; rfl)
 have d9 : w2.cell? ⟨g1, 9, none⟩ = some (.int .i64 (q1 : Int)) := cc.out 9 _ (by rw [HAy.out]; rfl)
 have d11 : w2.cell? ⟨g1, 11, none⟩ = some (.int .i64 (u0 : Int)) := cc.out 11 _ (by rw [HAy.out]; rfl)
 have d12 : w2.cell? ⟨g1, 12, none⟩ = some (.int .i64 (u1 : Int)) := cc.out 12 _ (by rw [HAy.out]; rfl)
 have d13 : w2.cell? ⟨g1, 13, none⟩ = some (.int .i64 (u2 : Int)) := cc.out 13 _ (by rw [HAy.out]; rfl)
 go_enter Tryd.func13, Tryd.ntmps13
 go_upto_region 1 with (fail)
 rw [Hw1.out, Hg1.out]
 cases ok with
 | true =>
   obtain ⟨ns, Hns⟩ : ∃ l : List Nat, Hid (l = [K, F, T, t0, t1, t2, p0, p1, q0, q1, u0, u1, u2, 1]) := ⟨_, rfl⟩
   obtain ⟨NS, HNS⟩ : ∃ l : Array Value, Hid (l = #[.int .i64 (K : Int),.int .i64 (F : Int),.int .i64 (T : Int),.int .i64 (t0 : Int),.int .i64 (t1 : Int),.int .i64 (t2 : Int),.int .i64 (p0 : Int),.int .i64 (p1 : Int),.int .i64 (q0 : Int),.int .i64 (q1 : Int),.int .i64 (u0 : Int),.int .i64 (u1 : Int),.int .i64 (u2 : Int),.int .i64 1]) := ⟨_, rfl⟩
   have NSE : Hid (NS = (ns.map (fun z : Nat => Value.int .i64 (z : Int))).toArray) := by rw [HNS.out, Hns.out]; rfl
   have LNS : Hid (ns.length = 14) := by rw [Hns.out]; rfl
   have ALL : Hid (∀ z ∈ ns, z < 9223372036854775808) := by
    rw [Hns.out]
    intro z hz
    simp only [List.mem_cons, List.not_mem_nil, or_false] at hz
    omega
   have MB : Hid (mbL ⟨K, F, T, t0, t1, t2, p0, p1, q0, q1, u0, u1, u2, true⟩ (sealL (wrL ys)) R = (ns.take 14).flatMap enc ++ (enc (sealL (wrL ys)).length ++ sealL (wrL ys)) ++ (enc R.length ++ R)) := by
    show _ = _
    rw [Hns.out]
    simp [mbL, okN]
   clear h1 h2 h3 h4 h5 h6 h7 h8 h9 h10 h11 h12 h13
   obtain ⟨g4, Hg4⟩ := nm (w2.heap.size)
   obtain ⟨w4, Hw4⟩ := nm (w2.alloc (.cells NS 3))
   have B4 := al1 Hw4
   have k4 : Hid (w4.heap[g4]? = some (.cells NS 3 (0, 0))) := by rw [<- Hw4.out, <- Hg4.out]; exact heap_alloc_new w2 _
   have S4 : Hid (Wm w w4 g1 g4 A NS (some ⟨g3, 0, none⟩) 0 0 [] 0) := by
    have e1 := Hg1.out
    have e2 := s1.out
    have e3 := Hg3.out
    have e4 := s2.out
    have e5 := Hg4.out
    have b2 : Below w.heap.size w w2 := B1.out.trans (B2.out.mono B1.out.size)
    refine ⟨(O2.out.base (by omega)).below B4.out, b2.trans (B4.out.mono b2.size), Nat.le_refl _, (B4.out.block g1 (by omega)).trans k2.out, k4.out, ?_, ?_⟩ <;> (simp only [blkOf, Option.map_some, ne_eq, Option.some.injEq]; omega)
   clear B1 s1 k1 B2 s2 O2 k2 B4 k4
   go_upto_region 5 with (fail)
   rw [Hw2.out, Hg3.out]
   clear c14
   go_wp2
   rw [<- HNS.out, Hg4.out, Hw4.out]
   clear d0 d1 d2 d3 d4 d5 d6 d7 d8 d9 d11 d12 d13 cc
   go_loopw [4, 51] (fun t4 ti wr => ∃ (i : Nat) (ai : Option Addr) (ni ci : Nat), i <= 14 /\ t4 = .slice ai ni ci /\ ti = .int .i64 (i : Int) /\ Hid (Wm w wr g1 g4 A NS ai ni ci ((ns.take i).flatMap enc) (i * 9))) (fun _ ti _ => 14 - (intOf ti).toNat)
   case atStart => exact ⟨0, _, 0, 0, by omega, rfl, rfl, S4.out⟩
   case round =>
    obtain ⟨i, ai, ni, ci, hi, rfl, rfl, S⟩ := hrel
    clear S4
    by_cases hlt : i < 14
    . have i2 : (i : Int) < 14 := by omega
      obtain ⟨v, EX⟩ : ∃ v, Hid (ns[i]? = some v) := ⟨ns[i]'(by have := LNS.out; omega), List.getElem?_eq_getElem _⟩
      have VL : Hid (v < 9223372036854775808) := ALL.out v (List.mem_of_getElem? EX.out)
      have ci4 : wr.cell? ⟨g4, i, none⟩ = some (.int .i64 (v : Int)) := S.out.d i _ (by rw [NSE.out]; simp [EX.out])
      go_wp2_with first
       | (go_at_call 25; refine (refnum_n (N := v) VL.out).mono ?_; rintro e w6 ⟨b6, n6, c6, rfl, h6⟩
          obtain ⟨a7, c7, w7, hrun, S7⟩ := S.out.app (m2 := 9) h6.out.2 h6.out.1 (by rw [h6.out.1.len]; exact enc_nine VL.out) (by omega)
          have AP : Hid ((Builtin.append_ #[27, 27] 27 #[.slice ai ni ci,.slice b6 n6 c6]).run Tryd.prog w6 = .ok (.slice a7 (ni + n6) c7) w7) := hrun
          have T7 : Hid (Wm w w7 g1 g4 A NS a7 (ni + n6) c7 ((ns.take (i + 1)).flatMap enc) ((i + 1) * 9)) := by
           rw [<- flat_next EX.out, show (i + 1) * 9 = i * 9 + 9 by omega]
           exact S7
          clear hrun S7)
       | (at_builtin; refine wpList_app (by rfl) (.tmp 55) (.tmp 57) (by rfl) (by rfl) (by rfl) (by rfl) AP ?_)
      go_roundw
      case rel => exact ⟨i + 1, a7, ni + n6, c7, by omega, rfl, by go_num, T7.out⟩
      case measure => simp [intOf]; omega
    . obtain rfl : i = 14 := by omega
      have cl : wr.cell? ⟨g1, 10, none⟩ = some (.slice la ln lc) := S.out.c 10 _ (by rw [HAy.out]; rfl)
      have Cr : Hid (Cms wr 0 la ln X) := hC.out.below S.out.bel
      go_wp2_with first
       | (go_at_call 22; refine (refwrite_yes Cr ln4 hys hya).mono ?_; rintro e w5 ⟨b5, n5, d5, rfl, h5⟩
          have L5 : Hid (n5 <= 10000100) := h5.out.2.1
          have S5 : Hid (Wm w w5 g1 g4 A NS ai ni ci ((ns.take 14).flatMap enc) (14 * 9)) := S.out.below h5.out.2.2
          have Z5 : Hid (b5 = none -> d5 = 0) := h5.out.1.cap0
          have Q5 : Hid (Sln w5 b5 n5 (sealL (wrL ys))) := h5.out.1.sln (by have := L5.out; omega)
          have nn5 : n5 + 9 <= 140737488352256 := by have := L5.out; omega
          clear h5)
       | (go_at_call 26; refine (refbytes_n Q7 hRz nn7).mono ?_; rintro e w8 ⟨b8, n8, c8, rfl, h8⟩
          have L8 : n8 <= 5000 := by
           have h := h8.out.1.len
           have h2 := enc_nine (n := fn) (by omega)
           have h3 := RN.out
           rw [List.length_append] at h
           omega
          obtain ⟨a9, c9, w9, hrun, S9⟩ := S7.out.app (m2 := 5000) h8.out.2 h8.out.1 L8 (by omega)
          have AP9 : Hid ((Builtin.append_ #[27, 27] 27 #[.slice a7 (ni + n6) c7,.slice b8 n8 c8]).run Tryd.prog w8 = .ok (.slice a9 (ni + n6 + n8) c9) w9) := hrun
          have T9 : Hid (Wm w w9 g1 g4 A NS a9 (ni + n6 + n8) c9 ((ns.take 14).flatMap enc ++ (enc n5 ++ sealL (wrL ys)) ++ (enc fn ++ R)) (14 * 9 + 10000200 + 5000)) := S9
          have Q9 : Hid (Sln w9 a9 (ni + n6 + n8) ((ns.take 14).flatMap enc ++ (enc n5 ++ sealL (wrL ys)) ++ (enc fn ++ R))) := S9.own.sln (by have := S9.ln; omega)
          have Z9 : Hid (a9 = none -> c9 = 0) := S9.own.cap0
          have nn9 : ni + n6 + n8 + 4 <= 140737488352256 := by have := S9.ln; omega
          clear hrun S9 L8 h8)
       | (go_at_call 26; refine (refbytes_n Q5 Z5 nn5).mono ?_; rintro e w6 ⟨b6, n6, c6, rfl, h6⟩
          have L6 : n6 <= 10000200 := by
           have h := h6.out.1.len
           have h2 := enc_nine (n := n5) (by omega)
           have h3 := Q5.out.len
           have h4 := L5.out
           rw [List.length_append] at h
           omega
          obtain ⟨a7, c7, w7, hrun, S7'⟩ := S5.out.app (m2 := 10000200) h6.out.2 h6.out.1 L6 (by omega)
          have AP7 : Hid ((Builtin.append_ #[27, 27] 27 #[.slice ai ni ci,.slice b6 n6 c6]).run Tryd.prog w6 = .ok (.slice a7 (ni + n6) c7) w7) := hrun
          have S7 : Hid (Wm w w7 g1 g4 A NS a7 (ni + n6) c7 ((ns.take 14).flatMap enc ++ (enc n5 ++ sealL (wrL ys))) (14 * 9 + 10000200)) := S7'
          have Q7 : Hid (Sln w7 fa fn R) := hS.out.below S7'.bel
          have nn7 : fn + 9 <= 140737488352256 := by omega
          have c15 : w7.cell? ⟨g1, 15, none⟩ = some (.slice fa fn fc) := S7'.c 15 _ (by rw [HAy.out]; rfl)
          clear hrun S7' L6 h6)
       | (go_at_call 27; refine (refseal_n Q9 Z9 nn9).mono ?_; rintro e w10 ⟨a10, n10, c10, rfl, h10⟩)
       | (at_builtin; refine wpList_app (by rfl) (.tmp 66) (.tmp 68) (by rfl) (by rfl) (by rfl) (by rfl) AP7 ?_)
       | (at_builtin; refine wpList_app (by rfl) (.tmp 70) (.tmp 73) (by rfl) (by rfl) (by rfl) (by rfl) AP9 ?_)
      go_ret
      refine ⟨a10, n10, c10, rfl, ?_, T9.out.bel.trans (h10.out.2.2.mono T9.out.bel.size)⟩
      have h := h10.out.2.1.base T9.out.bel.size
      unfold pmL
      rw [MB.out, <- Q5.out.len, <- RN.out]
      exact h
 | false =>
   obtain ⟨ns, Hns⟩ : ∃ l : List Nat, Hid (l = [K, F, T, t0, t1, t2, p0, p1, q0, q1, u0, u1, u2, 0]) := ⟨_, rfl⟩
   obtain ⟨NS, HNS⟩ : ∃ l : Array Value, Hid (l = #[.int .i64 (K : Int),.int .i64 (F : Int),.int .i64 (T : Int),.int .i64 (t0 : Int),.int .i64 (t1 : Int),.int .i64 (t2 : Int),.int .i64 (p0 : Int),.int .i64 (p1 : Int),.int .i64 (q0 : Int),.int .i64 (q1 : Int),.int .i64 (u0 : Int),.int .i64 (u1 : Int),.int .i64 (u2 : Int),.int .i64 0]) := ⟨_, rfl⟩
   have NSE : Hid (NS = (ns.map (fun z : Nat => Value.int .i64 (z : Int))).toArray) := by rw [HNS.out, Hns.out]; rfl
   have LNS : Hid (ns.length = 14) := by rw [Hns.out]; rfl
   have ALL : Hid (∀ z ∈ ns, z < 9223372036854775808) := by
    rw [Hns.out]
    intro z hz
    simp only [List.mem_cons, List.not_mem_nil, or_false] at hz
    omega
   have MB : Hid (mbL ⟨K, F, T, t0, t1, t2, p0, p1, q0, q1, u0, u1, u2, false⟩ (sealL (wrL ys)) R = (ns.take 14).flatMap enc ++ (enc (sealL (wrL ys)).length ++ sealL (wrL ys)) ++ (enc R.length ++ R)) := by
    show _ = _
    rw [Hns.out]
    simp [mbL, okN]
   clear h1 h2 h3 h4 h5 h6 h7 h8 h9 h10 h11 h12 h13
   obtain ⟨g4, Hg4⟩ := nm (w2.heap.size)
   obtain ⟨w4, Hw4⟩ := nm (w2.alloc (.cells NS 3))
   have B4 := al1 Hw4
   have k4 : Hid (w4.heap[g4]? = some (.cells NS 3 (0, 0))) := by rw [<- Hw4.out, <- Hg4.out]; exact heap_alloc_new w2 _
   have S4 : Hid (Wm w w4 g1 g4 A NS (some ⟨g3, 0, none⟩) 0 0 [] 0) := by
    have e1 := Hg1.out
    have e2 := s1.out
    have e3 := Hg3.out
    have e4 := s2.out
    have e5 := Hg4.out
    have b2 : Below w.heap.size w w2 := B1.out.trans (B2.out.mono B1.out.size)
    refine ⟨(O2.out.base (by omega)).below B4.out, b2.trans (B4.out.mono b2.size), Nat.le_refl _, (B4.out.block g1 (by omega)).trans k2.out, k4.out, ?_, ?_⟩ <;> (simp only [blkOf, Option.map_some, ne_eq, Option.some.injEq]; omega)
   clear B1 s1 k1 B2 s2 O2 k2 B4 k4
   go_upto_region 5 with (fail)
   rw [Hw2.out, Hg3.out]
   clear c14
   go_wp2
   rw [<- HNS.out, Hg4.out, Hw4.out]
   clear d0 d1 d2 d3 d4 d5 d6 d7 d8 d9 d11 d12 d13 cc
   go_loopw [4, 51] (fun t4 ti wr => ∃ (i : Nat) (ai : Option Addr) (ni ci : Nat), i <= 14 /\ t4 = .slice ai ni ci /\ ti = .int .i64 (i : Int) /\ Hid (Wm w wr g1 g4 A NS ai ni ci ((ns.take i).flatMap enc) (i * 9))) (fun _ ti _ => 14 - (intOf ti).toNat)
   case atStart => exact ⟨0, _, 0, 0, by omega, rfl, rfl, S4.out⟩
   case round =>
    obtain ⟨i, ai, ni, ci, hi, rfl, rfl, S⟩ := hrel
    clear S4
    by_cases hlt : i < 14
    . have i2 : (i : Int) < 14 := by omega
      obtain ⟨v, EX⟩ : ∃ v, Hid (ns[i]? = some v) := ⟨ns[i]'(by have := LNS.out; omega), List.getElem?_eq_getElem _⟩
      have VL : Hid (v < 9223372036854775808) := ALL.out v (List.mem_of_getElem? EX.out)
      have ci4 : wr.cell? ⟨g4, i, none⟩ = some (.int .i64 (v : Int)) := S.out.d i _ (by rw [NSE.out]; simp [EX.out])
      go_wp2_with first
       | (go_at_call 25; refine (refnum_n (N := v) VL.out).mono ?_; rintro e w6 ⟨b6, n6, c6, rfl, h6⟩
          obtain ⟨a7, c7, w7, hrun, S7⟩ := S.out.app (m2 := 9) h6.out.2 h6.out.1 (by rw [h6.out.1.len]; exact enc_nine VL.out) (by omega)
          have AP : Hid ((Builtin.append_ #[27, 27] 27 #[.slice ai ni ci,.slice b6 n6 c6]).run Tryd.prog w6 = .ok (.slice a7 (ni + n6) c7) w7) := hrun
          have T7 : Hid (Wm w w7 g1 g4 A NS a7 (ni + n6) c7 ((ns.take (i + 1)).flatMap enc) ((i + 1) * 9)) := by
           rw [<- flat_next EX.out, show (i + 1) * 9 = i * 9 + 9 by omega]
           exact S7
          clear hrun S7)
       | (at_builtin; refine wpList_app (by rfl) (.tmp 55) (.tmp 57) (by rfl) (by rfl) (by rfl) (by rfl) AP ?_)
      go_roundw
      case rel => exact ⟨i + 1, a7, ni + n6, c7, by omega, rfl, by go_num, T7.out⟩
      case measure => simp [intOf]; omega
    . obtain rfl : i = 14 := by omega
      have cl : wr.cell? ⟨g1, 10, none⟩ = some (.slice la ln lc) := S.out.c 10 _ (by rw [HAy.out]; rfl)
      have Cr : Hid (Cms wr 0 la ln X) := hC.out.below S.out.bel
      go_wp2_with first
       | (go_at_call 22; refine (refwrite_yes Cr ln4 hys hya).mono ?_; rintro e w5 ⟨b5, n5, d5, rfl, h5⟩
          have L5 : Hid (n5 <= 10000100) := h5.out.2.1
          have S5 : Hid (Wm w w5 g1 g4 A NS ai ni ci ((ns.take 14).flatMap enc) (14 * 9)) := S.out.below h5.out.2.2
          have Z5 : Hid (b5 = none -> d5 = 0) := h5.out.1.cap0
          have Q5 : Hid (Sln w5 b5 n5 (sealL (wrL ys))) := h5.out.1.sln (by have := L5.out; omega)
          have nn5 : n5 + 9 <= 140737488352256 := by have := L5.out; omega
          clear h5)
       | (go_at_call 26; refine (refbytes_n Q7 hRz nn7).mono ?_; rintro e w8 ⟨b8, n8, c8, rfl, h8⟩
          have L8 : n8 <= 5000 := by
           have h := h8.out.1.len
           have h2 := enc_nine (n := fn) (by omega)
           have h3 := RN.out
           rw [List.length_append] at h
           omega
          obtain ⟨a9, c9, w9, hrun, S9⟩ := S7.out.app (m2 := 5000) h8.out.2 h8.out.1 L8 (by omega)
          have AP9 : Hid ((Builtin.append_ #[27, 27] 27 #[.slice a7 (ni + n6) c7,.slice b8 n8 c8]).run Tryd.prog w8 = .ok (.slice a9 (ni + n6 + n8) c9) w9) := hrun
          have T9 : Hid (Wm w w9 g1 g4 A NS a9 (ni + n6 + n8) c9 ((ns.take 14).flatMap enc ++ (enc n5 ++ sealL (wrL ys)) ++ (enc fn ++ R)) (14 * 9 + 10000200 + 5000)) := S9
          have Q9 : Hid (Sln w9 a9 (ni + n6 + n8) ((ns.take 14).flatMap enc ++ (enc n5 ++ sealL (wrL ys)) ++ (enc fn ++ R))) := S9.own.sln (by have := S9.ln; omega)
          have Z9 : Hid (a9 = none -> c9 = 0) := S9.own.cap0
          have nn9 : ni + n6 + n8 + 4 <= 140737488352256 := by have := S9.ln; omega
          clear hrun S9 L8 h8)
       | (go_at_call 26; refine (refbytes_n Q5 Z5 nn5).mono ?_; rintro e w6 ⟨b6, n6, c6, rfl, h6⟩
          have L6 : n6 <= 10000200 := by
           have h := h6.out.1.len
           have h2 := enc_nine (n := n5) (by omega)
           have h3 := Q5.out.len
           have h4 := L5.out
           rw [List.length_append] at h
           omega
          obtain ⟨a7, c7, w7, hrun, S7'⟩ := S5.out.app (m2 := 10000200) h6.out.2 h6.out.1 L6 (by omega)
          have AP7 : Hid ((Builtin.append_ #[27, 27] 27 #[.slice ai ni ci,.slice b6 n6 c6]).run Tryd.prog w6 = .ok (.slice a7 (ni + n6) c7) w7) := hrun
          have S7 : Hid (Wm w w7 g1 g4 A NS a7 (ni + n6) c7 ((ns.take 14).flatMap enc ++ (enc n5 ++ sealL (wrL ys))) (14 * 9 + 10000200)) := S7'
          have Q7 : Hid (Sln w7 fa fn R) := hS.out.below S7'.bel
          have nn7 : fn + 9 <= 140737488352256 := by omega
          have c15 : w7.cell? ⟨g1, 15, none⟩ = some (.slice fa fn fc) := S7'.c 15 _ (by rw [HAy.out]; rfl)
          clear hrun S7' L6 h6)
       | (go_at_call 27; refine (refseal_n Q9 Z9 nn9).mono ?_; rintro e w10 ⟨a10, n10, c10, rfl, h10⟩)
       | (at_builtin; refine wpList_app (by rfl) (.tmp 66) (.tmp 68) (by rfl) (by rfl) (by rfl) (by rfl) AP7 ?_)
       | (at_builtin; refine wpList_app (by rfl) (.tmp 70) (.tmp 73) (by rfl) (by rfl) (by rfl) (by rfl) AP9 ?_)
      go_ret
      refine ⟨a10, n10, c10, rfl, ?_, T9.out.bel.trans (h10.out.2.2.mono T9.out.bel.size)⟩
      have h := h10.out.2.1.base T9.out.bel.size
      unfold pmL
      rw [MB.out, <- Q5.out.len, <- RN.out]
      exact h
theorem mc_rows {x : Mc} {y : Nmg} {a b : Option Addr} {c d : Nat} (h : x = y.mc x.la x.ln x.lc x.fa x.fn x.fc) : { x with la := a, lc := c, fa := b, fc := d } = y.mc a x.ln c b x.fn d := by
 obtain ⟨k, f, t, t0, t1, t2, p0, p1, q0, q1, la, ln, lc, u0, u1, u2, vk, fa, fn, fc⟩ := x
 simp only [Nmg.mc, Mc.mk.injEq] at h ⊢
 simp [h]
set_option maxHeartbeats 16000000 in
theorem putsM_n {w : World} {M : Nat -> Prop} {E : Nat -> Addr} {x : Mc} {X : List Cx} {R : List Nat} {A : Array Value} (hA : Hid (A = (encM x).toArray)) (hm : Hid (Ms w x X R)) (hE : Hid (Sent w M E)) (hM0 : M 0) (hM1 : M 1) (hM3 : M 3) :
  Calls Tryd.prog 3 #[.agg A] w fun e w' => e = .returned (.bool true) /\ Hid (Below w.heap.size w w') := by
 have a16 : A.size = 16 := encM_sz hA.out
 obtain ⟨g1, Hg1⟩ := nm (w.heap.size)
 obtain ⟨w0, Hw0⟩ := nm (w.alloc (.cells A 29))
 have B0 := al1 Hw0
 have j0 : Hid (w0.heap[g1]? = some (.cells A 29 (0, 0))) := by rw [<- Hw0.out, <- Hg1.out]; exact heap_alloc_new w _
 have E0 : Hid (Sent w0 M E) := hE.out.below B0.out
 go_enter Tryd.func3, Tryd.ntmps3
 go_upto_region 1 with (fail)
 rw [Hw0.out, Hg1.out]
 go_upto_region 3 with (go_at_call 6; refine (aliveM_n E0 hM0).mono ?_; rintro e w1 ⟨rfl, h1⟩)
 have B1 := bt B0 h1
 have j1 := sh h1 j0
 have M1 : Hid (Ms w1 x X R) := hm.out.below B1.out
 clear h1 j0 E0 B0 Hw0 Hg1
 go_upto_region 4 with first
  | (refine wpList_load_row (by rfl) 29 (.tmp 1) (by rfl) g1 (by rfl) 29 A (0, 0) _ j1.out Tryd.underlying29 rfl (info29 a16) ?_)
  | (go_at_call 7; refine (copiedM_n hA M1).mono ?_; rintro e w2 ⟨ca, cc, cb, cd, rfl, H2⟩
     obtain ⟨Az, HAz0⟩ := nm ((encM { x with la := ca, lc := cc, fa := cb, fc := cd }).toArray)
     rw [HAz0.out]
     have az16 : Az.size = 16 := encM_sz HAz0.out.symm)
  | (refine wpList_store_row (by rfl) 29 (.tmp 3) (.tmp 12) (by rfl) w2.heap.size Az (by rfl) (by rfl) 29 _ (heap_alloc_new w2 _) (info29 az16) az16.symm (encM_all HAz0.out.symm) ?_)
 obtain ⟨Y, LY0, MZ0, BZ0⟩ := H2.out
 have LY : Hid (led Y = led X) := LY0
 have MZ : Hid (Ms w2 { x with la := ca, lc := cc, fa := cb, fc := cd } Y R) := MZ0
 have BZ : Hid (Below w1.heap.size w1 w2) := BZ0
 clear LY0 MZ0 BZ0 H2
 obtain ⟨g3, Hg3⟩ := nm (w2.heap.size)
 obtain ⟨w3, Hw3⟩ := nm ((w2.alloc (.cells #[.int .i64 0,.int .i64 0,.int .i64 0,.int .i64 0,.int .i64 0,.int .i64 0,.int .i64 0,.int .i64 0,.int .i64 0,.int .i64 0,.slice none 0 0,.int .i64 0,.int .i64 0,.int .i64 0,.bool false,.slice none 0 0] 29)).setRow w2.heap.size Az)
 have b23 : Hid (Below w2.heap.size w2 w3) := by rw [<- Hw3.out]; exact below_setRow (alloc1 w2 _) (Nat.le_refl _) Az
 have k3 : Hid (w3.heap[g3]? = some (.cells Az 29 (0, 0))) := by rw [<- Hw3.out, <- Hg3.out]; exact setRow_heap _ _ _ _ _ _ (heap_alloc_new w2 _)
 have b13 := bt BZ b23
 have B3 := bt B1 b13
 have j3 := sh b13 j1
 have ZF : Hid (mf { x with la := ca, lc := cc, fa := cb, fc := cd } (led Y) = mf x (led X)) := by
  show _ = _
  rw [LY.out]
  rfl
 have ZS : Hid (smB { x with la := ca, lc := cc, fa := cb, fc := cd } (led Y) R x (led X) R = true) := by
  show _ = _
  rw [LY.out]
  simp [smB]
 have ZM : Hid (∀ y : Nmg, x = y.mc x.la x.ln x.lc x.fa x.fn x.fc -> { x with la := ca, lc := cc, fa := cb, fc := cd } = y.mc ca x.ln cc cb x.fn cd) := fun y h => mc_rows h
 obtain ⟨z, Hz⟩ : ∃ z : Mc, Hid ({ x with la := ca, lc := cc, fa := cb, fc := cd } = z) := ⟨_, rfl⟩
 have ZL : Hid (z.la = ca /\ z.ln = x.ln /\ z.lc = cc /\ z.fa = cb /\ z.fn = x.fn /\ z.fc = cd) := by rw [<- Hz.out]; exact ⟨rfl, rfl, rfl, rfl, rfl, rfl⟩
 have HAz : Hid (Az = (encM z).toArray) := by rw [<- Hz.out]; exact HAz0.out.symm
 rw [Hz.out] at MZ ZF ZS ZM
 have Z3 : Hid (Ms w3 z Y R) := MZ.out.below b23.out
 have CZ3 : Hid (Cms w3 0 z.la z.ln Y) := Z3.out.led
 have E3 : Hid (Sent w3 M E) := hE.out.below B3.out
 rw [Hw3.out, Hg3.out]
 clear HAz0 MZ BZ Hw3 Hg3 b23 b13 j1 M1 B1 Hz
 rcases Bool.eq_false_or_eq_true (mf x (led X)) with hf | hf
 rotate_left
 . have HF : Hid (mf x (led X) = false) := hf
   have HZ : Hid (mf z (led Y) = false) := ZF.out.trans hf
   clear hf
   go_upto_region 5 with first
    | (refine wpList_load_row (by rfl) 29 (.tmp 3) (by rfl) g3 (by rfl) 29 Az (0, 0) _ k3.out Tryd.underlying29 rfl (info29 az16) ?_)
    | (go_at_call 8; refine (checkM_no HAz E3 hM0 CZ3 HZ).mono ?_; rintro e w4 ⟨rfl, h4⟩)
   have B4 := bt B3 h4
   have j4 := sh h4 j3
   have k4 := sh h4 k3
   have Z4 : Hid (Ms w4 z Y R) := Z3.out.below h4.out
   have CZ4 : Hid (Cms w4 0 z.la z.ln Y) := Z4.out.led
   have E4 : Hid (Sent w4 M E) := hE.out.below B4.out
   go_upto_region 6 with first
    | (refine wpList_load_row (by rfl) 29 (.tmp 3) (by rfl) g3 (by rfl) 29 Az (0, 0) _ k4.out Tryd.underlying29 rfl (info29 az16) ?_)
    | (go_at_call 9; refine (putM_no HAz E4 hM0 CZ4 HZ).mono ?_; rintro e w5 ⟨rfl, h5⟩)
   have B5 := bt B4 h5
   have j5 := sh h5 j4
   have k5 := sh h5 k4
   have Z5 : Hid (Ms w5 z Y R) := Z4.out.below h5.out
   have M5 : Hid (Ms w5 x X R) := hm.out.below B5.out
   go_upto_region 8 with first
    | (refine wpList_load_row (by rfl) 29 (.tmp 3) (by rfl) g3 (by rfl) 29 Az (0, 0) _ k5.out Tryd.underlying29 rfl (info29 az16) ?_)
    | (refine wpList_load_row (by rfl) 29 (.tmp 1) (by rfl) g1 (by rfl) 29 A (0, 0) _ j5.out Tryd.underlying29 rfl (info29 a16) ?_)
    | (go_at_call 10; refine (sameM_n HAz hA Z5 M5).mono ?_; rintro e w6 ⟨rfl, h6⟩; rw [ZS.out])
   have B6 := bt B5 h6
   have j6 := sh h6 j5
   have M6 : Hid (Ms w6 x X R) := hm.out.below B6.out
   go_wp2_with first
    | (refine wpList_load_row (by rfl) 29 (.tmp 1) (by rfl) g1 (by rfl) 29 A (0, 0) _ j6.out Tryd.underlying29 rfl (info29 a16) ?_)
    | (go_at_call 11; refine (inFmM_n hA M6).mono ?_; rintro e w7 ⟨rfl, h7⟩; rw [HF.out]
       have B7 := bt B6 h7
       have ce : w7.cell? ⟨0, 0, none⟩ = some (er (E 0)) := (hE.out.below B7.out).c 0 hM0
       have eq := eql_same w7 (E 0))
   go_ret
   exact ⟨rfl, B7.out⟩
 have HF : Hid (mf x (led X) = true) := hf
 have HZ : Hid (mf z (led Y) = true) := ZF.out.trans hf
 obtain ⟨y, ys, hx, hy, hys, hya, hln, hfn⟩ := mf_nat hm.out.led.len hf
 have hxz : z = y.mc z.la z.ln z.lc z.fa z.fn z.fc := by
  rw [ZL.out.1, ZL.out.2.1, ZL.out.2.2.1, ZL.out.2.2.2.1, ZL.out.2.2.2.2.1, ZL.out.2.2.2.2.2]
  exact ZM.out y hx
 have hyz : Y.map Cx.cm = ys.map Nm.cm := (show led Y = ys.map Nm.cm from LY.out.trans hys)
 have YN : Hid (ys.length <= 4096) := by
  have h := congrArg List.length hys
  simp only [List.length_map] at h
  have h2 := hm.out.led.len
  show _ <= _
  omega
 have MFN : Hid (mfN y ys R = true) := by
  have h := mf_mem (la := x.la) (lc := x.lc) (fa := x.fa) (fc := x.fc) (y := y) (ys := ys) (L := R) (ln := x.ln) (fn := x.fn) (Y := X) (by have h := congrArg List.length hys; simp only [List.length_map] at h; have h2 := hm.out.led.len; omega) hm.out.fr.len hys
  rw [<- hx, hf] at h
  exact h.symm
 have RG : Hid (rMg (mbL y (sealL (wrL ys)) R) = some (y, ys, R)) := rMg_there hy YN.out hya (by have := hm.out.fr.len; omega) MFN.out
 have HX : Hid (x = y.mc x.la x.ln x.lc x.fa x.fn x.fc /\ X.map Cx.cm = ys.map Nm.cm) := ⟨hx, hys⟩
 have HXZ : Hid (z = y.mc z.la z.ln z.lc z.fa z.fn z.fc) := hxz
 have HYZ : Hid (Y.map Cx.cm = ys.map Nm.cm) := hyz
 have HY1 : Hid (Nlt y 1099511627777) := hy
 have NY : Hid (Nlt y 9223372036854775808) := hy.mono (by omega)
 have HYA : Hid (∀ z ∈ ys, Nb z /\ frm z.cm = true) := hya
 have HLN : Hid (x.ln <= 4096) := hln
 have HFN : Hid (x.fn <= 4096) := hfn
 have HLZ : Hid (z.ln <= 4096) := by rw [ZL.out.2.1]; exact hln
 have HFZ : Hid (z.fn <= 4096) := by rw [ZL.out.2.2.2.2.1]; exact hfn
 clear hf hx hy hys hya hln hfn hxz hyz MFN YN ZF ZM
 go_upto_region 5 with first
  | (refine wpList_load_row (by rfl) 29 (.tmp 3) (by rfl) g3 (by rfl) 29 Az (0, 0) _ k3.out Tryd.underlying29 rfl (info29 az16) ?_)
  | (go_at_call 8; refine (checkM_yes HAz E3 hM0 CZ3 HZ).mono ?_; rintro e w4 ⟨rfl, h4⟩)
 have B4 := bt B3 h4
 have j4 := sh h4 j3
 have k4 := sh h4 k3
 have Z4 : Hid (Ms w4 z Y R) := Z3.out.below h4.out
 have E4 : Hid (Sent w4 M E) := hE.out.below B4.out
 have HPM := hidI (putM_yes HAz E4 hM0 Z4 HZ HXZ HY1 HYZ HYA HLZ HFZ)
 go_upto_region 6 with first
  | (refine wpList_load_row (by rfl) 29 (.tmp 3) (by rfl) g3 (by rfl) 29 Az (0, 0) _ k4.out Tryd.underlying29 rfl (info29 az16) ?_)
  | (go_at_call 9; refine HPM.out.mono ?_; rintro e w5 ⟨gx, Nx, rfl, H5⟩)
 have h5 : Hid (Below w4.heap.size w4 w5) := H5.out.2.2.2.2
 have B5 := bt B4 h5
 have j5 := sh h5 j4
 have k5 := sh h5 k4
 have Z5 : Hid (Ms w5 z Y R) := Z4.out.below h5.out
 have M5 : Hid (Ms w5 x X R) := hm.out.below B5.out
 obtain ⟨lx, Hlx⟩ := nm (pmL y ys R)
 have LXB : Hid (∀ z ∈ lx, z < 256) := by rw [<- Hlx.out]; exact seal_bytes (pmL_lt hm.out.flt)
 have NX : Hid (lx.length <= 60000000) := by
  have h3 := H5.out.2.1
  rw [Hlx.out] at h3
  have h4 := H5.out.2.2.1
  show _ <= _
  omega
 have SX : Hid (Sln w5 (some ⟨gx, 0, none⟩) Nx lx) := by
  have h := H5.out.1
  rw [Hlx.out] at h
  have h3 := H5.out.2.1
  rw [Hlx.out] at h3
  have h4 := H5.out.2.2.1
  have h2 := h.sln LXB.out (by omega)
  rw [<- h3] at h2
  exact h2
 have OP : Hid (opn lx = (mbL y (sealL (wrL ys)) R, 0)) := by rw [<- Hlx.out]; exact opn_seal _
 have E8 : ∀ w, (Op.equalIn 10000 9 (.string (spell lx)) (.string (spell lx))).run Tryd.prog w = .ok true w := fun w => by rw [eqS]; simp
 clear H5 HPM k3 j3 E3 Z3 CZ3 B3 h4
 go_upto_region 8 with first
  | (refine wpList_load_row (by rfl) 29 (.tmp 3) (by rfl) g3 (by rfl) 29 Az (0, 0) _ k5.out Tryd.underlying29 rfl (info29 az16) ?_)
  | (refine wpList_load_row (by rfl) 29 (.tmp 1) (by rfl) g1 (by rfl) 29 A (0, 0) _ j5.out Tryd.underlying29 rfl (info29 a16) ?_)
  | (go_at_call 10; refine (sameM_n HAz hA Z5 M5).mono ?_; rintro e w6 ⟨rfl, h6⟩; rw [ZS.out])
 have B6 := bt B5 h6
 have j6 := sh h6 j5
 have M6 : Hid (Ms w6 x X R) := hm.out.below B6.out
 go_upto_region 10 with first
  | (refine wpList_load_row (by rfl) 29 (.tmp 1) (by rfl) g1 (by rfl) 29 A (0, 0) _ j6.out Tryd.underlying29 rfl (info29 a16) ?_)
  | (go_at_call 11; refine (inFmM_n hA M6).mono ?_; rintro e w7 ⟨rfl, h7⟩; rw [HF.out])
 have B7 := bt B6 h7
 have j7 := sh h7 j6
 have b57 := bt h6 h7
 have SX7 : Hid (Sln w7 (some ⟨gx, 0, none⟩) Nx lx) := SX.out.below b57.out
 have E7 : Hid (Sent w7 M E) := hE.out.below B7.out
 have ZX : Hid ((some ⟨gx, 0, none⟩ : Option Addr) = none -> Nx = 0) := fun h => by cases h
 clear j5 k5 j6 M5 Z5 M6 SX h6 h7 b57 B5 B6 HF HZ
 go_upto_region 11 with first
  | (go_at_call 12; refine (getM_yes SX7 ZX (Nat.le_refl _) E7 hM0 hM1 hM3 OP RG).mono ?_; rintro e w8 ⟨Am, la, ln, lc, fa, fn, fc, Ym, rfl, H8⟩
     have HAm := show Hid (Am = (encM (y.mc la ln lc fa fn fc)).toArray) from H8.out.1
     have am16 : Am.size = 16 := encM_sz HAm.out)
  | (refine wpList_store_row (by rfl) 29 (.tmp 7) (.tmp 43) (by rfl) w8.heap.size Am (by rfl) (by rfl) 29 _ (heap_alloc_new w8 _) (info29 am16) am16.symm (encM_all HAm.out) ?_)
 obtain ⟨gd, Hgd⟩ := nm (w8.heap.size)
 obtain ⟨w9, Hw9⟩ := nm ((w8.alloc (.cells #[.int .i64 0,.int .i64 0,.int .i64 0,.int .i64 0,.int .i64 0,.int .i64 0,.int .i64 0,.int .i64 0,.int .i64 0,.int .i64 0,.slice none 0 0,.int .i64 0,.int .i64 0,.int .i64 0,.bool false,.slice none 0 0] 29)).setRow w8.heap.size Am)
 have b89 : Hid (Below w8.heap.size w8 w9) := by rw [<- Hw9.out]; exact below_setRow (alloc1 w8 _) (Nat.le_refl _) Am
 have k9 : Hid (w9.heap[gd]? = some (.cells Am 29 (0, 0))) := by rw [<- Hw9.out, <- Hgd.out]; exact setRow_heap _ _ _ _ _ _ (heap_alloc_new w8 _)
 have b79 : Hid (Below w7.heap.size w7 w9) := H8.out.2.2.2.2.2.trans (b89.out.mono H8.out.2.2.2.2.2.size)
 obtain ⟨xm, Hxm⟩ := nm (y.mc la ln lc fa fn fc)
 have MM : Hid (Ms w9 xm Ym R) := by
  rw [<- Hxm.out]
  have hO := H8.out.2.2.1
  have hF := H8.out.2.2.2.1
  refine ⟨(hO.below b89.out).cms.mono (Nat.zero_le _), (hF.below b89.out).sln (by have := hF.len; have := H8.out.2.2.2.2.1; omega), hO.cap0, hF.cap0, own_hnc hF, hF.lt⟩
 have SB1 : Hid (smB xm (led Ym) R x (led X) R = true) := by rw [<- Hxm.out]; exact back_same HX.out.1 HX.out.2 H8.out.2.1
 have HAm : Hid (Am = (encM xm).toArray) := by rw [<- Hxm.out]; exact HAm.out
 have B9 := bt B7 b79
 have KO0 : Hid (Cu w w9 g1 g1 gd A A Am gx Nx lx gx Nx lx x x xm X X Ym R R) :=
  ⟨(b79.out.block _ (gl j7.out)).trans j7.out, (b79.out.block _ (gl j7.out)).trans j7.out, k9.out, SX7.out.below b79.out, SX7.out.below b79.out, hm.out.below B9.out, hm.out.below B9.out, MM, B9.out⟩
 rw [Hw9.out, Hgd.out]
 obtain ⟨wd, Hwd⟩ := nm (w9.drew)
 have KO : Hid (Cu w wd g1 g1 gd A A Am gx Nx lx gx Nx lx x x xm X X Ym R R) := by
  rw [<- Hwd.out]
  exact KO0.out.below (below_drewN (Below.refl _ _) 1)
 clear KO0 H8 MM Hw9 Hgd k9 b89 b79 j7 SX7 E7 B7 B9 Hxm OP RG
 refine wp_region_seq (C := fun W => Cu w W g1 g1 gd A A Am gx Nx lx gx Nx lx x x xm X X Ym R R) [(0, false), (1, false), (2, false), (3, false), (4, false), (5, false), (6, false), (7, false), (8, false), (9, false), (10, true), (11, true), (12, false), (13, false), (14, false), (15, false), (16, false), (17, false), (18, false), (19, false), (20, false), (21, true), (22, false), (23, false)] (by kernel_rfl) (by kernel_rfl) (by rw [Hwd.out]; exact KO.out) ?_
 rw [Hwd.out]
 clear Hwd
 refine stk (o := ⟨some 45, .move (.tmp 4), 33, "law.go:41", #[], none⟩) (v := .nilIface) ?_
 simp only [pG,Act.put]
 refine stk (o := ⟨some 46, .binOp .eql 33 (.tmp 45) (.const .nilIface) 33, 4, "law.go:41", #[⟨0, .data⟩], none⟩) (v := .bool true) ?_
 simp only [pG,Act.put]
 refine stk (o := ⟨some 47, .move (.tmp 46), 4, "law.go:41", #[⟨1, .data⟩], none⟩) (v := .bool true) ?_
 simp only [pG,Act.put]
 refine stk (o := ⟨some 48, .move (.tmp 6), 33, "law.go:41", #[⟨2, .guard⟩], some (2, true)⟩) (v := .nilIface) ?_
 simp only [pG,Act.put]
 refine stk (o := ⟨some 49, .binOp .eql 33 (.tmp 48) (.const .nilIface) 33, 4, "law.go:41", #[⟨3, .data⟩, ⟨2, .guard⟩], some (2, true)⟩) (v := .bool true) ?_
 simp only [pG,Act.put]
 refine stk (o := ⟨some 50, .pick (.tmp 47) (.tmp 49) (.const (.bool false)), 4, "law.go:41", #[⟨2, .data⟩, ⟨4, .data⟩], none⟩) (v := .bool true) ?_
 simp only [pG,Act.put]
 refine stk (o := ⟨some 51, .move (.tmp 50), 4, "law.go:41", #[⟨5, .data⟩, ⟨2, .chain⟩], none⟩) (v := .bool true) ?_
 simp only [pG,Act.put]
 refine stk (o := ⟨some 52, .move (.tmp 5), 27, "law.go:41", #[⟨6, .guard⟩], some (6, true)⟩) (v := .slice (some ⟨gx, 0, none⟩) Nx Nx) ?_
 simp only [pG,Act.put]
 refine sty (o := ⟨some 53, .convert 27 9 (.tmp 52), 9, "law.go:41", #[⟨7, .data⟩, ⟨6, .guard⟩], some (6, true)⟩) (v := .string (spell lx)) (Or.inl ⟨by kernel_rfl, fun W hW => by have q0 : (convert 27 9 (.slice (some ⟨gx, 0, none⟩) Nx Nx)).run Tryd.prog W = .ok (.string (spell lx)) W := conv_n hW.sx; go_simp⟩) ?_
 simp only [pG,Act.put]
 refine sty (o := ⟨some 54, .load 29 (.tmp 1), 29, "law.go:41", #[⟨6, .guard⟩], some (6, true)⟩) (v := .agg A) (yl_row29 (by kernel_rfl) (by rfl) (by rfl) (fun W hW => Cu.h2 hW) a16) ?_
 simp only [pG,Act.put]
 refine seq_call (o := ⟨some 55, .call { callee := .value (.func 13), args := #[.tmp 54], argTypes := #[29] }, 27, "law.go:41", #[⟨9, .data⟩, ⟨6, .chain⟩, ⟨6, .guard⟩], some (6, true)⟩) (by kernel_rfl) (fun KK hK => ?_)
 rw [if_pos (by kernel_rfl)]
 go_simp
 go_wp2_with (go_at_call 13; refine (refputM_n hA KO.out.ma HX.out.1 NY HX.out.2 HYA HLN HFN).mono ?_; rintro e v2 ⟨b13, n13, c13, rfl, h2⟩)
 have K2 : Hid (Cu w v2 g1 g1 gd A A Am gx Nx lx gx Nx lx x x xm X X Ym R R) := KO.out.below h2.out.2
 have cvx : (convert 27 9 (.slice b13 n13 c13)).run Tryd.prog v2 = .ok (.string (spell lx)) v2 := by
  have hL := h2.out.1.len
  have hO := h2.out.1
  rw [Hlx.out] at hL hO
  exact conv_n (hidI (hO.sln (by have := NX.out; omega)))
 clear KO h2
 have KO := K2
 clear K2
 refine hK.out _ _ (KO.out) ?_
 clear hK KK
 try simp only [pG,Act.put]
 refine seq_call (o := ⟨some 56, .convert 27 9 (.tmp 55), 9, "law.go:41", #[⟨10, .data⟩, ⟨6, .guard⟩], some (6, true)⟩) (by kernel_rfl) (fun KK hK => ?_)
 rw [if_pos (by kernel_rfl)]
 go_simp
 refine hK.out _ _ (KO.out) ?_
 clear hK KK
 try simp only [pG,Act.put]
 refine sty (o := ⟨some 57, .binOp .eql 9 (.tmp 53) (.tmp 56) 9, 4, "law.go:41", #[⟨8, .data⟩, ⟨11, .data⟩, ⟨6, .guard⟩], some (6, true)⟩) (v := .bool true) (Or.inl ⟨by kernel_rfl, fun W hW => by have q0 := E8; go_simp⟩) ?_
 simp only [pG,Act.put]
 refine stk (o := ⟨some 58, .pick (.tmp 51) (.tmp 57) (.const (.bool false)), 4, "law.go:41", #[⟨6, .data⟩, ⟨12, .data⟩], none⟩) (v := .bool true) ?_
 simp only [pG,Act.put]
 refine stk (o := ⟨some 59, .move (.tmp 58), 4, "law.go:41", #[⟨13, .data⟩, ⟨10, .chain⟩], none⟩) (v := .bool true) ?_
 simp only [pG,Act.put]
 refine stk (o := ⟨some 60, .move (.tmp 8), 33, "law.go:41", #[⟨14, .guard⟩], some (14, true)⟩) (v := .nilIface) ?_
 simp only [pG,Act.put]
 refine stk (o := ⟨some 61, .binOp .eql 33 (.tmp 60) (.const .nilIface) 33, 4, "law.go:41", #[⟨15, .data⟩, ⟨14, .guard⟩], some (14, true)⟩) (v := .bool true) ?_
 simp only [pG,Act.put]
 refine stk (o := ⟨some 62, .pick (.tmp 59) (.tmp 61) (.const (.bool false)), 4, "law.go:41", #[⟨14, .data⟩, ⟨16, .data⟩], none⟩) (v := .bool true) ?_
 simp only [pG,Act.put]
 refine stk (o := ⟨some 63, .move (.tmp 62), 4, "law.go:41", #[⟨17, .data⟩, ⟨14, .chain⟩], none⟩) (v := .bool true) ?_
 simp only [pG,Act.put]
 refine sty (o := ⟨some 64, .load 29 (.tmp 7), 29, "law.go:41", #[⟨18, .guard⟩], some (18, true)⟩) (v := .agg Am) (yl_row29 (by kernel_rfl) (by rfl) (by rfl) (fun W hW => Cu.h9 hW) am16) ?_
 simp only [pG,Act.put]
 refine sty (o := ⟨some 65, .load 29 (.tmp 1), 29, "law.go:41", #[⟨18, .guard⟩], some (18, true)⟩) (v := .agg A) (yl_row29 (by kernel_rfl) (by rfl) (by rfl) (fun W hW => Cu.h2 hW) a16) ?_
 simp only [pG,Act.put]
 refine seq_call (o := ⟨some 66, .call { callee := .value (.func 10), args := #[.tmp 64, .tmp 65], argTypes := #[29, 29] }, 4, "law.go:41", #[⟨19, .data⟩, ⟨20, .data⟩, ⟨18, .chain⟩, ⟨18, .guard⟩], some (18, true)⟩) (by kernel_rfl) (fun KK hK => ?_)
 rw [if_pos (by kernel_rfl)]
 go_simp
 go_wp2_with (go_at_call 10; refine (sameM_n HAm hA KO.out.mm KO.out.ma).mono ?_; rintro e v3 ⟨rfl, h3⟩; rw [SB1.out])
 have K3 : Hid (Cu w v3 g1 g1 gd A A Am gx Nx lx gx Nx lx x x xm X X Ym R R) := KO.out.below h3.out
 clear KO h3
 have KO := K3
 clear K3
 refine hK.out _ _ (KO.out) ?_
 clear hK KK
 try simp only [pG,Act.put]
 refine stk (o := ⟨some 67, .pick (.tmp 63) (.tmp 66) (.const (.bool false)), 4, "law.go:41", #[⟨18, .data⟩, ⟨21, .data⟩], none⟩) (v := .bool true) ?_
 simp only [pG,Act.put]
 refine stk (o := ⟨some 2, .assign (.tmp 67), 4, "law.go:41", #[⟨22, .data⟩, ⟨21, .chain⟩, ⟨0, .phase⟩, ⟨1, .phase⟩, ⟨2, .phase⟩, ⟨3, .phase⟩, ⟨4, .phase⟩, ⟨5, .phase⟩, ⟨6, .phase⟩, ⟨7, .phase⟩, ⟨8, .phase⟩, ⟨9, .phase⟩, ⟨10, .phase⟩, ⟨11, .phase⟩, ⟨12, .phase⟩, ⟨13, .phase⟩, ⟨14, .phase⟩, ⟨15, .phase⟩, ⟨16, .phase⟩, ⟨17, .phase⟩, ⟨18, .phase⟩, ⟨19, .phase⟩, ⟨20, .phase⟩, ⟨21, .phase⟩, ⟨22, .phase⟩], none⟩) (v := .bool true) ?_
 simp only [pG,Act.put]
 show (Exit.then _ _) .normal _ _
 go_wp2
 go_ret
 exact ⟨rfl, KO.out.bel⟩
end Go.Proofs.YtppibcambhmomaaDoor
