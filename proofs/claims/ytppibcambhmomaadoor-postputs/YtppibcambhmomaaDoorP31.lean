import Derived.Test.YtppibcambhmomaaDoorPp
import Derived.Test.YtppibcambhmomaaDoorP12
import Derived.Test.YtppibcambhmomaaDoorP27
import Derived.Test.YtppibcambhmomaaDoorP30
namespace Go.Proofs.YtppibcambhmomaaDoor
set_option maxRecDepth 20000
set_option linter.unusedVariables false
set_option linter.unusedSimpArgs false
def mkC (h bu ke m et p ps t : List Nat) : Nm := ⟨h.getD 0 0, h.getD 1 0, h.getD 2 0, h.getD 3 0, spell bu, spell ke, m.getD 0 0, m.getD 1 0, m.getD 2 0, m.getD 3 0, m.getD 4 0, m.getD 5 0, m.getD 6 0, spell et, p.getD 0 0, ps, t.getD 0 0, t.getD 1 0⟩
def refC (l : List Nat) : Option (Nm × Nat) :=
 (rp l 1099511627776 4 0).bind fun h => (rt l h.2 63).bind fun bu => (rt l bu.2 200).bind fun ke => (rp l 1099511627776 7 ke.2).bind fun m => (rt l m.2 64).bind fun et => (rp l 1099511627776 2 et.2).bind fun p => if 16 < p.1.getD 1 0 then none else (rp l 1099511627776 (p.1.getD 1 0) p.2).bind fun ps => (rp l 1099511627776 2 ps.2).bind fun t => some (mkC h.1 bu.1 ke.1 m.1 et.1 p.1 ps.1 t.1, t.2)
def refG (l : List Nat) : Option Nm := (refC l).bind fun r => if frm r.1.cm = true /\ r.2 = l.length then some r.1 else none
theorem mapc_inj : ∀ {a b : List Nat}, a.map (fun y : Nat => (y : Int)) = b.map (fun y : Nat => (y : Int)) -> a = b
 | [], [], _ => rfl
 | [], _ :: _, h => by simp at h
 | _ :: _, [], h => by simp at h
 | x :: a, y :: b, h => by
   simp only [List.map_cons, List.cons.injEq] at h
   rw [mapc_inj h.2, show x = y by omega]
theorem cm_inj {x y : Nm} (h : x.cm = y.cm) : x = y := by
 obtain ⟨K, I0, I1, I2, bu, ke, U0, U1, U2, B0, B1, B2, SZ, et, PT, PS, TM, DY⟩ := x
 obtain ⟨K', I0', I1', I2', bu', ke', U0', U1', U2', B0', B1', B2', SZ', et', PT', PS', TM', DY'⟩ := y
 unfold Nm.cm at h
 simp only [Cm.mk.injEq] at h
 obtain ⟨h1, h2, h3, h4, h5, h6, h7, h8, h9, h10, h11, h12, h13, h14, h15, h16, h17, h18⟩ := h
 have e : PS = PS' := mapc_inj h16
 subst e h5 h6 h14
 simp only [Nm.mk.injEq, true_and]
 omega
end Go.Proofs.YtppibcambhmomaaDoor
namespace Go.Proofs.YtppibcambhmomaaDoor
open Go.ChangeShapes Go.WideShapes Go.ChangeAt Go.RowKit
set_option maxRecDepth 20000
set_option linter.unusedVariables false
set_option linter.unusedSimpArgs false
theorem fold18 {A : Array Value} {x : Cx} (h : A = (encX x).toArray) : Array.foldl (fun cs (x : Value × Nat) => cs.setIfInBounds x.snd x.fst) #[.int .i64 0,.int .i64 0,.int .i64 0,.int .i64 0,.string ⟨#[]⟩,.string ⟨#[]⟩,.int .i64 0,.int .i64 0,.int .i64 0,.int .i64 0,.int .i64 0,.int .i64 0,.int .i64 0,.string ⟨#[]⟩,.int .i64 0,.slice none 0 0,.int .i64 0,.int .i64 0] A.zipIdx 0 18 = A := by
 obtain ⟨⟨k, i0, i1, i2, bu, ke, u0, u1, u2, b0, b1, b2, sz, et, pt, ps, tm, dy⟩, pa, pn, pc⟩ := x
 subst h
 kernel_rfl
structure Bx (w W : World) (g : Nat) (A : Array Value) (x : Cx) : Prop where
 k : W.heap[g]? = some (.cells A 60 (0, 0))
 row : Irow W 0 x.pa x.pn x.cm.ps
def rl (l : List Nat) : Nat -> Nat -> Option (List Nm × Nat)
 | 0, p => some ([], p)
 | k + 1, p => (rt l p ((l.length - p : Nat) : Int)).bind fun b => (rdG b.1).bind fun y => (rl l k b.2).bind fun t => some (y :: t.1, t.2)
def rdL (l : List Nat) (p : Nat) : Option (List Nm × Nat) := (rn l p 4096).bind fun n => rl l n.1 n.2
theorem rl_there {l : List Nat} : ∀ (ys : List Nm) (t : List Nat) (p : Nat), l.drop p = ys.flatMap putL ++ t -> (∀ y ∈ ys, Nb y /\ frm y.cm = true) -> rl l ys.length p = some (ys, p + (ys.flatMap putL).length) /\ l.drop (p + (ys.flatMap putL).length) = t := by
 intro ys
 induction ys with
 | nil => intro t p h _; exact ⟨by simp [rl], by simpa using h⟩
 | cons y ys ih =>
   intro t p h hy
   have e : (y :: ys).flatMap putL = putL y ++ ys.flatMap putL := rfl
   rw [e, List.append_assoc] at h
   have hb := hy y (List.mem_cons_self ..)
   have hlen := congrArg List.length h
   simp only [List.length_drop, List.length_append, putL] at hlen
   have hbl := by_len hb.1
   obtain ⟨h1, h⟩ := rt_there (z := ((l.length - p : Nat) : Int)) (S := y.by) h (by omega) (by omega)
   obtain ⟨h2, h⟩ := ih t _ h (fun z hz => hy z (List.mem_cons_of_mem _ hz))
   have eL : (putL y).length = (enc y.by.length ++ y.by).length := rfl
   rw [e]
   refine ⟨?_, by rw [List.length_append, <- Nat.add_assoc, eL]; exact h⟩
   show rl l (ys.length + 1) p = _
   rw [rl, h1, Option.bind_some]
   simp only
   rw [rdG_there hb.1 hb.2, Option.bind_some, h2, Option.bind_some]
   simp only [List.length_append, putL, Nat.add_assoc]
theorem rdL_there {ys : List Nm} (hn : ys.length <= 4096) (hy : ∀ y ∈ ys, Nb y /\ frm y.cm = true) : rdL (wrL ys) 0 = some (ys, (wrL ys).length) := by
 have h0 : (wrL ys).drop 0 = enc ys.length ++ (ys.flatMap putL ++ []) := by simp [wrL]
 obtain ⟨h1, h0⟩ := rn_there (z := 4096) h0 (by omega) (by omega)
 obtain ⟨h2, h0⟩ := rl_there ys [] _ h0 hy
 unfold rdL
 rw [h1, Option.bind_some]
 simp only
 rw [h2]
 simp [wrL]
theorem rl_back {l : List Nat} (hl : ∀ x ∈ l, x < 256) : ∀ (k p q : Nat) (ys : List Nm), rl l k p = some (ys, q) -> l.drop p = ys.flatMap putL ++ l.drop q /\ q = p + (ys.flatMap putL).length /\ ys.length = k /\ (∀ y ∈ ys, Nb y /\ frm y.cm = true) := by
 intro k
 induction k with
 | zero => intro p q ys h; simp [rl] at h; obtain ⟨rfl, rfl⟩ := h; simp
 | succ k ih =>
   intro p q ys h
   rw [rl] at h
   simp only [Option.bind_eq_some_iff] at h
   obtain ⟨⟨b, p1⟩, h1, y, h2, ⟨t, p2⟩, h3, h4⟩ := h
   simp only [Option.some.injEq, Prod.mk.injEq] at h4
   obtain ⟨rfl, rfl⟩ := h4
   obtain ⟨a1, a2, a3⟩ := rt_back hl h1
   obtain ⟨b1, b2, b3⟩ := rdG_back (rt_lt hl h1) h2
   obtain ⟨c1, c2, c3, c4⟩ := ih _ _ _ h3
   simp only at *
   subst b1
   have e : (y :: t).flatMap putL = putL y ++ t.flatMap putL := rfl
   refine ⟨by rw [a1, c1, e]; simp only [putL, List.append_assoc], by rw [e, List.length_append, c2, a2]; simp only [putL]; omega, by simp [c3], fun z hz => ?_⟩
   rcases List.mem_cons.1 hz with rfl | hz
   . exact ⟨b3, b2⟩
   . exact c4 z hz
structure LdO (w w' : World) (g B : Nat) (a : Option Addr) (n c : Nat) (l : List Nat) (q : Nat) (ys : List Nm) (la : Option Addr) (ln lc : Nat) : Prop where
 rdr : Rdr w' g B a n c l q
 fr : Wfr w w' g none
 oc : ∃ Y, led Y = ys.map Nm.cm /\ Oc w' w.heap.size la ln lc Y
def LdR (w w' : World) (E : Nat -> Addr) (g B : Nat) (a : Option Addr) (n c : Nat) (l : List Nat) (p : Nat) (e : Ending) : Prop :=
 (rdL l p = none /\ e = .panicked [{ v := er (E 1), recovered := false }] /\ Wfr w w' g none) ∨ (∃ ys q la ln lc, rdL l p = some (ys, q) /\ e = .returned (.slice la ln lc) /\ LdO w w' g B a n c l q ys la ln lc)
noncomputable def opr53 : Array Oper := match Tryd.f87.body with
 | some c => match regIn 4 c with
   | some o => o
   | none => #[]
 | none => #[]
section
variable {w : World} {g B : Nat} {M : Nat -> Prop} {a : Option Addr} {n c : Nat} {l : List Nat} {p : Nat} {z : Int} {E : Nat -> Addr}
theorem rbytesR_yes {L : List Nat} {q : Nat} (hR : Hid (Rdr w g B a n c l p)) (hz2 : z <= 9223372036854775807) (hE : Hid (Sent w M E)) (hM : M 1) (hr : Hid (rt l p z = some (L, q))) :
  Calls Tryd.prog 76 #[.pointer (some ⟨g, 0, none⟩),.int .i64 z] w fun e w' => ∃ (a' : Option Addr) (m c' : Nat), e = .returned (.tuple #[.slice a' m c', .nilIface]) /\ Hid (Own w' w.heap.size a' m c' L /\ Rdr w' g B a n c l q /\ Wfr w w' g none) := by
 refine (rbytes_any hR hz2 hE hM).mono ?_
 rintro e w' ⟨a', m, c', v, h1, h2⟩
 have h := h2.out
 rw [rt_some hr.out] at h
 obtain ⟨h3, rfl, h4, h5⟩ := h
 exact ⟨a', m, c', h1, h3, h4, h5⟩
theorem rbytesR_no (hR : Hid (Rdr w g B a n c l p)) (hz2 : z <= 9223372036854775807) (hE : Hid (Sent w M E)) (hM : M 1) (hr : Hid (rt l p z = none)) :
  Calls Tryd.prog 76 #[.pointer (some ⟨g, 0, none⟩),.int .i64 z] w fun e w' => ∃ (a' : Option Addr) (m c' : Nat), e = .returned (.tuple #[.slice a' m c', er (E 1)]) /\ Hid (Wfr w w' g none) := by
 refine (rbytes_any hR hz2 hE hM).mono ?_
 rintro e w' ⟨a', m, c', v, h1, h2⟩
 rcases rt_cases l p z with ⟨L, q, h, _⟩ | ⟨_, L, q, h⟩
 . rw [hr.out] at h; cases h
 . have h3 := h2.out
   rw [h] at h3
   obtain ⟨_, rfl, _, h5⟩ := h3
   exact ⟨a', m, c', h1, h5⟩
end
structure Lk (w W : World) (g g1 B : Nat) (a : Option Addr) (n c : Nat) (l : List Nat) (p : Nat) : Prop where
 rdr : Rdr W g B a n c l p
 k1 : W.heap[g1]? = some (.cells #[.pointer (some ⟨g, 0, none⟩)] 131 (0, 0))
 ne : g < w.heap.size /\ g1 = w.heap.size
 ap : ∀ q, blkOf a = some q -> q < w.heap.size
 fr : Wfr w W g none
section
variable {w W W' : World} {g g1 B : Nat} {M : Nat -> Prop} {a : Option Addr} {n c : Nat} {l : List Nat} {p0 p q : Nat} {E : Nat -> Addr}
theorem Lk.sent (h : Lk w W g g1 B a n c l p) (hR : Rdr w g B a n c l p0) (hE : Sent w M E) : Sent W M E := sent_rdr hE hR h.rdr h.fr
theorem Lk.c1 (h : Lk w W g g1 B a n c l p) : W.cell? ⟨g1, 0, none⟩ = some (.pointer (some ⟨g, 0, none⟩)) := by simp [World.cell?, h.k1]
theorem Lk.lt1 (h : Lk w W g g1 B a n c l p) : g1 < W.heap.size := (gl h.k1)
theorem Lk.step (h : Lk w W g g1 B a n c l p) (hR : Rdr W' g B a n c l q) (hf : Wfr W W' g none) : Lk w W' g g1 B a n c l q := by
 have e := h.ne
 exact ⟨hR, box_wfr h.k1 (by omega) hf, h.ne, h.ap, h.fr.none_trans hf⟩
theorem Lk.below (h : Lk w W g g1 B a n c l p) (hb : Below (g1 + 1) W W') : Lk w W' g g1 B a n c l p := by
 have e := h.ne
 have hb' : ∀ k, k < g1 + 1 -> W'.heap[k]? = W.heap[k]? := fun k hk => hb.block k hk
 exact ⟨⟨(hb' g (by omega)).trans h.rdr.blk, h.rdr.own.block (fun k hk => hb' k (by have := h.ap k hk; omega)), h.rdr.ne, h.rdr.le, h.rdr.sz⟩, (hb' g1 (by omega)).trans h.k1, h.ne, h.ap, ⟨hb.os.trans h.fr.os, hb.tape.trans h.fr.tape, hb.output.trans h.fr.output, Nat.le_trans h.fr.size hb.size, fun k h1 h2 h3 => (hb' k (by omega)).trans (h.fr.block k h1 h2 h3)⟩⟩
theorem Oc.wfr {lo : Nat} {la : Option Addr} {ln lc : Nat} {Y : List Cx} (h : Oc W lo la ln lc Y) (hf : Wfr W W' g none) (hg : g < lo) : Oc W' lo la ln lc Y := h.keep (fun k h1 h2 => hf.block k h2 (by omega) (by simp [blkOf]))
end
theorem rl_more {l : List Nat} {k i q p q2 : Nat} {ys : List Nm} {b : List Nat} {y : Nm} (hk : i < k) (h : rl l k p = (rl l (k - i) q).bind fun t => some (ys ++ t.1, t.2)) (hb : rt l q ((l.length - q : Nat) : Int) = some (b, q2)) (hy : rdG b = some y) : rl l k p = (rl l (k - (i + 1)) q2).bind fun t => some ((ys ++ [y]) ++ t.1, t.2) := by
 rw [h, show k - i = (k - (i + 1)) + 1 by omega, rl, hb, Option.bind_some]
 simp only
 rw [hy, Option.bind_some]
 rcases opt_cases (rl l (k - (i + 1)) q2) with h | ⟨r, h⟩
 . simp [h]
 . simp [h]
theorem rl_none1 {l : List Nat} {k i q p : Nat} {ys : List Nm} (hk : i < k) (h : rl l k p = (rl l (k - i) q).bind fun t => some (ys ++ t.1, t.2)) (hb : rt l q ((l.length - q : Nat) : Int) = none) : rl l k p = none := by
 rw [h, show k - i = (k - (i + 1)) + 1 by omega, rl, hb]
 rfl
theorem rl_none2 {l : List Nat} {k i q p q2 : Nat} {ys : List Nm} {b : List Nat} (hk : i < k) (h : rl l k p = (rl l (k - i) q).bind fun t => some (ys ++ t.1, t.2)) (hb : rt l q ((l.length - q : Nat) : Int) = some (b, q2)) (hy : rdG b = none) : rl l k p = none := by
 rw [h, show k - i = (k - (i + 1)) + 1 by omega, rl, hb, Option.bind_some]
 simp only
 rw [hy]
 rfl
theorem rl_end {l : List Nat} {k q p : Nat} {ys : List Nm} (h : rl l k p = (rl l (k - k) q).bind fun t => some (ys ++ t.1, t.2)) : rl l k p = some (ys, q) := by
 rw [h, Nat.sub_self, rl]
 simp
theorem rdr_blen {W : World} {g B : Nat} {a : Option Addr} {n c : Nat} {l : List Nat} {p q q2 : Nat} {b : List Nat} {z : Int} (hR : Rdr W g B a n c l p) (h : rt l q z = some (b, q2)) : b.length <= n := by
 have h1 := rt_some h
 unfold rdB at h1
 split at h1
 . rename_i hc
   simp only [Prod.mk.injEq, true_and] at h1
   have h2 := hc.2.2
   rw [<- h1.1, hR.own.len, List.length_take]
   omega
 . simp at h1
theorem led_cm (Y : List Cx) : led Y = Y.map Cx.cm := rfl
set_option maxHeartbeats 4000000 in
theorem ledR_n {w : World} {g B : Nat} {M : Nat -> Prop} {a : Option Addr} {n c : Nat} {l : List Nat} {p : Nat} {E : Nat -> Addr} (hR : Hid (Rdr w g B a n c l p)) (hE : Hid (Sent w M E)) (hM : M 1) :
  Calls Tryd.prog 87 #[.agg #[.pointer (some ⟨g, 0, none⟩)]] w fun e w' => LdR w w' E g B a n c l p e := by
 obtain ⟨g1, Hg1⟩ := nm (w.heap.size)
 obtain ⟨w1, Hw1⟩ := nm (w.alloc (.cells #[.pointer (some ⟨g, 0, none⟩)] 131))
 have S1 : Hid (Lk w w1 g g1 B a n c l p) := by
  have b : Below w.heap.size w w1 := by rw [<- Hw1.out]; exact alloc1 w _
  exact ⟨hR.out.below b, by rw [<- Hw1.out, <- Hg1.out]; exact heap_alloc_new w _, ⟨hR.out.lt, Hg1.out.symm⟩, fun q hq => (hR.out.own.ge q hq).2, wfr_below g b⟩
 have NL : Hid (n = l.length) := hR.out.own.len
 have NZ : Hid (n <= 140737488352256) := hR.out.sz
 have x1 := S1.out.c1
 go_enter Tryd.func87, Tryd.ntmps87
 go_upto_region 2 with (fail)
 rw [Hw1.out, Hg1.out]
 clear Hw1
 rcases opt_cases (rn l p 4096) with e1 | ⟨⟨k, p1⟩, e1⟩
 . have ER : Hid (rn l p 4096 = none) := e1
   go_wp2_with (go_at_call 96; refine (numR_no (z := 4096) (show Hid (Rdr w1 g B a n c l p) from S1.out.rdr) (by omega) (show Hid (Sent w1 M E) from S1.out.sent hR.out hE.out) hM ER).mono ?_; rintro e wz ⟨rfl, H⟩)
   have F : Hid (Wfr w wz g none) := S1.out.fr.none_trans H.out
   have NN : rdL l p = none := by unfold rdL; rw [e1]; rfl
   first
    | exact bodyPost_panic rfl (.inl ⟨NN, rfl, F.out⟩)
    | exact .inl ⟨NN, rfl, F.out⟩
    | exact ⟨rfl, .inl ⟨NN, rfl, F.out⟩⟩
    | (simp [bodyPost]; exact .inl ⟨NN, rfl, F.out⟩)
 have ER : Hid (rn l p 4096 = some (k, p1)) := e1
 have RD : Hid (rdL l p = rl l k p1) := by
  show _ = _
  unfold rdL
  rw [e1, Option.bind_some]
 have K4 : Hid (k <= 4096) := by
  have h := rn_some e1
  unfold rdN at h
  split at h
  . rename_i hc
    simp only [Prod.mk.injEq, true_and] at h
    have := hc.2
    rw [h.1] at this
    show k <= 4096
    omega
  . simp at h
 clear e1
 have hk4 : (k : Int) <= 4096 := by have := K4.out; omega
 go_wp2_with (go_at_call 96; refine (numR_yes (z := 4096) (show Hid (Rdr w1 g B a n c l p) from S1.out.rdr) (by omega) (show Hid (Sent w1 M E) from S1.out.sent hR.out hE.out) hM ER).mono ?_; rintro e w2 ⟨rfl, H⟩)
 have S2 : Hid (Lk w w2 g g1 B a n c l p1) := S1.out.step H.out.1 H.out.2
 clear H x1 S1 ER
 go_loopw [3, 9] (fun t3 t9 wr => ∃ (i : Nat) (la : Option Addr) (lc q : Nat) (ys : List Nm), i <= k /\ t3 = .slice la i lc /\ t9 = .int .i64 (i : Int) /\ Hid (Lk w wr g g1 B a n c l q) /\ Hid (∃ Y, led Y = ys.map Nm.cm /\ Oc wr (g1 + 1) la i lc Y) /\ Hid (rl l k p1 = (rl l (k - i) q).bind fun t => some (ys ++ t.1, t.2))) (fun _ t9 _ => k - (intOf t9).toNat)
 case atStart => exact ⟨0, none, 0, p1, [], by omega, rfl, rfl, S2.out, (by show ∃ Y, _; exact ⟨[], rfl, ⟨⟨rfl, .inl ⟨rfl, rfl⟩⟩, by omega, (fun x hx => by cases hx), (fun x hx => by cases hx)⟩⟩), (by show _ = _; rw [Nat.sub_zero]; rcases opt_cases (rl l k p1) with h | ⟨r, h⟩ <;> simp [h])⟩
 case round =>
  obtain ⟨i, la, lc, q, ys, hi, rfl, rfl, S, HO, HP⟩ := hrel
  clear S2
  by_cases hlt : i < k
  . have i1 : (i : Int) < (k : Int) := by omega
    obtain ⟨z, Hz⟩ := nm (n - q)
    have zl : (z : Int) <= 9223372036854775807 := by have := Hz.out; have := NZ.out; omega
    go_upto_region 4 with (fail)
    obtain ⟨v1, Hv1⟩ := nm (wr.drew)
    have T1 : Hid (Lk w v1 g g1 B a n c l q) := by rw [<- Hv1.out]; exact S.out.below (below_drewN (Below.refl _ _) 1)
    have O1 : Hid (∃ Y, led Y = ys.map Nm.cm /\ Oc v1 (g1 + 1) la i lc Y) := by
     obtain ⟨Y, h1, h2⟩ := HO.out
     exact ⟨Y, h1, by rw [<- Hv1.out]; exact h2.below (below_drewN (Below.refl _ _) 1)⟩
    refine wp_region_seq (ops := opr53) (C := fun W => W.cell? ⟨g1, 0, none⟩ = some (.pointer (some ⟨g, 0, none⟩))) [(0, false), (1, false), (2, false), (3, false), (4, true), (5, true), (6, false), (7, false), (8, false), (9, false), (10, false)] (by kernel_rfl) (by kernel_rfl) (by rw [Hv1.out]; exact T1.out.c1) ?_
    rw [Hv1.out]
    clear Hv1 S HO
    refine stk (o := ⟨some 12, .fieldAddr 131 (.tmp 1) 0, 0, "reader.go:38", #[], none⟩) (v := .pointer (some ⟨g1, 0, none⟩)) ?_
    simp only [pG,Act.put]
    refine sty (o := ⟨some 13, .load 88 (.tmp 12), 88, "reader.go:38", #[⟨0, .data⟩], none⟩) (v := .pointer (some ⟨g, 0, none⟩)) (Or.inl ⟨by kernel_rfl, fun W hW => by have q0 := hW; go_simp⟩) ?_
    simp only [pG,Act.put]
    refine stk (o := ⟨some 14, .fieldAddr 131 (.tmp 1) 0, 0, "reader.go:38", #[], none⟩) (v := .pointer (some ⟨g1, 0, none⟩)) ?_
    simp only [pG,Act.put]
    refine sty (o := ⟨some 15, .load 88 (.tmp 14), 88, "reader.go:38", #[⟨2, .data⟩], none⟩) (v := .pointer (some ⟨g, 0, none⟩)) (Or.inl ⟨by kernel_rfl, fun W hW => by have q0 := hW; go_simp⟩) ?_
    simp only [pG,Act.put]
    refine seq_call (o := ⟨some 16, .call { callee := .value (.func 68), args := #[.tmp 15], argTypes := #[88] }, 3, "reader.go:38", #[⟨3, .data⟩], none⟩) (by kernel_rfl) (fun KK hK => ?_)
    rw [if_pos (by kernel_rfl)]
    go_simp
    have RT := show Hid (Rdr v1 g B a n c l q) from T1.out.rdr
    go_wp2_with (go_at_call 68; refine (lft_n RT).mono ?_; rintro e v2 ⟨rfl, h2⟩; rw [Hz.out])
    have b2 : Hid (Below v1.heap.size v1 v2) := by obtain ⟨j, hj⟩ := h2.out; rw [hj]; exact below_drewN (Below.refl _ _) j
    have T2 : Hid (Lk w v2 g g1 B a n c l q) := T1.out.below (b2.out.mono T1.out.lt1)
    have O2 : Hid (∃ Y, led Y = ys.map Nm.cm /\ Oc v2 (g1 + 1) la i lc Y) := by
     obtain ⟨Y, h1, h3⟩ := O1.out
     exact ⟨Y, h1, h3.below b2.out⟩
    refine hK.out _ _ (T2.out.c1) ?_
    clear hK KK
    try simp only [pG,Act.put]
    clear h2 b2 T1 O1 RT
    rcases opt_cases (rt l q ((l.length - q : Nat) : Int)) with er1 | ⟨⟨b, q2⟩, er1⟩
    . have ER : Hid (rt l q (z : Int) = none) := by rw [<- Hz.out, NL.out]; exact er1
      have NN0 : rdL l p = none := by rw [RD.out]; exact rl_none1 hlt HP.out er1
      have HNN := show Hid (rdL l p = none) from NN0
      clear NN0 er1
      refine seq_call (o := ⟨some 17, .call { callee := .value (.func 76), args := #[.tmp 13, .tmp 16], argTypes := #[88, 3] }, 35, "reader.go:38", #[⟨1, .data⟩, ⟨4, .data⟩, ⟨4, .chain⟩], none⟩) (by kernel_rfl) (fun KK hK => ?_)
      rw [if_pos (by kernel_rfl)]
      go_simp
      go_wp2_with (go_at_call 76; refine (rbytesR_no (z := (z : Int)) (show Hid (Rdr v2 g B a n c l q) from T2.out.rdr) zl (show Hid (Sent v2 M E) from T2.out.sent hR.out hE.out) hM ER).mono ?_; rintro e v3 ⟨ab, mb, cb, rfl, h3⟩)
      have F3 : Hid (Wfr w v3 g none) := T2.out.fr.none_trans h3.out
      have C3 : v3.cell? ⟨g1, 0, none⟩ = some (.pointer (some ⟨g, 0, none⟩)) := by
       have h := box_wfr T2.out.k1 (by have := T2.out.ne; omega) h3.out
       simp [World.cell?, h]
      refine hK.out _ _ (C3) ?_
      clear hK KK
      try simp only [pG,Act.put]
      clear h3 C3
      refine stk (o := ⟨some 11, .move (.tmp 17), 35, "reader.go:38", #[⟨5, .data⟩], none⟩) (v := .tuple #[.slice ab mb cb, er (E 1)]) ?_
      simp only [pG,Act.put]
      refine stk (o := ⟨some 18, .extract (.tmp 11) 0, 27, "reader.go:38", #[⟨6, .data⟩], none⟩) (v := .slice ab mb cb) ?_
      simp only [pG,Act.put]
      refine stk (o := ⟨some 19, .extract (.tmp 11) 1, 33, "reader.go:38", #[⟨6, .data⟩, { on := 9, ground := .gcOnly Go.Departure.lateStores }], none⟩) (v := er (E 1)) ?_
      simp only [pG,Act.put]
      refine stk (o := ⟨some 4, .assign (.tmp 18), 27, "reader.go:38", #[⟨7, .data⟩, ⟨5, .chain⟩, ⟨0, .phase⟩, ⟨1, .phase⟩, ⟨2, .phase⟩, ⟨3, .phase⟩, ⟨4, .phase⟩, ⟨5, .phase⟩, ⟨6, .phase⟩, ⟨7, .phase⟩, { on := 8, ground := .textOnly Go.Departure.lateStores }], none⟩) (v := .slice ab mb cb) ?_
      simp only [pG,Act.put]
      refine stk (o := ⟨some 5, .assign (.tmp 19), 33, "reader.go:38", #[⟨8, .data⟩, ⟨9, .chain⟩, ⟨0, .phase⟩, ⟨1, .phase⟩, ⟨2, .phase⟩, ⟨3, .phase⟩, ⟨4, .phase⟩, ⟨5, .phase⟩, ⟨6, .phase⟩, ⟨7, .phase⟩, ⟨8, .phase⟩, ⟨9, .phase⟩], none⟩) (v := er (E 1)) ?_
      simp only [pG,Act.put]
      show (Exit.inBlock 1 (Exit.then _ _)) .normal _ _
      go_wp2_with (go_at_call 95; refine (need_bad _ _).mono ?_; rintro e w0 ⟨rfl, h0⟩; rw [h0]; clear h0)
      first
       | exact bodyPost_panic rfl (.inl ⟨HNN.out, rfl, F3.out⟩)
       | exact .inl ⟨HNN.out, rfl, F3.out⟩
       | exact ⟨rfl, .inl ⟨HNN.out, rfl, F3.out⟩⟩
       | (simp [bodyPost]; exact .inl ⟨HNN.out, rfl, F3.out⟩)
    . have ER : Hid (rt l q (z : Int) = some (b, q2)) := by rw [<- Hz.out, NL.out]; exact er1
      have HE1 := show Hid (rt l q ((l.length - q : Nat) : Int) = some (b, q2)) from er1
      clear er1
      refine seq_call (o := ⟨some 17, .call { callee := .value (.func 76), args := #[.tmp 13, .tmp 16], argTypes := #[88, 3] }, 35, "reader.go:38", #[⟨1, .data⟩, ⟨4, .data⟩, ⟨4, .chain⟩], none⟩) (by kernel_rfl) (fun KK hK => ?_)
      rw [if_pos (by kernel_rfl)]
      go_simp
      go_wp2_with (go_at_call 76; refine (rbytesR_yes (z := (z : Int)) (show Hid (Rdr v2 g B a n c l q) from T2.out.rdr) zl (show Hid (Sent v2 M E) from T2.out.sent hR.out hE.out) hM ER).mono ?_; rintro e v3 ⟨ab, mb, cb, rfl, h3⟩)
      have T3 : Hid (Lk w v3 g g1 B a n c l q2) := T2.out.step h3.out.2.1 h3.out.2.2
      have BO : Hid (Own v3 v2.heap.size ab mb cb b) := h3.out.1
      have O3 : Hid (∃ Y, led Y = ys.map Nm.cm /\ Oc v3 (g1 + 1) la i lc Y) := by
       obtain ⟨Y, h1, h4⟩ := O2.out
       exact ⟨Y, h1, h4.wfr h3.out.2.2 (by have := T2.out.ne; omega)⟩
      refine hK.out _ _ (T3.out.c1) ?_
      clear hK KK
      try simp only [pG,Act.put]
      clear h3 T2 O2
      refine stk (o := ⟨some 11, .move (.tmp 17), 35, "reader.go:38", #[⟨5, .data⟩], none⟩) (v := .tuple #[.slice ab mb cb, .nilIface]) ?_
      simp only [pG,Act.put]
      refine stk (o := ⟨some 18, .extract (.tmp 11) 0, 27, "reader.go:38", #[⟨6, .data⟩], none⟩) (v := .slice ab mb cb) ?_
      simp only [pG,Act.put]
      refine stk (o := ⟨some 19, .extract (.tmp 11) 1, 33, "reader.go:38", #[⟨6, .data⟩, { on := 9, ground := .gcOnly Go.Departure.lateStores }], none⟩) (v := .nilIface) ?_
      simp only [pG,Act.put]
      refine stk (o := ⟨some 4, .assign (.tmp 18), 27, "reader.go:38", #[⟨7, .data⟩, ⟨5, .chain⟩, ⟨0, .phase⟩, ⟨1, .phase⟩, ⟨2, .phase⟩, ⟨3, .phase⟩, ⟨4, .phase⟩, ⟨5, .phase⟩, ⟨6, .phase⟩, ⟨7, .phase⟩, { on := 8, ground := .textOnly Go.Departure.lateStores }], none⟩) (v := .slice ab mb cb) ?_
      simp only [pG,Act.put]
      refine stk (o := ⟨some 5, .assign (.tmp 19), 33, "reader.go:38", #[⟨8, .data⟩, ⟨9, .chain⟩, ⟨0, .phase⟩, ⟨1, .phase⟩, ⟨2, .phase⟩, ⟨3, .phase⟩, ⟨4, .phase⟩, ⟨5, .phase⟩, ⟨6, .phase⟩, ⟨7, .phase⟩, ⟨8, .phase⟩, ⟨9, .phase⟩], none⟩) (v := .nilIface) ?_
      simp only [pG,Act.put]
      show (Exit.inBlock 1 (Exit.then _ _)) .normal _ _
      go_upto_region 6 with (go_at_call 95; refine (need_ok _).mono ?_; rintro e w0 ⟨rfl, h0⟩; rw [h0]; clear h0)
      have SB : Hid (Sln v3 ab mb b) := BO.out.sln (by have h1 := BO.out.len; have h2 := rdr_blen T3.out.rdr HE1.out; have := NZ.out; omega)
      have ZB : Hid (ab = none -> cb = 0) := BO.out.cap0
      have E3 : Hid (Sent v3 M E) := T3.out.sent hR.out hE.out
      rcases opt_cases (rdG b) with er2 | ⟨y, er2⟩
      . have EG : Hid (rdG b = none) := er2
        have NN0 : rdL l p = none := by rw [RD.out]; exact rl_none2 hlt HP.out HE1.out er2
        have HNN := show Hid (rdL l p = none) from NN0
        clear NN0 er2
        go_upto_region 7 with first
         | (go_at_call 97; refine (getx_no SB ZB E3 hM EG).mono ?_; rintro e v4 ⟨D, rfl, h4⟩
            have d18 : D.size = 18 := encX_sz h4.out.1
            have DD : Hid (D.all (·.oneCell') = true) := encX_all h4.out.1)
         | (refine wpList_store_row (by rfl) 60 (.tmp 6) (.tmp 25) (by rfl) v4.heap.size D (by rfl) (by rfl) 60 _ (heap_alloc_new v4 _) (info28 d18) d18.symm DD.out ?_)
        have F5 : Hid (Wfr w ((v4.alloc (.cells #[.int .i64 0,.int .i64 0,.int .i64 0,.int .i64 0,.string ⟨#[]⟩,.string ⟨#[]⟩,.int .i64 0,.int .i64 0,.int .i64 0,.int .i64 0,.int .i64 0,.int .i64 0,.int .i64 0,.string ⟨#[]⟩,.int .i64 0,.slice none 0 0,.int .i64 0,.int .i64 0] 60)).setRow v4.heap.size D) g none) := T3.out.fr.none_trans ((wfr_below g h4.out.2).none_trans (wfr_below g (below_setRow (alloc1 v4 _) (Nat.le_refl _) D)))
        obtain ⟨v5, Hv5⟩ := nm ((v4.alloc (.cells #[.int .i64 0,.int .i64 0,.int .i64 0,.int .i64 0,.string ⟨#[]⟩,.string ⟨#[]⟩,.int .i64 0,.int .i64 0,.int .i64 0,.int .i64 0,.int .i64 0,.int .i64 0,.int .i64 0,.string ⟨#[]⟩,.int .i64 0,.slice none 0 0,.int .i64 0,.int .i64 0] 60)).setRow v4.heap.size D)
        rw [Hv5.out] at F5 ⊢
        try simp only [Act.put]
        go_wp2_with (go_at_call 95; refine (need_bad _ _).mono ?_; rintro e w0 ⟨rfl, h0⟩; rw [h0]; clear h0)
        first
         | exact bodyPost_panic rfl (.inl ⟨HNN.out, rfl, F5.out⟩)
         | exact .inl ⟨HNN.out, rfl, F5.out⟩
         | exact ⟨rfl, .inl ⟨HNN.out, rfl, F5.out⟩⟩
         | (simp [bodyPost]; exact .inl ⟨HNN.out, rfl, F5.out⟩)
      . have EG : Hid (rdG b = some y) := er2
        have RN : Hid (rl l k p1 = (rl l (k - (i + 1)) q2).bind fun t => some ((ys ++ [y]) ++ t.1, t.2)) := rl_more hlt HP.out HE1.out er2
        have YB : Hid (Nb y) := (rdG_back BO.out.lt er2).2.2
        clear er2
        go_upto_region 8 with first
         | (go_at_call 97; refine (getx_yes SB ZB E3 hM EG).mono ?_; rintro e v4 ⟨D, rfl, h4⟩
            obtain ⟨d, hd1, hd2, hd3, hd4, hd5⟩ := h4.out
            have HD : Hid (D = (encX d).toArray) := hd1
            have HDC : Hid (d.cm = y.cm) := hd2
            have RD4 : Hid (v4.ownsRow v3.heap.size 3 1 (.slice d.pa d.pn d.pc) d.pn (d.cm.ps.map iv)) := hd3
            have PN4 : Hid (d.pn <= 16) := hd4
            have B4 : Hid (Below v3.heap.size v3 v4) := hd5
            have d18 : D.size = 18 := encX_sz hd1
            have DD : Hid (D.all (·.oneCell') = true) := encX_all hd1
            clear hd1 hd2 hd3 hd4 hd5 h4)
         | (refine wpList_store_row (by rfl) 60 (.tmp 6) (.tmp 25) (by rfl) v4.heap.size D (by rfl) (by rfl) 60 _ (heap_alloc_new v4 _) (info28 d18) d18.symm DD.out ?_)
         | (go_at_call 95; refine (need_ok _).mono ?_; rintro e w0 ⟨rfl, h0⟩; rw [h0]; clear h0)
        obtain ⟨g6, Hg6⟩ := nm (v4.heap.size)
        obtain ⟨v5, Hv5⟩ := nm ((v4.alloc (.cells #[.int .i64 0,.int .i64 0,.int .i64 0,.int .i64 0,.string ⟨#[]⟩,.string ⟨#[]⟩,.int .i64 0,.int .i64 0,.int .i64 0,.int .i64 0,.int .i64 0,.int .i64 0,.int .i64 0,.string ⟨#[]⟩,.int .i64 0,.slice none 0 0,.int .i64 0,.int .i64 0] 60)).setRow v4.heap.size D)
        rw [Hv5.out, Hg6.out]
        have b5 : Hid (Below v4.heap.size v4 v5) := by rw [<- Hv5.out]; exact below_setRow (alloc1 v4 _) (Nat.le_refl _) D
        have k6 : Hid (v5.heap[g6]? = some (.cells D 60 (0, 0))) := by rw [<- Hv5.out, <- Hg6.out]; exact setRow_heap _ _ _ _ _ _ (heap_alloc_new v4 _)
        try simp only [Act.put]
        clear Hv5 Hg6
        obtain ⟨g7, Hg7⟩ := nm (v5.heap.size)
        obtain ⟨v6, Hv6⟩ := nm (v5.alloc (.cells D 60))
        have b6 := al1 Hv6
        have k7 : Hid (v6.heap[g7]? = some (.cells (encX d).toArray 60 (0, 0))) := by rw [<- HD.out, <- Hv6.out, <- Hg7.out]; exact heap_alloc_new v5 _
        have B36 : Hid (Below v3.heap.size v3 v6) := (B4.out.trans (b5.out.mono B4.out.size)).trans (b6.out.mono (Nat.le_trans B4.out.size b5.out.size))
        have B46 := bt b5 b6
        have T6 : Hid (Lk w v6 g g1 B a n c l q2) := T3.out.below (B36.out.mono T3.out.lt1)
        have R6 : Hid (v6.ownsRow v3.heap.size 3 1 (.slice d.pa d.pn d.pc) d.pn (d.cm.ps.map iv)) := rown_bel RD4.out (fun x hx => B46.out.block x (RD4.out.lt x hx).2)
        obtain ⟨Y, hY, OY3⟩ := O3.out
        have OY : Hid (Oc v6 (g1 + 1) la i lc Y) := OY3.below B36.out
        have HYL : Hid (led Y = ys.map Nm.cm) := hY
        have G1 : Hid (g1 + 1 <= v3.heap.size) := T3.out.lt1
        clear OY3 hY O3
        obtain ⟨a8, c8, v8, AR0, OR0, GR0⟩ := app_cm (c := 1) (X := [d]) (a := some ⟨g7, 0, none⟩) (n := 1) OY.out.row rfl (.inr ⟨g7, 0, rfl, by have := range_blk k7.out; simpa [flat] using this⟩) (by simp) (by have := K4.out; omega) (by have := T6.out.lt1; omega)
        have AR : Hid ((Builtin.append_ #[26, 26] 26 #[.slice la i lc,.slice (some ⟨g7, 0, none⟩) 1 1]).run Tryd.prog v6 = .ok (.slice a8 (i + 1) c8) v8) := AR0
        have T8 : Hid (Lk w v8 g g1 B a n c l q2) := T6.out.below (grown_below GR0 (by have := T6.out.lt1; omega) (fun x hx => (OY.out.row.lt x hx).1))
        have O8 : Hid (∃ Y, led Y = (ys ++ [y]).map Nm.cm /\ Oc v8 (g1 + 1) a8 (i + 1) c8 Y) := by
         rw [ownBlock_slice] at GR0
         refine ⟨Y ++ [d], ?_, ⟨OR0, by have := K4.out; omega, fun z hz => ?_, fun z hz => ?_⟩⟩
         . rw [led_cm, List.map_append, <- led_cm, HYL.out, List.map_append]
           simp [HDC.out]
         . rcases List.mem_append.1 hz with h | h
           . exact OY.out.grown GR0 z h
           . obtain rfl := List.mem_singleton.1 h
             refine ⟨rown_mono (rown_bel R6.out (fun x e => GR0.block x (R6.out.lt x e).2 (fun e2 => ?_))) (by have := G1.out; omega), by have := PN4.out; omega⟩
             exact rown_ne R6.out OY.out.row (by decide) e (by rw [ownBlock_slice]; exact e2.symm)
         . rcases List.mem_append.1 hz with h | h
           . exact OY.out.st z h
           . obtain rfl := List.mem_singleton.1 h
             rw [HDC.out]
             have h := YB.out
             have h1 := h.bu
             have h2 := h.ke
             have h3 := h.et
             exact ⟨Nat.le_trans h1 (by omega), Nat.le_trans h2 (by omega), Nat.le_trans h3 (by omega)⟩
        have FD : Hid (Array.foldl (fun cs (x : Value × Nat) => cs.setIfInBounds x.snd x.fst) #[.int .i64 0,.int .i64 0,.int .i64 0,.int .i64 0,.string ⟨#[]⟩,.string ⟨#[]⟩,.int .i64 0,.int .i64 0,.int .i64 0,.int .i64 0,.int .i64 0,.int .i64 0,.int .i64 0,.string ⟨#[]⟩,.int .i64 0,.slice none 0 0,.int .i64 0,.int .i64 0] D.zipIdx 0 18 = D) := fold18 HD.out
        clear AR0 OR0 GR0 OY R6 T6 B36 B46 b5 b6 RD4 B4 T3 BO SB ZB E3
        go_wp2_with first
         | (refine wpList_load_row (by rfl) 60 (.tmp 6) (by rfl) g6 (by rfl) 60 D (0, 0) _ k6.out Tryd.underlying60 rfl (info28 d18) ?_)
         | (at_builtin; rw [FD.out, Hv6.out, Hg7.out]; refine wpList_appt (by rfl) (.tmp 29) (.tmp 31) (by rfl) (by rfl) (by rfl) (by rfl) AR ?_)
        go_roundw
        case rel => exact ⟨i + 1, a8, c8, q2, ys ++ [y], by omega, rfl, by go_num, T8.out, O8.out, RN.out⟩
        case measure => simp [intOf]; omega
  . obtain rfl : i = k := by omega
    have EN : Hid (rl l i p1 = some (ys, q)) := rl_end HP.out
    clear hlt
    go_wp2
    go_ret
    obtain ⟨Y, h1, h2⟩ := HO.out
    refine .inr ⟨ys, q, la, i, lc, by rw [RD.out]; exact EN.out, rfl, S.out.rdr, S.out.fr, Y, h1, h2.mono (by have := S.out.ne; omega)⟩
end Go.Proofs.YtppibcambhmomaaDoor
