import Derived.Test.YtppibcambhmomaaDoorPp
import Derived.Test.YtppibcambhmomaaDoorP12
import Derived.Test.YtppibcambhmomaaDoorP13
import Derived.Test.YtppibcambhmomaaDoorP14
namespace Go.Proofs.YtppibcambhmomaaDoor
open Go.ChangeShapes Go.WideShapes Go.ChangeAt Go.RowKit
set_option maxRecDepth 20000
set_option linter.unusedVariables false
set_option linter.unusedSimpArgs false
noncomputable def opr40 : Array Oper := match Tryd.f100.body with
 | some c => match regIn 13 c with
   | some o => o
   | none => #[]
 | none => #[]
theorem wp_appt {o : Oper} {a : Act} {K : Act -> World -> Prop} {Q : Exit -> Act -> World -> Prop} {w w' : World} {v v1 v2 : Value} {t : TypeId} (s x : Operand)
  (ho : o.op = .call { callee := .builtin .append, args := #[s, x], argTypes := #[t, t] }) (hty : o.type = t) (hs : a.eval s = v1) (hx : a.eval x = v2) (hrun : Hid ((Builtin.append_ #[t, t] t #[v1, v2]).run Tryd.prog w = .ok v w'))
  (h : K (a.put o.dst v) w') : o.wp Tryd.prog a w K Q := by
 have hr := hrun.out
 unfold Oper.wp
 simp [execOp, ho, resolve, invoke, builtin, hs, hx, hty, hr, Result.andThen]
 exact h
theorem one_int {W : World} {b : Nat} {v : Int} (h : W.heap[b]? = some (.cells #[.int .i64 v] 3 (0, 0))) : Irow W 0 (some ⟨b, 0, none⟩) 1 [v] := by
 refine ⟨rfl, by omega, .inr ⟨b, 0, rfl, Nat.zero_le _, (gl h), fun i hi => ?_⟩⟩
 obtain rfl : i = 0 := by omega
 simp [World.cell?, h]
theorem rp_more {l : List Nat} {z : Int} {k i q p X q2 : Nat} {PS : List Nat} (hk : i < k) (h : rp l z k p = (rp l z (k - i) q).bind fun t => some (PS ++ t.1, t.2)) (hn : rn l q z = some (X, q2)) : rp l z k p = (rp l z (k - (i + 1)) q2).bind fun t => some ((PS ++ [X]) ++ t.1, t.2) := by
 rw [h, show k - i = (k - (i + 1)) + 1 by omega, rp, hn]
 rcases opt_cases (rp l z (k - (i + 1)) q2) with h | ⟨r, h⟩
 . simp [h]
 . simp [h]
theorem rp_none {l : List Nat} {z : Int} {k i q p : Nat} {PS : List Nat} (hk : i < k) (h : rp l z k p = (rp l z (k - i) q).bind fun t => some (PS ++ t.1, t.2)) (hn : rn l q z = none) : rp l z k p = none := by
 rw [h, show k - i = (k - (i + 1)) + 1 by omega, rp, hn]
 rfl
theorem rp_end {l : List Nat} {z : Int} {k q p : Nat} {PS : List Nat} (h : rp l z k p = (rp l z (k - k) q).bind fun t => some (PS ++ t.1, t.2)) : rp l z k p = some (PS, q) := by
 rw [h, Nat.sub_self, rp]
 simp
set_option maxHeartbeats 8000000 in
theorem cmdR_n {w : World} {g B : Nat} {M : Nat -> Prop} {a : Option Addr} {n c : Nat} {l : List Nat} {p : Nat} {E : Nat -> Addr} (hR : Hid (Rdr w g B a n c l p)) (hE : Hid (Sent w M E)) (hM : M 1) :
  Calls Tryd.prog 100 #[.agg #[.pointer (some ⟨g, 0, none⟩)]] w fun e w' => CmR w w' E g B a n c l p e := by
 obtain ⟨g1, Hg1⟩ := nm (w.heap.size)
 obtain ⟨g2, Hg2⟩ := nm (w.heap.size + 1)
 obtain ⟨g3, Hg3⟩ := nm (w.heap.size + 1 + 1)
 obtain ⟨w1, Hw1⟩ := nm (((w.alloc (.cells #[.pointer (some ⟨g, 0, none⟩)] 131)).alloc (.cells #[.int .i64 0,.int .i64 0,.int .i64 0,.int .i64 0,.string ⟨#[]⟩,.string ⟨#[]⟩,.int .i64 0,.int .i64 0,.int .i64 0,.int .i64 0,.int .i64 0,.int .i64 0,.int .i64 0,.string ⟨#[]⟩,.int .i64 0,.slice none 0 0,.int .i64 0,.int .i64 0] 60)).alloc (.cells #[.int .i64 0,.int .i64 0,.int .i64 0,.int .i64 0,.string ⟨#[]⟩,.string ⟨#[]⟩,.int .i64 0,.int .i64 0,.int .i64 0,.int .i64 0,.int .i64 0,.int .i64 0,.int .i64 0,.string ⟨#[]⟩,.int .i64 0,.slice none 0 0,.int .i64 0,.int .i64 0] 60))
 have S1 : Hid (Rc w w1 g g1 g2 g3 B a n c l p #[.int .i64 0,.int .i64 0,.int .i64 0,.int .i64 0,.string ⟨#[]⟩,.string ⟨#[]⟩,.int .i64 0,.int .i64 0,.int .i64 0,.int .i64 0,.int .i64 0,.int .i64 0,.int .i64 0,.string ⟨#[]⟩,.int .i64 0,.slice none 0 0,.int .i64 0,.int .i64 0]) := rc_start hR.out Hg1.out Hg2.out Hg3.out Hw1.out
 go_enter Tryd.func100, Tryd.ntmps100
 go_upto_region 2 with (fail)
 rw [Hw1.out, Hg3.out, Hg2.out, Hg1.out]
 clear Hw1
 have S := S1
 clear S1
 rcases opt_cases (rn l p 11) with e1 | ⟨⟨K, p1⟩, e1⟩
 . have ER : Hid (rn l p 11 = none) := e1
   have x1 := S.out.c1
   go_wp2_with (go_at_call 96; refine (numR_no (z := 11) (show Hid (Rdr w1 g B a n c l p) from S.out.rdr) (by omega) (show Hid (Sent w1 M E) from S.out.sent hR.out hE.out) hM ER).mono ?_; rintro e wz ⟨rfl, H⟩)
   have F : Hid (Wfr w wz g none) := S.out.fr.none_trans H.out
   have N : rdK l p = none := by unfold rdK rdC; simp only [e1, Option.bind_some, Option.bind_none]
   first
    | exact bodyPost_panic rfl (.inl ⟨N, rfl, F.out⟩)
    | exact .inl ⟨N, rfl, F.out⟩
    | exact ⟨rfl, .inl ⟨N, rfl, F.out⟩⟩
    | (simp [bodyPost]; exact .inl ⟨N, rfl, F.out⟩)
 have ER : Hid (rn l p 11 = some (K, p1)) := e1
 have x1 := S.out.c1
 go_upto_region 3 with (go_at_call 96; refine (numR_yes (z := 11) (show Hid (Rdr w1 g B a n c l p) from S.out.rdr) (by omega) (show Hid (Sent w1 M E) from S.out.sent hR.out hE.out) hM ER).mono ?_; rintro e w1a ⟨rfl, H⟩; have T : Hid (Rc w w1a g g1 g2 g3 B a n c l p1 #[.int .i64 0,.int .i64 0,.int .i64 0,.int .i64 0,.string ⟨#[]⟩,.string ⟨#[]⟩,.int .i64 0,.int .i64 0,.int .i64 0,.int .i64 0,.int .i64 0,.int .i64 0,.int .i64 0,.string ⟨#[]⟩,.int .i64 0,.slice none 0 0,.int .i64 0,.int .i64 0]) := S.out.step H.out.1 H.out.2; have q0 := T.out.c3 0 _ rfl; have f0 := T.out.f3 0)
 obtain ⟨w1b, Hw⟩ := nm ((w1a.setCell ⟨g3, 0, none⟩ (.int .i64 (K : Int))))
 have S2 : Hid (Rc w w1b g g1 g2 g3 B a n c l p1 #[.int .i64 (K : Int),.int .i64 0,.int .i64 0,.int .i64 0,.string ⟨#[]⟩,.string ⟨#[]⟩,.int .i64 0,.int .i64 0,.int .i64 0,.int .i64 0,.int .i64 0,.int .i64 0,.int .i64 0,.string ⟨#[]⟩,.int .i64 0,.slice none 0 0,.int .i64 0,.int .i64 0]) := by rw [<- Hw.out]; exact (T.out.set 0 _)
 rw [Hw.out]
 clear Hw S T H ER x1 q0 f0
 have S := S2
 clear S2
 rcases opt_cases (ri l p1) with e2 | ⟨⟨⟨I0, I1, I2⟩, p2⟩, e2⟩
 . have ER : Hid (ri l p1 = none) := e2
   have x1 := S.out.c1
   go_wp2_with (go_at_call 102; refine (idR_no (show Hid (Rdr w1b g B a n c l p1) from S.out.rdr) (show Hid (Sent w1b M E) from S.out.sent hR.out hE.out) hM ER).mono ?_; rintro e wz ⟨rfl, H⟩)
   have F : Hid (Wfr w wz g none) := S.out.fr.none_trans H.out
   have N : rdK l p = none := by unfold rdK rdC; simp only [e1, e2, Option.bind_some, Option.bind_none]
   first
    | exact bodyPost_panic rfl (.inl ⟨N, rfl, F.out⟩)
    | exact .inl ⟨N, rfl, F.out⟩
    | exact ⟨rfl, .inl ⟨N, rfl, F.out⟩⟩
    | (simp [bodyPost]; exact .inl ⟨N, rfl, F.out⟩)
 have ER : Hid (ri l p1 = some ((I0, I1, I2), p2)) := e2
 have x1 := S.out.c1
 go_upto_region 4 with (go_at_call 102; refine (idR_yes (show Hid (Rdr w1b g B a n c l p1) from S.out.rdr) (show Hid (Sent w1b M E) from S.out.sent hR.out hE.out) hM ER).mono ?_; rintro e w2a ⟨rfl, H⟩; have T : Hid (Rc w w2a g g1 g2 g3 B a n c l p2 #[.int .i64 (K : Int),.int .i64 0,.int .i64 0,.int .i64 0,.string ⟨#[]⟩,.string ⟨#[]⟩,.int .i64 0,.int .i64 0,.int .i64 0,.int .i64 0,.int .i64 0,.int .i64 0,.int .i64 0,.string ⟨#[]⟩,.int .i64 0,.slice none 0 0,.int .i64 0,.int .i64 0]) := S.out.step H.out.1 H.out.2; have q1 := T.out.c3 1 _ rfl; have f1 := T.out.f3 1; have q2 := T.out.c3 2 _ rfl; have f2 := T.out.f3 2; have q3 := T.out.c3 3 _ rfl; have f3 := T.out.f3 3)
 obtain ⟨w2b, Hw⟩ := nm ((((w2a.setCell ⟨g3, 1, none⟩ (.int .i64 (I0 : Int))).setCell ⟨g3, 2, none⟩ (.int .i64 (I1 : Int))).setCell ⟨g3, 3, none⟩ (.int .i64 (I2 : Int))))
 have S2 : Hid (Rc w w2b g g1 g2 g3 B a n c l p2 #[.int .i64 (K : Int),.int .i64 (I0 : Int),.int .i64 (I1 : Int),.int .i64 (I2 : Int),.string ⟨#[]⟩,.string ⟨#[]⟩,.int .i64 0,.int .i64 0,.int .i64 0,.int .i64 0,.int .i64 0,.int .i64 0,.int .i64 0,.string ⟨#[]⟩,.int .i64 0,.slice none 0 0,.int .i64 0,.int .i64 0]) := by rw [<- Hw.out]; exact (((T.out.set 1 _).set 2 _).set 3 _)
 rw [Hw.out]
 clear Hw S T H ER x1 q1 f1 q2 f2 q3 f3
 have S := S2
 clear S2
 rcases opt_cases (rt l p2 63) with e3 | ⟨⟨bu, p3⟩, e3⟩
 . have ER : Hid (rt l p2 63 = none) := e3
   have x1 := S.out.c1
   go_wp2_with (go_at_call 103; refine (textR_no (z := 63) (show Hid (Rdr w2b g B a n c l p2) from S.out.rdr) (by omega) (show Hid (Sent w2b M E) from S.out.sent hR.out hE.out) hM ER).mono ?_; rintro e wz ⟨rfl, H⟩)
   have F : Hid (Wfr w wz g none) := S.out.fr.none_trans H.out
   have N : rdK l p = none := by unfold rdK rdC; simp only [e1, e2, e3, Option.bind_some, Option.bind_none]
   first
    | exact bodyPost_panic rfl (.inl ⟨N, rfl, F.out⟩)
    | exact .inl ⟨N, rfl, F.out⟩
    | exact ⟨rfl, .inl ⟨N, rfl, F.out⟩⟩
    | (simp [bodyPost]; exact .inl ⟨N, rfl, F.out⟩)
 have ER : Hid (rt l p2 63 = some (bu, p3)) := e3
 have x1 := S.out.c1
 go_upto_region 5 with (go_at_call 103; refine (textR_yes (z := 63) (show Hid (Rdr w2b g B a n c l p2) from S.out.rdr) (by omega) (show Hid (Sent w2b M E) from S.out.sent hR.out hE.out) hM ER).mono ?_; rintro e w3a ⟨rfl, H⟩; have T : Hid (Rc w w3a g g1 g2 g3 B a n c l p3 #[.int .i64 (K : Int),.int .i64 (I0 : Int),.int .i64 (I1 : Int),.int .i64 (I2 : Int),.string ⟨#[]⟩,.string ⟨#[]⟩,.int .i64 0,.int .i64 0,.int .i64 0,.int .i64 0,.int .i64 0,.int .i64 0,.int .i64 0,.string ⟨#[]⟩,.int .i64 0,.slice none 0 0,.int .i64 0,.int .i64 0]) := S.out.step H.out.1 H.out.2; have q4 := T.out.c3 4 _ rfl; have f4 := T.out.f3 4)
 obtain ⟨w3b, Hw⟩ := nm ((w3a.setCell ⟨g3, 4, none⟩ (.string (spell bu))))
 have S2 : Hid (Rc w w3b g g1 g2 g3 B a n c l p3 #[.int .i64 (K : Int),.int .i64 (I0 : Int),.int .i64 (I1 : Int),.int .i64 (I2 : Int),.string (spell bu),.string ⟨#[]⟩,.int .i64 0,.int .i64 0,.int .i64 0,.int .i64 0,.int .i64 0,.int .i64 0,.int .i64 0,.string ⟨#[]⟩,.int .i64 0,.slice none 0 0,.int .i64 0,.int .i64 0]) := by rw [<- Hw.out]; exact (T.out.set 4 _)
 rw [Hw.out]
 clear Hw S T H ER x1 q4 f4
 have S := S2
 clear S2
 rcases opt_cases (rt l p3 200) with e4 | ⟨⟨ke, p4⟩, e4⟩
 . have ER : Hid (rt l p3 200 = none) := e4
   have x1 := S.out.c1
   go_wp2_with (go_at_call 103; refine (textR_no (z := 200) (show Hid (Rdr w3b g B a n c l p3) from S.out.rdr) (by omega) (show Hid (Sent w3b M E) from S.out.sent hR.out hE.out) hM ER).mono ?_; rintro e wz ⟨rfl, H⟩)
   have F : Hid (Wfr w wz g none) := S.out.fr.none_trans H.out
   have N : rdK l p = none := by unfold rdK rdC; simp only [e1, e2, e3, e4, Option.bind_some, Option.bind_none]
   first
    | exact bodyPost_panic rfl (.inl ⟨N, rfl, F.out⟩)
    | exact .inl ⟨N, rfl, F.out⟩
    | exact ⟨rfl, .inl ⟨N, rfl, F.out⟩⟩
    | (simp [bodyPost]; exact .inl ⟨N, rfl, F.out⟩)
 have ER : Hid (rt l p3 200 = some (ke, p4)) := e4
 have x1 := S.out.c1
 go_upto_region 6 with (go_at_call 103; refine (textR_yes (z := 200) (show Hid (Rdr w3b g B a n c l p3) from S.out.rdr) (by omega) (show Hid (Sent w3b M E) from S.out.sent hR.out hE.out) hM ER).mono ?_; rintro e w4a ⟨rfl, H⟩; have T : Hid (Rc w w4a g g1 g2 g3 B a n c l p4 #[.int .i64 (K : Int),.int .i64 (I0 : Int),.int .i64 (I1 : Int),.int .i64 (I2 : Int),.string (spell bu),.string ⟨#[]⟩,.int .i64 0,.int .i64 0,.int .i64 0,.int .i64 0,.int .i64 0,.int .i64 0,.int .i64 0,.string ⟨#[]⟩,.int .i64 0,.slice none 0 0,.int .i64 0,.int .i64 0]) := S.out.step H.out.1 H.out.2; have q5 := T.out.c3 5 _ rfl; have f5 := T.out.f3 5)
 obtain ⟨w4b, Hw⟩ := nm ((w4a.setCell ⟨g3, 5, none⟩ (.string (spell ke))))
 have S2 : Hid (Rc w w4b g g1 g2 g3 B a n c l p4 #[.int .i64 (K : Int),.int .i64 (I0 : Int),.int .i64 (I1 : Int),.int .i64 (I2 : Int),.string (spell bu),.string (spell ke),.int .i64 0,.int .i64 0,.int .i64 0,.int .i64 0,.int .i64 0,.int .i64 0,.int .i64 0,.string ⟨#[]⟩,.int .i64 0,.slice none 0 0,.int .i64 0,.int .i64 0]) := by rw [<- Hw.out]; exact (T.out.set 5 _)
 rw [Hw.out]
 clear Hw S T H ER x1 q5 f5
 have S := S2
 clear S2
 rcases opt_cases (ri l p4) with e5 | ⟨⟨⟨U0, U1, U2⟩, p5⟩, e5⟩
 . have ER : Hid (ri l p4 = none) := e5
   have x1 := S.out.c1
   go_wp2_with (go_at_call 102; refine (idR_no (show Hid (Rdr w4b g B a n c l p4) from S.out.rdr) (show Hid (Sent w4b M E) from S.out.sent hR.out hE.out) hM ER).mono ?_; rintro e wz ⟨rfl, H⟩)
   have F : Hid (Wfr w wz g none) := S.out.fr.none_trans H.out
   have N : rdK l p = none := by unfold rdK rdC; simp only [e1, e2, e3, e4, e5, Option.bind_some, Option.bind_none]
   first
    | exact bodyPost_panic rfl (.inl ⟨N, rfl, F.out⟩)
    | exact .inl ⟨N, rfl, F.out⟩
    | exact ⟨rfl, .inl ⟨N, rfl, F.out⟩⟩
    | (simp [bodyPost]; exact .inl ⟨N, rfl, F.out⟩)
 have ER : Hid (ri l p4 = some ((U0, U1, U2), p5)) := e5
 have x1 := S.out.c1
 go_upto_region 7 with (go_at_call 102; refine (idR_yes (show Hid (Rdr w4b g B a n c l p4) from S.out.rdr) (show Hid (Sent w4b M E) from S.out.sent hR.out hE.out) hM ER).mono ?_; rintro e w5a ⟨rfl, H⟩; have T : Hid (Rc w w5a g g1 g2 g3 B a n c l p5 #[.int .i64 (K : Int),.int .i64 (I0 : Int),.int .i64 (I1 : Int),.int .i64 (I2 : Int),.string (spell bu),.string (spell ke),.int .i64 0,.int .i64 0,.int .i64 0,.int .i64 0,.int .i64 0,.int .i64 0,.int .i64 0,.string ⟨#[]⟩,.int .i64 0,.slice none 0 0,.int .i64 0,.int .i64 0]) := S.out.step H.out.1 H.out.2; have q6 := T.out.c3 6 _ rfl; have f6 := T.out.f3 6; have q7 := T.out.c3 7 _ rfl; have f7 := T.out.f3 7; have q8 := T.out.c3 8 _ rfl; have f8 := T.out.f3 8)
 obtain ⟨w5b, Hw⟩ := nm ((((w5a.setCell ⟨g3, 6, none⟩ (.int .i64 (U0 : Int))).setCell ⟨g3, 7, none⟩ (.int .i64 (U1 : Int))).setCell ⟨g3, 8, none⟩ (.int .i64 (U2 : Int))))
 have S2 : Hid (Rc w w5b g g1 g2 g3 B a n c l p5 #[.int .i64 (K : Int),.int .i64 (I0 : Int),.int .i64 (I1 : Int),.int .i64 (I2 : Int),.string (spell bu),.string (spell ke),.int .i64 (U0 : Int),.int .i64 (U1 : Int),.int .i64 (U2 : Int),.int .i64 0,.int .i64 0,.int .i64 0,.int .i64 0,.string ⟨#[]⟩,.int .i64 0,.slice none 0 0,.int .i64 0,.int .i64 0]) := by rw [<- Hw.out]; exact (((T.out.set 6 _).set 7 _).set 8 _)
 rw [Hw.out]
 clear Hw S T H ER x1 q6 f6 q7 f7 q8 f8
 have S := S2
 clear S2
 rcases opt_cases (ri l p5) with e6 | ⟨⟨⟨B0, B1, B2⟩, p6⟩, e6⟩
 . have ER : Hid (ri l p5 = none) := e6
   have x1 := S.out.c1
   go_wp2_with (go_at_call 102; refine (idR_no (show Hid (Rdr w5b g B a n c l p5) from S.out.rdr) (show Hid (Sent w5b M E) from S.out.sent hR.out hE.out) hM ER).mono ?_; rintro e wz ⟨rfl, H⟩)
   have F : Hid (Wfr w wz g none) := S.out.fr.none_trans H.out
   have N : rdK l p = none := by unfold rdK rdC; simp only [e1, e2, e3, e4, e5, e6, Option.bind_some, Option.bind_none]
   first
    | exact bodyPost_panic rfl (.inl ⟨N, rfl, F.out⟩)
    | exact .inl ⟨N, rfl, F.out⟩
    | exact ⟨rfl, .inl ⟨N, rfl, F.out⟩⟩
    | (simp [bodyPost]; exact .inl ⟨N, rfl, F.out⟩)
 have ER : Hid (ri l p5 = some ((B0, B1, B2), p6)) := e6
 have x1 := S.out.c1
 go_upto_region 8 with (go_at_call 102; refine (idR_yes (show Hid (Rdr w5b g B a n c l p5) from S.out.rdr) (show Hid (Sent w5b M E) from S.out.sent hR.out hE.out) hM ER).mono ?_; rintro e w6a ⟨rfl, H⟩; have T : Hid (Rc w w6a g g1 g2 g3 B a n c l p6 #[.int .i64 (K : Int),.int .i64 (I0 : Int),.int .i64 (I1 : Int),.int .i64 (I2 : Int),.string (spell bu),.string (spell ke),.int .i64 (U0 : Int),.int .i64 (U1 : Int),.int .i64 (U2 : Int),.int .i64 0,.int .i64 0,.int .i64 0,.int .i64 0,.string ⟨#[]⟩,.int .i64 0,.slice none 0 0,.int .i64 0,.int .i64 0]) := S.out.step H.out.1 H.out.2; have q9 := T.out.c3 9 _ rfl; have f9 := T.out.f3 9; have q10 := T.out.c3 10 _ rfl; have f10 := T.out.f3 10; have q11 := T.out.c3 11 _ rfl; have f11 := T.out.f3 11)
 obtain ⟨w6b, Hw⟩ := nm ((((w6a.setCell ⟨g3, 9, none⟩ (.int .i64 (B0 : Int))).setCell ⟨g3, 10, none⟩ (.int .i64 (B1 : Int))).setCell ⟨g3, 11, none⟩ (.int .i64 (B2 : Int))))
 have S2 : Hid (Rc w w6b g g1 g2 g3 B a n c l p6 #[.int .i64 (K : Int),.int .i64 (I0 : Int),.int .i64 (I1 : Int),.int .i64 (I2 : Int),.string (spell bu),.string (spell ke),.int .i64 (U0 : Int),.int .i64 (U1 : Int),.int .i64 (U2 : Int),.int .i64 (B0 : Int),.int .i64 (B1 : Int),.int .i64 (B2 : Int),.int .i64 0,.string ⟨#[]⟩,.int .i64 0,.slice none 0 0,.int .i64 0,.int .i64 0]) := by rw [<- Hw.out]; exact (((T.out.set 9 _).set 10 _).set 11 _)
 rw [Hw.out]
 clear Hw S T H ER x1 q9 f9 q10 f10 q11 f11
 have S := S2
 clear S2
 rcases opt_cases (rn l p6 1024) with e7 | ⟨⟨SZ, p7⟩, e7⟩
 . have ER : Hid (rn l p6 1024 = none) := e7
   have x1 := S.out.c1
   go_wp2_with (go_at_call 96; refine (numR_no (z := 1024) (show Hid (Rdr w6b g B a n c l p6) from S.out.rdr) (by omega) (show Hid (Sent w6b M E) from S.out.sent hR.out hE.out) hM ER).mono ?_; rintro e wz ⟨rfl, H⟩)
   have F : Hid (Wfr w wz g none) := S.out.fr.none_trans H.out
   have N : rdK l p = none := by unfold rdK rdC; simp only [e1, e2, e3, e4, e5, e6, e7, Option.bind_some, Option.bind_none]
   first
    | exact bodyPost_panic rfl (.inl ⟨N, rfl, F.out⟩)
    | exact .inl ⟨N, rfl, F.out⟩
    | exact ⟨rfl, .inl ⟨N, rfl, F.out⟩⟩
    | (simp [bodyPost]; exact .inl ⟨N, rfl, F.out⟩)
 have ER : Hid (rn l p6 1024 = some (SZ, p7)) := e7
 have x1 := S.out.c1
 go_upto_region 9 with (go_at_call 96; refine (numR_yes (z := 1024) (show Hid (Rdr w6b g B a n c l p6) from S.out.rdr) (by omega) (show Hid (Sent w6b M E) from S.out.sent hR.out hE.out) hM ER).mono ?_; rintro e w7a ⟨rfl, H⟩; have T : Hid (Rc w w7a g g1 g2 g3 B a n c l p7 #[.int .i64 (K : Int),.int .i64 (I0 : Int),.int .i64 (I1 : Int),.int .i64 (I2 : Int),.string (spell bu),.string (spell ke),.int .i64 (U0 : Int),.int .i64 (U1 : Int),.int .i64 (U2 : Int),.int .i64 (B0 : Int),.int .i64 (B1 : Int),.int .i64 (B2 : Int),.int .i64 0,.string ⟨#[]⟩,.int .i64 0,.slice none 0 0,.int .i64 0,.int .i64 0]) := S.out.step H.out.1 H.out.2; have q12 := T.out.c3 12 _ rfl; have f12 := T.out.f3 12)
 obtain ⟨w7b, Hw⟩ := nm ((w7a.setCell ⟨g3, 12, none⟩ (.int .i64 (SZ : Int))))
 have S2 : Hid (Rc w w7b g g1 g2 g3 B a n c l p7 #[.int .i64 (K : Int),.int .i64 (I0 : Int),.int .i64 (I1 : Int),.int .i64 (I2 : Int),.string (spell bu),.string (spell ke),.int .i64 (U0 : Int),.int .i64 (U1 : Int),.int .i64 (U2 : Int),.int .i64 (B0 : Int),.int .i64 (B1 : Int),.int .i64 (B2 : Int),.int .i64 (SZ : Int),.string ⟨#[]⟩,.int .i64 0,.slice none 0 0,.int .i64 0,.int .i64 0]) := by rw [<- Hw.out]; exact (T.out.set 12 _)
 rw [Hw.out]
 clear Hw S T H ER x1 q12 f12
 have S := S2
 clear S2
 rcases opt_cases (rt l p7 64) with e8 | ⟨⟨et, p8⟩, e8⟩
 . have ER : Hid (rt l p7 64 = none) := e8
   have x1 := S.out.c1
   go_wp2_with (go_at_call 103; refine (textR_no (z := 64) (show Hid (Rdr w7b g B a n c l p7) from S.out.rdr) (by omega) (show Hid (Sent w7b M E) from S.out.sent hR.out hE.out) hM ER).mono ?_; rintro e wz ⟨rfl, H⟩)
   have F : Hid (Wfr w wz g none) := S.out.fr.none_trans H.out
   have N : rdK l p = none := by unfold rdK rdC; simp only [e1, e2, e3, e4, e5, e6, e7, e8, Option.bind_some, Option.bind_none]
   first
    | exact bodyPost_panic rfl (.inl ⟨N, rfl, F.out⟩)
    | exact .inl ⟨N, rfl, F.out⟩
    | exact ⟨rfl, .inl ⟨N, rfl, F.out⟩⟩
    | (simp [bodyPost]; exact .inl ⟨N, rfl, F.out⟩)
 have ER : Hid (rt l p7 64 = some (et, p8)) := e8
 have x1 := S.out.c1
 go_upto_region 10 with (go_at_call 103; refine (textR_yes (z := 64) (show Hid (Rdr w7b g B a n c l p7) from S.out.rdr) (by omega) (show Hid (Sent w7b M E) from S.out.sent hR.out hE.out) hM ER).mono ?_; rintro e w8a ⟨rfl, H⟩; have T : Hid (Rc w w8a g g1 g2 g3 B a n c l p8 #[.int .i64 (K : Int),.int .i64 (I0 : Int),.int .i64 (I1 : Int),.int .i64 (I2 : Int),.string (spell bu),.string (spell ke),.int .i64 (U0 : Int),.int .i64 (U1 : Int),.int .i64 (U2 : Int),.int .i64 (B0 : Int),.int .i64 (B1 : Int),.int .i64 (B2 : Int),.int .i64 (SZ : Int),.string ⟨#[]⟩,.int .i64 0,.slice none 0 0,.int .i64 0,.int .i64 0]) := S.out.step H.out.1 H.out.2; have q13 := T.out.c3 13 _ rfl; have f13 := T.out.f3 13)
 obtain ⟨w8b, Hw⟩ := nm ((w8a.setCell ⟨g3, 13, none⟩ (.string (spell et))))
 have S2 : Hid (Rc w w8b g g1 g2 g3 B a n c l p8 #[.int .i64 (K : Int),.int .i64 (I0 : Int),.int .i64 (I1 : Int),.int .i64 (I2 : Int),.string (spell bu),.string (spell ke),.int .i64 (U0 : Int),.int .i64 (U1 : Int),.int .i64 (U2 : Int),.int .i64 (B0 : Int),.int .i64 (B1 : Int),.int .i64 (B2 : Int),.int .i64 (SZ : Int),.string (spell et),.int .i64 0,.slice none 0 0,.int .i64 0,.int .i64 0]) := by rw [<- Hw.out]; exact (T.out.set 13 _)
 rw [Hw.out]
 clear Hw S T H ER x1 q13 f13
 have S := S2
 clear S2
 rcases opt_cases (rn l p8 16) with e9 | ⟨⟨PT, p9⟩, e9⟩
 . have ER : Hid (rn l p8 16 = none) := e9
   have x1 := S.out.c1
   go_wp2_with (go_at_call 96; refine (numR_no (z := 16) (show Hid (Rdr w8b g B a n c l p8) from S.out.rdr) (by omega) (show Hid (Sent w8b M E) from S.out.sent hR.out hE.out) hM ER).mono ?_; rintro e wz ⟨rfl, H⟩)
   have F : Hid (Wfr w wz g none) := S.out.fr.none_trans H.out
   have N : rdK l p = none := by unfold rdK rdC; simp only [e1, e2, e3, e4, e5, e6, e7, e8, e9, Option.bind_some, Option.bind_none]
   first
    | exact bodyPost_panic rfl (.inl ⟨N, rfl, F.out⟩)
    | exact .inl ⟨N, rfl, F.out⟩
    | exact ⟨rfl, .inl ⟨N, rfl, F.out⟩⟩
    | (simp [bodyPost]; exact .inl ⟨N, rfl, F.out⟩)
 have ER : Hid (rn l p8 16 = some (PT, p9)) := e9
 have x1 := S.out.c1
 go_upto_region 11 with (go_at_call 96; refine (numR_yes (z := 16) (show Hid (Rdr w8b g B a n c l p8) from S.out.rdr) (by omega) (show Hid (Sent w8b M E) from S.out.sent hR.out hE.out) hM ER).mono ?_; rintro e w9a ⟨rfl, H⟩; have T : Hid (Rc w w9a g g1 g2 g3 B a n c l p9 #[.int .i64 (K : Int),.int .i64 (I0 : Int),.int .i64 (I1 : Int),.int .i64 (I2 : Int),.string (spell bu),.string (spell ke),.int .i64 (U0 : Int),.int .i64 (U1 : Int),.int .i64 (U2 : Int),.int .i64 (B0 : Int),.int .i64 (B1 : Int),.int .i64 (B2 : Int),.int .i64 (SZ : Int),.string (spell et),.int .i64 0,.slice none 0 0,.int .i64 0,.int .i64 0]) := S.out.step H.out.1 H.out.2; have q14 := T.out.c3 14 _ rfl; have f14 := T.out.f3 14)
 obtain ⟨w9b, Hw⟩ := nm ((w9a.setCell ⟨g3, 14, none⟩ (.int .i64 (PT : Int))))
 have S2 : Hid (Rc w w9b g g1 g2 g3 B a n c l p9 #[.int .i64 (K : Int),.int .i64 (I0 : Int),.int .i64 (I1 : Int),.int .i64 (I2 : Int),.string (spell bu),.string (spell ke),.int .i64 (U0 : Int),.int .i64 (U1 : Int),.int .i64 (U2 : Int),.int .i64 (B0 : Int),.int .i64 (B1 : Int),.int .i64 (B2 : Int),.int .i64 (SZ : Int),.string (spell et),.int .i64 (PT : Int),.slice none 0 0,.int .i64 0,.int .i64 0]) := by rw [<- Hw.out]; exact (T.out.set 14 _)
 rw [Hw.out]
 clear Hw S T H ER x1 q14 f14
 have S := S2
 clear S2
 rcases opt_cases (rn l p9 16) with e10 | ⟨⟨k, p10⟩, e10⟩
 . have ER : Hid (rn l p9 16 = none) := e10
   have x1 := S.out.c1
   go_wp2_with (go_at_call 96; refine (numR_no (z := 16) (show Hid (Rdr w9b g B a n c l p9) from S.out.rdr) (by omega) (show Hid (Sent w9b M E) from S.out.sent hR.out hE.out) hM ER).mono ?_; rintro e wz ⟨rfl, H⟩)
   have F : Hid (Wfr w wz g none) := S.out.fr.none_trans H.out
   have N : rdK l p = none := by unfold rdK rdC; simp only [e1, e2, e3, e4, e5, e6, e7, e8, e9, e10, Option.bind_some, Option.bind_none]
   first
    | exact bodyPost_panic rfl (.inl ⟨N, rfl, F.out⟩)
    | exact .inl ⟨N, rfl, F.out⟩
    | exact ⟨rfl, .inl ⟨N, rfl, F.out⟩⟩
    | (simp [bodyPost]; exact .inl ⟨N, rfl, F.out⟩)
 have ER : Hid (rn l p9 16 = some (k, p10)) := e10
 have x1 := S.out.c1
 go_upto_region 12 with (go_at_call 96; refine (numR_yes (z := 16) (show Hid (Rdr w9b g B a n c l p9) from S.out.rdr) (by omega) (show Hid (Sent w9b M E) from S.out.sent hR.out hE.out) hM ER).mono ?_; rintro e w10a ⟨rfl, H⟩; have T : Hid (Rc w w10a g g1 g2 g3 B a n c l p10 #[.int .i64 (K : Int),.int .i64 (I0 : Int),.int .i64 (I1 : Int),.int .i64 (I2 : Int),.string (spell bu),.string (spell ke),.int .i64 (U0 : Int),.int .i64 (U1 : Int),.int .i64 (U2 : Int),.int .i64 (B0 : Int),.int .i64 (B1 : Int),.int .i64 (B2 : Int),.int .i64 (SZ : Int),.string (spell et),.int .i64 (PT : Int),.slice none 0 0,.int .i64 0,.int .i64 0]) := S.out.step H.out.1 H.out.2)
 clear S H ER x1
 have S := T
 clear T
 have hk16 : Hid (k <= 16) := by
  have h := rn_some e10
  unfold rdN at h
  split at h
  . rename_i hc
    simp only [Prod.mk.injEq, true_and] at h
    have := hc.2
    rw [h.1] at this
    show k <= 16
    omega
  . simp at h
 have hk : (k : Int) <= 16 := by have := hk16.out; omega
 go_wp2
 go_loopw [36] (fun ti wr => ∃ (i : Nat) (pa : Option Addr) (pc q : Nat) (PS : List Nat), i <= k /\ ti = .int .i64 (i : Int) /\ Hid (Rc w wr g g1 g2 g3 B a n c l q #[.int .i64 (K : Int),.int .i64 (I0 : Int),.int .i64 (I1 : Int),.int .i64 (I2 : Int),.string (spell bu),.string (spell ke),.int .i64 (U0 : Int),.int .i64 (U1 : Int),.int .i64 (U2 : Int),.int .i64 (B0 : Int),.int .i64 (B1 : Int),.int .i64 (B2 : Int),.int .i64 (SZ : Int),.string (spell et),.int .i64 (PT : Int),.slice pa i pc,.int .i64 0,.int .i64 0]) /\ Hid (wr.ownsRow (g3 + 1) 3 1 (.slice pa i pc) i ((PS.map fun x : Nat => (x : Int)).map iv)) /\ Hid (rp l 16 k p10 = (rp l 16 (k - i) q).bind fun t => some (PS ++ t.1, t.2))) (fun ti _ => k - (intOf ti).toNat)
 case atStart => exact ⟨0, none, 0, p10, [], by omega, rfl, S.out, ⟨rfl, .inl ⟨rfl, rfl⟩⟩, (by show _ = _; rw [Nat.sub_zero]; rcases opt_cases (rp l 16 k p10) with h | ⟨r, h⟩ <;> simp [h])⟩
 case round =>
  obtain ⟨i, pa, pc, q, PS, hi, rfl, HS, HO, HP⟩ := hrel
  clear S
  have S : Hid (Rc w wr g g1 g2 g3 B a n c l q #[.int .i64 (K : Int),.int .i64 (I0 : Int),.int .i64 (I1 : Int),.int .i64 (I2 : Int),.string (spell bu),.string (spell ke),.int .i64 (U0 : Int),.int .i64 (U1 : Int),.int .i64 (U2 : Int),.int .i64 (B0 : Int),.int .i64 (B1 : Int),.int .i64 (B2 : Int),.int .i64 (SZ : Int),.string (spell et),.int .i64 (PT : Int),.slice pa i pc,.int .i64 0,.int .i64 0]) := HS
  clear HS
  by_cases hlt : i < k
  . have i1 : (i : Int) < (k : Int) := by omega
    rcases opt_cases (rn l q 16) with er1 | ⟨⟨X, q2⟩, er1⟩
    . have ER : Hid (rn l q 16 = none) := er1
      have RN : Hid (rp l 16 k p10 = none) := rp_none hlt HP.out er1
      go_upto_region 13 with (fail)
      obtain ⟨v1, Hv1⟩ := nm (wr.drew)
      have T1 : Hid (Rc w v1 g g1 g2 g3 B a n c l q #[.int .i64 (K : Int),.int .i64 (I0 : Int),.int .i64 (I1 : Int),.int .i64 (I2 : Int),.string (spell bu),.string (spell ke),.int .i64 (U0 : Int),.int .i64 (U1 : Int),.int .i64 (U2 : Int),.int .i64 (B0 : Int),.int .i64 (B1 : Int),.int .i64 (B2 : Int),.int .i64 (SZ : Int),.string (spell et),.int .i64 (PT : Int),.slice pa i pc,.int .i64 0,.int .i64 0]) := by rw [<- Hv1.out]; exact S.out.drew
      have O1 : Hid (v1.ownsRow (g3 + 1) 3 1 (.slice pa i pc) i ((PS.map fun x : Nat => (x : Int)).map iv)) := by rw [<- Hv1.out]; exact rown_bel HO.out (fun q _ => rfl)
      refine wp_region_seqL (ops := opr40) (C := fun W => W.cell? ⟨g1, 0, none⟩ = some (.pointer (some ⟨g, 0, none⟩)) /\ W.cell? ⟨g3, 15, none⟩ = some (.slice pa i pc)) [(0, false), (1, false), (2, false), (3, true), (4, true), (5, true), (6, false), (7, true)] 7 (by kernel_rfl) (by kernel_rfl) (by rw [Hv1.out]; exact ⟨T1.out.c1, T1.out.c3 15 _ rfl⟩) ?_
      rw [Hv1.out]
      clear Hv1
      refine stl (o := ⟨some 38, .fieldAddr 60 (.tmp 3) 7, 0, "reader.go:60", #[], none⟩) (v := .pointer (some ⟨g3, 15, none⟩)) ?_
      simp only [pG,Act.put]
      refine stm (o := ⟨some 39, .load 55 (.tmp 38), 55, "reader.go:60", #[⟨0, .data⟩], none⟩) (v := .slice pa i pc) (Or.inl ⟨by kernel_rfl, fun W hW => by have q0 := hW.2; go_simp⟩) ?_
      simp only [pG,Act.put]
      refine stm (o := ⟨some 40, .load 131 (.tmp 1), 131, "reader.go:60", #[], none⟩) (v := .agg #[.pointer (some ⟨g, 0, none⟩)]) (Or.inl ⟨by kernel_rfl, fun W hW => by have q0 := hW.1; go_simp⟩) ?_
      simp only [pG,Act.put]
      refine seqL_call (o := ⟨some 41, .call { callee := .value (.func 96), args := #[.tmp 40, .const (.int .i64 16)], argTypes := #[131, 3] }, 3, "reader.go:60", #[⟨2, .data⟩], none⟩) (by kernel_rfl) (fun KK hK => ?_)
      rw [if_pos (by kernel_rfl)]
      go_simp
      go_wp2_with (go_at_call 96; refine (numR_no (z := 16) (show Hid (Rdr v1 g B a n c l q) from T1.out.rdr) (by omega) (show Hid (Sent v1 M E) from T1.out.sent hR.out hE.out) hM ER).mono ?_; rintro e wz ⟨rfl, H⟩)
      have F : Hid (Wfr w wz g none) := T1.out.fr.none_trans H.out
      have N : rdK l p = none := by unfold rdK rdC; simp only [e1, e2, e3, e4, e5, e6, e7, e8, e9, e10, RN.out, Option.bind_some, Option.bind_none]
      first
       | exact bodyPost_panic rfl (.inl ⟨N, rfl, F.out⟩)
       | exact .inl ⟨N, rfl, F.out⟩
       | exact ⟨rfl, .inl ⟨N, rfl, F.out⟩⟩
       | (simp [bodyPost]; exact .inl ⟨N, rfl, F.out⟩)
    . have ER : Hid (rn l q 16 = some (X, q2)) := er1
      have RN : Hid (rp l 16 k p10 = (rp l 16 (k - (i + 1)) q2).bind fun t => some ((PS ++ [X]) ++ t.1, t.2)) := rp_more hlt HP.out er1
      go_upto_region 13 with (fail)
      obtain ⟨v1, Hv1⟩ := nm (wr.drew)
      have T1 : Hid (Rc w v1 g g1 g2 g3 B a n c l q #[.int .i64 (K : Int),.int .i64 (I0 : Int),.int .i64 (I1 : Int),.int .i64 (I2 : Int),.string (spell bu),.string (spell ke),.int .i64 (U0 : Int),.int .i64 (U1 : Int),.int .i64 (U2 : Int),.int .i64 (B0 : Int),.int .i64 (B1 : Int),.int .i64 (B2 : Int),.int .i64 (SZ : Int),.string (spell et),.int .i64 (PT : Int),.slice pa i pc,.int .i64 0,.int .i64 0]) := by rw [<- Hv1.out]; exact S.out.drew
      have O1 : Hid (v1.ownsRow (g3 + 1) 3 1 (.slice pa i pc) i ((PS.map fun x : Nat => (x : Int)).map iv)) := by rw [<- Hv1.out]; exact rown_bel HO.out (fun q _ => rfl)
      refine wp_region_seqL (ops := opr40) (C := fun W => W.cell? ⟨g1, 0, none⟩ = some (.pointer (some ⟨g, 0, none⟩)) /\ W.cell? ⟨g3, 15, none⟩ = some (.slice pa i pc)) [(0, false), (1, false), (2, false), (3, true), (4, true), (5, true), (6, false), (7, true)] 7 (by kernel_rfl) (by kernel_rfl) (by rw [Hv1.out]; exact ⟨T1.out.c1, T1.out.c3 15 _ rfl⟩) ?_
      rw [Hv1.out]
      clear Hv1
      refine stl (o := ⟨some 38, .fieldAddr 60 (.tmp 3) 7, 0, "reader.go:60", #[], none⟩) (v := .pointer (some ⟨g3, 15, none⟩)) ?_
      simp only [pG,Act.put]
      refine stm (o := ⟨some 39, .load 55 (.tmp 38), 55, "reader.go:60", #[⟨0, .data⟩], none⟩) (v := .slice pa i pc) (Or.inl ⟨by kernel_rfl, fun W hW => by have q0 := hW.2; go_simp⟩) ?_
      simp only [pG,Act.put]
      refine stm (o := ⟨some 40, .load 131 (.tmp 1), 131, "reader.go:60", #[], none⟩) (v := .agg #[.pointer (some ⟨g, 0, none⟩)]) (Or.inl ⟨by kernel_rfl, fun W hW => by have q0 := hW.1; go_simp⟩) ?_
      simp only [pG,Act.put]
      refine seqL_call (o := ⟨some 41, .call { callee := .value (.func 96), args := #[.tmp 40, .const (.int .i64 16)], argTypes := #[131, 3] }, 3, "reader.go:60", #[⟨2, .data⟩], none⟩) (by kernel_rfl) (fun KK hK => ?_)
      rw [if_pos (by kernel_rfl)]
      go_simp
      go_wp2_with (go_at_call 96; refine (numR_yes (z := 16) (show Hid (Rdr v1 g B a n c l q) from T1.out.rdr) (by omega) (show Hid (Sent v1 M E) from T1.out.sent hR.out hE.out) hM ER).mono ?_; rintro e v2 ⟨rfl, H⟩)
      have T2 : Hid (Rc w v2 g g1 g2 g3 B a n c l q2 #[.int .i64 (K : Int),.int .i64 (I0 : Int),.int .i64 (I1 : Int),.int .i64 (I2 : Int),.string (spell bu),.string (spell ke),.int .i64 (U0 : Int),.int .i64 (U1 : Int),.int .i64 (U2 : Int),.int .i64 (B0 : Int),.int .i64 (B1 : Int),.int .i64 (B2 : Int),.int .i64 (SZ : Int),.string (spell et),.int .i64 (PT : Int),.slice pa i pc,.int .i64 0,.int .i64 0]) := T1.out.step H.out.1 H.out.2
      have O2 : Hid (v2.ownsRow (g3 + 1) 3 1 (.slice pa i pc) i ((PS.map fun x : Nat => (x : Int)).map iv)) := rown_bel O1.out (fun b hb => H.out.2.block b (O1.out.lt b hb).2 (by have := (O1.out.lt b hb).1; have := T1.out.ne; omega) (by simp [blkOf]))
      refine hK.out _ _ (.inr ⟨T2.out.c1, T2.out.c3 15 _ rfl⟩) ?_
      clear hK KK H T1 O1 S HO HP
      try simp only [pG,Act.put]
      refine seqL_call (o := ⟨some 42, .buildSlice 55 1 #[(0, .tmp 41)], 55, "reader.go:60", #[⟨3, .data⟩], none⟩) (by kernel_rfl) (fun KK hK => ?_)
      rw [if_pos (by kernel_rfl)]
      obtain ⟨b, Hb⟩ := nm (v2.heap.size)
      obtain ⟨v3, Hv3⟩ := nm (v2.alloc (.cells #[.int .i64 (X : Int)] 3))
      have b3 := al1 Hv3
      have T3 : Hid (Rc w v3 g g1 g2 g3 B a n c l q2 #[.int .i64 (K : Int),.int .i64 (I0 : Int),.int .i64 (I1 : Int),.int .i64 (I2 : Int),.string (spell bu),.string (spell ke),.int .i64 (U0 : Int),.int .i64 (U1 : Int),.int .i64 (U2 : Int),.int .i64 (B0 : Int),.int .i64 (B1 : Int),.int .i64 (B2 : Int),.int .i64 (SZ : Int),.string (spell et),.int .i64 (PT : Int),.slice pa i pc,.int .i64 0,.int .i64 0]) := T2.out.below b3.out
      have O3 : Hid (v3.ownsRow (g3 + 1) 3 1 (.slice pa i pc) i ((PS.map fun x : Nat => (x : Int)).map iv)) := rown_bel O2.out (fun b hb => b3.out.block b (O2.out.lt b hb).2)
      have I3 : Hid (Irow v3 0 (some ⟨b, 0, none⟩) 1 [(X : Int)]) := one_int (by rw [<- Hv3.out, <- Hb.out]; exact heap_alloc_new v2 _)
      go_simp
      try go_wp2
      rw [Hv3.out, Hb.out]
      refine hK.out _ _ (.inr ⟨T3.out.c1, T3.out.c3 15 _ rfl⟩) ?_
      clear hK KK T2 O2 b3 Hv3 Hb
      try simp only [pG,Act.put]
      refine seqL_call (o := ⟨some 43, .call { callee := .builtin .append, args := #[.tmp 39, .tmp 42], argTypes := #[55, 55] }, 55, "reader.go:60", #[⟨1, .data⟩, ⟨4, .data⟩, ⟨3, .chain⟩], none⟩) (by kernel_rfl) (fun KK hK => ?_)
      rw [if_pos (by kernel_rfl)]
      obtain ⟨pa2, pc2, v4, hrun, own4, gr4⟩ := app_int O3.out I3.out (c := 1) (fun h => by cases h) (by have := hk16.out; omega) (by have := T3.out.lt3; omega)
      have AP : Hid ((Builtin.append_ #[55, 55] 55 #[.slice pa i pc,.slice (some ⟨b, 0, none⟩) 1 1]).run Tryd.prog v3 = .ok (.slice pa2 (i + 1) pc2) v4) := hrun
      have b4 : Hid (Below (g3 + 1) v3 v4) := grown_below gr4 (by have := T3.out.lt3; omega) (fun b hb => (O3.out.lt b hb).1)
      have T4 : Hid (Rc w v4 g g1 g2 g3 B a n c l q2 #[.int .i64 (K : Int),.int .i64 (I0 : Int),.int .i64 (I1 : Int),.int .i64 (I2 : Int),.string (spell bu),.string (spell ke),.int .i64 (U0 : Int),.int .i64 (U1 : Int),.int .i64 (U2 : Int),.int .i64 (B0 : Int),.int .i64 (B1 : Int),.int .i64 (B2 : Int),.int .i64 (SZ : Int),.string (spell et),.int .i64 (PT : Int),.slice pa i pc,.int .i64 0,.int .i64 0]) := by
       have e := T3.out.ne
       have hb : ∀ b, b < g3 + 1 -> v4.heap[b]? = v3.heap[b]? := fun b hb => b4.out.block b hb
       exact ⟨⟨(hb g (by omega)).trans T3.out.rdr.blk, T3.out.rdr.own.block (fun b h => hb b (by have := T3.out.ap b h; omega)), T3.out.rdr.ne, T3.out.rdr.le, T3.out.rdr.sz⟩, (hb g1 (by omega)).trans T3.out.k1, (hb g2 (by omega)).trans T3.out.k2, (hb g3 (by omega)).trans T3.out.k3, T3.out.ne, T3.out.ap, ⟨b4.out.os.trans T3.out.fr.os, b4.out.tape.trans T3.out.fr.tape, b4.out.output.trans T3.out.fr.output, Nat.le_trans T3.out.fr.size b4.out.size, fun b h1 h2 h3 => (hb b (by omega)).trans (T3.out.fr.block b h1 h2 h3)⟩⟩
      have O4 : Hid (v4.ownsRow (g3 + 1) 3 1 (.slice pa2 (i + 1) pc2) (i + 1) ((PS.map (fun x : Nat => (x : Int)) ++ [(X : Int)]).map iv)) := own4
      clear hrun own4 gr4
      refine wp_appt (.tmp 39) (.tmp 42) (by rfl) (by rfl) (by rfl) (by rfl) AP ?_
      refine hK.out _ _ (.inr ⟨T4.out.c1, T4.out.c3 15 _ rfl⟩) ?_
      clear hK KK T3 O3 I3 AP b4
      try simp only [pG,Act.put]
      refine stl (o := ⟨some 44, .fieldAddr 60 (.tmp 3) 7, 0, "reader.go:60", #[⟨0, .phase⟩, ⟨1, .phase⟩, ⟨2, .phase⟩, ⟨3, .phase⟩, ⟨4, .phase⟩, ⟨5, .phase⟩], none⟩) (v := .pointer (some ⟨g3, 15, none⟩)) ?_
      simp only [pG,Act.put]
      refine seqL_call (o := ⟨none, .store 55 (.tmp 44) (.tmp 43), 0, "reader.go:60", #[⟨6, .data⟩, ⟨5, .data⟩, ⟨5, .chain⟩, ⟨0, .phase⟩, ⟨1, .phase⟩, ⟨2, .phase⟩, ⟨3, .phase⟩, ⟨4, .phase⟩, ⟨5, .phase⟩], none⟩) (by kernel_rfl) (fun KK hK => ?_)
      rw [if_pos (by kernel_rfl)]
      have q15 := T4.out.c3 15 _ rfl
      have f15 := T4.out.f3 15
      obtain ⟨v5, Hv5⟩ := nm (v4.setCell ⟨g3, 15, none⟩ (.slice pa2 (i + 1) pc2))
      have T5 : Hid (Rc w v5 g g1 g2 g3 B a n c l q2 #[.int .i64 (K : Int),.int .i64 (I0 : Int),.int .i64 (I1 : Int),.int .i64 (I2 : Int),.string (spell bu),.string (spell ke),.int .i64 (U0 : Int),.int .i64 (U1 : Int),.int .i64 (U2 : Int),.int .i64 (B0 : Int),.int .i64 (B1 : Int),.int .i64 (B2 : Int),.int .i64 (SZ : Int),.string (spell et),.int .i64 (PT : Int),.slice pa2 (i + 1) pc2,.int .i64 0,.int .i64 0]) := by rw [<- Hv5.out]; exact T4.out.set 15 _
      have O5 : Hid (v5.ownsRow (g3 + 1) 3 1 (.slice pa2 (i + 1) pc2) (i + 1) (((PS ++ [X]).map fun x : Nat => (x : Int)).map iv)) := by
       rw [<- Hv5.out]
       refine rown_bel ?_ (fun b hb => heap_setCell_other v4 ⟨g3, 15, none⟩ b _ (by show b ≠ g3; have := (O4.out.lt b hb).1; omega))
       have h := O4.out
       rw [List.map_append]
       exact h
      go_simp
      rw [Hv5.out]
      refine hK.out _ _ (.inl rfl) ?_
      clear hK KK T4 O4 q15 f15 Hv5
      try simp only [pG,Act.put]
      show (Exit.inBlock 1 (Exit.then _ _)) .normal _ _
      go_wp2
      go_roundw
      case rel => exact ⟨i + 1, pa2, pc2, q2, PS ++ [X], by omega, by go_num, T5.out, O5.out, RN.out⟩
      case measure => simp [intOf]; omega
  . obtain rfl : i = k := by omega
    have e11 : rp l 16 i p10 = some (PS, q) := rp_end HP.out
    have HPS : Hid (i = PS.length /\ i <= 16) := ⟨by have := HO.out.1; simp at this; omega, hk16.out⟩
    clear hlt HP hi
    rcases opt_cases (rn l q 1099511627776) with e12 | ⟨⟨TM, p12⟩, e12⟩
    . have ER : Hid (rn l q 1099511627776 = none) := e12
      have x1 := S.out.c1
      go_wp2_with (go_at_call 96; refine (numR_no (z := 1099511627776) (show Hid (Rdr wr g B a n c l q) from S.out.rdr) (by omega) (show Hid (Sent wr M E) from S.out.sent hR.out hE.out) hM ER).mono ?_; rintro e wz ⟨rfl, H⟩)
      have F : Hid (Wfr w wz g none) := S.out.fr.none_trans H.out
      have N : rdK l p = none := by unfold rdK rdC; simp only [e1, e2, e3, e4, e5, e6, e7, e8, e9, e10, e11, e12, Option.bind_some, Option.bind_none]
      first
       | exact bodyPost_panic rfl (.inl ⟨N, rfl, F.out⟩)
       | exact .inl ⟨N, rfl, F.out⟩
       | exact ⟨rfl, .inl ⟨N, rfl, F.out⟩⟩
       | (simp [bodyPost]; exact .inl ⟨N, rfl, F.out⟩)
    have ER : Hid (rn l q 1099511627776 = some (TM, p12)) := e12
    have x1 := S.out.c1
    go_upto_region 16 with (go_at_call 96; refine (numR_yes (z := 1099511627776) (show Hid (Rdr wr g B a n c l q) from S.out.rdr) (by omega) (show Hid (Sent wr M E) from S.out.sent hR.out hE.out) hM ER).mono ?_; rintro e w12a ⟨rfl, H⟩; have T : Hid (Rc w w12a g g1 g2 g3 B a n c l p12 #[.int .i64 (K : Int),.int .i64 (I0 : Int),.int .i64 (I1 : Int),.int .i64 (I2 : Int),.string (spell bu),.string (spell ke),.int .i64 (U0 : Int),.int .i64 (U1 : Int),.int .i64 (U2 : Int),.int .i64 (B0 : Int),.int .i64 (B1 : Int),.int .i64 (B2 : Int),.int .i64 (SZ : Int),.string (spell et),.int .i64 (PT : Int),.slice pa i pc,.int .i64 0,.int .i64 0]) := S.out.step H.out.1 H.out.2; have OT : Hid (w12a.ownsRow (g3 + 1) 3 1 (.slice pa i pc) i ((PS.map fun x : Nat => (x : Int)).map iv)) := rown_bel HO.out (fun b hb => H.out.2.block b (HO.out.lt b hb).2 (by have := (HO.out.lt b hb).1; have := S.out.ne; omega) (by simp [blkOf])); have q16 := T.out.c3 16 _ rfl; have f16 := T.out.f3 16)
    obtain ⟨w12b, Hw⟩ := nm (w12a.setCell ⟨g3, 16, none⟩ (.int .i64 (TM : Int)))
    have S2 : Hid (Rc w w12b g g1 g2 g3 B a n c l p12 #[.int .i64 (K : Int),.int .i64 (I0 : Int),.int .i64 (I1 : Int),.int .i64 (I2 : Int),.string (spell bu),.string (spell ke),.int .i64 (U0 : Int),.int .i64 (U1 : Int),.int .i64 (U2 : Int),.int .i64 (B0 : Int),.int .i64 (B1 : Int),.int .i64 (B2 : Int),.int .i64 (SZ : Int),.string (spell et),.int .i64 (PT : Int),.slice pa i pc,.int .i64 (TM : Int),.int .i64 0]) := by rw [<- Hw.out]; exact T.out.set 16 _
    have O2 : Hid (w12b.ownsRow (g3 + 1) 3 1 (.slice pa i pc) i ((PS.map fun x : Nat => (x : Int)).map iv)) := by rw [<- Hw.out]; exact rown_bel OT.out (fun b hb => heap_setCell_other w12a ⟨g3, 16, none⟩ b _ (by show b ≠ g3; have := (OT.out.lt b hb).1; omega))
    rw [Hw.out]
    clear Hw S T H ER x1 HO OT q16 f16
    have S := S2
    have HO := O2
    clear S2 O2
    rcases opt_cases (rn l p12 1099511627776) with e13 | ⟨⟨DY, p13⟩, e13⟩
    . have ER : Hid (rn l p12 1099511627776 = none) := e13
      have x1 := S.out.c1
      go_wp2_with (go_at_call 96; refine (numR_no (z := 1099511627776) (show Hid (Rdr w12b g B a n c l p12) from S.out.rdr) (by omega) (show Hid (Sent w12b M E) from S.out.sent hR.out hE.out) hM ER).mono ?_; rintro e wz ⟨rfl, H⟩)
      have F : Hid (Wfr w wz g none) := S.out.fr.none_trans H.out
      have N : rdK l p = none := by unfold rdK rdC; simp only [e1, e2, e3, e4, e5, e6, e7, e8, e9, e10, e11, e12, e13, Option.bind_some, Option.bind_none]
      first
       | exact bodyPost_panic rfl (.inl ⟨N, rfl, F.out⟩)
       | exact .inl ⟨N, rfl, F.out⟩
       | exact ⟨rfl, .inl ⟨N, rfl, F.out⟩⟩
       | (simp [bodyPost]; exact .inl ⟨N, rfl, F.out⟩)
    have ER : Hid (rn l p12 1099511627776 = some (DY, p13)) := e13
    have x1 := S.out.c1
    go_upto_region 17 with (go_at_call 96; refine (numR_yes (z := 1099511627776) (show Hid (Rdr w12b g B a n c l p12) from S.out.rdr) (by omega) (show Hid (Sent w12b M E) from S.out.sent hR.out hE.out) hM ER).mono ?_; rintro e w13a ⟨rfl, H⟩; have T : Hid (Rc w w13a g g1 g2 g3 B a n c l p13 #[.int .i64 (K : Int),.int .i64 (I0 : Int),.int .i64 (I1 : Int),.int .i64 (I2 : Int),.string (spell bu),.string (spell ke),.int .i64 (U0 : Int),.int .i64 (U1 : Int),.int .i64 (U2 : Int),.int .i64 (B0 : Int),.int .i64 (B1 : Int),.int .i64 (B2 : Int),.int .i64 (SZ : Int),.string (spell et),.int .i64 (PT : Int),.slice pa i pc,.int .i64 (TM : Int),.int .i64 0]) := S.out.step H.out.1 H.out.2; have OT : Hid (w13a.ownsRow (g3 + 1) 3 1 (.slice pa i pc) i ((PS.map fun x : Nat => (x : Int)).map iv)) := rown_bel HO.out (fun b hb => H.out.2.block b (HO.out.lt b hb).2 (by have := (HO.out.lt b hb).1; have := S.out.ne; omega) (by simp [blkOf])); have q17 := T.out.c3 17 _ rfl; have f17 := T.out.f3 17)
    obtain ⟨w13b, Hw⟩ := nm (w13a.setCell ⟨g3, 17, none⟩ (.int .i64 (DY : Int)))
    have S2 : Hid (Rc w w13b g g1 g2 g3 B a n c l p13 #[.int .i64 (K : Int),.int .i64 (I0 : Int),.int .i64 (I1 : Int),.int .i64 (I2 : Int),.string (spell bu),.string (spell ke),.int .i64 (U0 : Int),.int .i64 (U1 : Int),.int .i64 (U2 : Int),.int .i64 (B0 : Int),.int .i64 (B1 : Int),.int .i64 (B2 : Int),.int .i64 (SZ : Int),.string (spell et),.int .i64 (PT : Int),.slice pa i pc,.int .i64 (TM : Int),.int .i64 (DY : Int)]) := by rw [<- Hw.out]; exact T.out.set 17 _
    have O2 : Hid (w13b.ownsRow (g3 + 1) 3 1 (.slice pa i pc) i ((PS.map fun x : Nat => (x : Int)).map iv)) := by rw [<- Hw.out]; exact rown_bel OT.out (fun b hb => heap_setCell_other w13a ⟨g3, 17, none⟩ b _ (by show b ≠ g3; have := (OT.out.lt b hb).1; omega))
    rw [Hw.out]
    clear Hw S T H ER x1 HO OT q17 f17
    have S := S2
    have HO := O2
    clear S2 O2
    obtain ⟨fr0, Hfr⟩ := nm (frm ⟨K, I0, I1, I2, spell bu, spell ke, U0, U1, U2, B0, B1, B2, SZ, spell et, PT, PS.map (fun y : Nat => (y : Int)), TM, DY⟩)
    have R3 : w13b.rangeAt g3 0 [.int .i64 (K : Int),.int .i64 (I0 : Int),.int .i64 (I1 : Int),.int .i64 (I2 : Int),.string (spell bu),.string (spell ke),.int .i64 (U0 : Int),.int .i64 (U1 : Int),.int .i64 (U2 : Int),.int .i64 (B0 : Int),.int .i64 (B1 : Int),.int .i64 (B2 : Int),.int .i64 (SZ : Int),.string (spell et),.int .i64 (PT : Int),.slice pa i pc,.int .i64 (TM : Int),.int .i64 (DY : Int)] := range_blk S.out.k3
    have IR : Hid (Irow w13b 0 pa i (PS.map fun y : Nat => (y : Int))) := (irow_own HO.out (by have := HPS.out.2; omega)).mono (Nat.zero_le _)
    have RC : Hid (rdC l p = some (⟨K, I0, I1, I2, spell bu, spell ke, U0, U1, U2, B0, B1, B2, SZ, spell et, PT, PS, TM, DY⟩, p13)) := by
     show _ = _
     unfold rdC
     simp only [e1, e2, e3, e4, e5, e6, e7, e8, e9, e10, e11, e12, e13, Option.bind_some]
    cases fr0
    . go_upto_region 18 with first
       | (refine wpList_load_mid (by rfl) 60 (.tmp 3) (by rfl) g3 0 (by rfl) _ _ R3 Tryd.underlying60 rfl (by kernel_rfl) ?_)
       | (go_at_call 69; refine (inForm_n IR).mono ?_; rintro e wy ⟨rfl, HY⟩; rw [Hfr.out])
      have T : Hid (Rc w wy g g1 g2 g3 B a n c l p13 #[.int .i64 (K : Int),.int .i64 (I0 : Int),.int .i64 (I1 : Int),.int .i64 (I2 : Int),.string (spell bu),.string (spell ke),.int .i64 (U0 : Int),.int .i64 (U1 : Int),.int .i64 (U2 : Int),.int .i64 (B0 : Int),.int .i64 (B1 : Int),.int .i64 (B2 : Int),.int .i64 (SZ : Int),.string (spell et),.int .i64 (PT : Int),.slice pa i pc,.int .i64 (TM : Int),.int .i64 (DY : Int)]) := S.out.below HY.out
      have SE : Hid (Sent wy M E) := T.out.sent hR.out hE.out
      have ce := SE.out.c 1 hM
      have F : Hid (Wfr w wy g none) := T.out.fr
      have N : rdK l p = none := by
       unfold rdK
       rw [RC.out, Option.bind_some]
       have h : ¬ (frm (Nm.cm ⟨K, I0, I1, I2, spell bu, spell ke, U0, U1, U2, B0, B1, B2, SZ, spell et, PT, PS, TM, DY⟩) = true) := fun h => by
        have h2 : frm (Nm.cm ⟨K, I0, I1, I2, spell bu, spell ke, U0, U1, U2, B0, B1, B2, SZ, spell et, PT, PS, TM, DY⟩) = false := Hfr.out
        rw [h] at h2
        cases h2
       exact if_neg h
      go_wp2
      first
       | exact bodyPost_panic rfl (.inl ⟨N, rfl, F.out⟩)
       | exact .inl ⟨N, rfl, F.out⟩
       | exact ⟨rfl, .inl ⟨N, rfl, F.out⟩⟩
       | (simp [bodyPost]; exact .inl ⟨N, rfl, F.out⟩)
    . go_upto_region 19 with first
       | (refine wpList_load_mid (by rfl) 60 (.tmp 3) (by rfl) g3 0 (by rfl) _ _ R3 Tryd.underlying60 rfl (by kernel_rfl) ?_)
       | (go_at_call 69; refine (inForm_n IR).mono ?_; rintro e wy ⟨rfl, HY⟩; rw [Hfr.out])
      have T : Hid (Rc w wy g g1 g2 g3 B a n c l p13 #[.int .i64 (K : Int),.int .i64 (I0 : Int),.int .i64 (I1 : Int),.int .i64 (I2 : Int),.string (spell bu),.string (spell ke),.int .i64 (U0 : Int),.int .i64 (U1 : Int),.int .i64 (U2 : Int),.int .i64 (B0 : Int),.int .i64 (B1 : Int),.int .i64 (B2 : Int),.int .i64 (SZ : Int),.string (spell et),.int .i64 (PT : Int),.slice pa i pc,.int .i64 (TM : Int),.int .i64 (DY : Int)]) := S.out.below HY.out
      have OY : Hid (wy.ownsRow (g3 + 1) 3 1 (.slice pa i pc) i ((PS.map fun x : Nat => (x : Int)).map iv)) := rown_bel HO.out (fun b hb => HY.out.block b (HO.out.lt b hb).2)
      have R4 : wy.rangeAt g3 0 [.int .i64 (K : Int),.int .i64 (I0 : Int),.int .i64 (I1 : Int),.int .i64 (I2 : Int),.string (spell bu),.string (spell ke),.int .i64 (U0 : Int),.int .i64 (U1 : Int),.int .i64 (U2 : Int),.int .i64 (B0 : Int),.int .i64 (B1 : Int),.int .i64 (B2 : Int),.int .i64 (SZ : Int),.string (spell et),.int .i64 (PT : Int),.slice pa i pc,.int .i64 (TM : Int),.int .i64 (DY : Int)] := range_blk T.out.k3
      have G2 : Hid (wy.heap[g2]? = some (.cells #[.int .i64 0,.int .i64 0,.int .i64 0,.int .i64 0,.string ⟨#[]⟩,.string ⟨#[]⟩,.int .i64 0,.int .i64 0,.int .i64 0,.int .i64 0,.int .i64 0,.int .i64 0,.int .i64 0,.string ⟨#[]⟩,.int .i64 0,.slice none 0 0,.int .i64 0,.int .i64 0] 60 (0, 0))) := T.out.k2
      clear R3 IR HY S HO
      go_wp2_with (refine wpList_load_mid (by rfl) 60 (.tmp 3) (by rfl) g3 0 (by rfl) _ _ R4 Tryd.underlying60 rfl (by kernel_rfl) ?_; refine wpList_store_row (by rfl) 60 (.tmp 2) (.tmp 56) (by rfl) g2 _ (by rfl) (by rfl) 60 _ G2.out (by kernel_rfl) (by rfl) (all_oneCell_toArray (encX_one ⟨⟨K, I0, I1, I2, spell bu, spell ke, U0, U1, U2, B0, B1, B2, SZ, spell et, PT, PS.map (fun y : Nat => (y : Int)), TM, DY⟩, pa, i, pc⟩)) ?_)
      have RW := setRow_heap wy g2 _ (#[.int .i64 (K : Int),.int .i64 (I0 : Int),.int .i64 (I1 : Int),.int .i64 (I2 : Int),.string (spell bu),.string (spell ke),.int .i64 (U0 : Int),.int .i64 (U1 : Int),.int .i64 (U2 : Int),.int .i64 (B0 : Int),.int .i64 (B1 : Int),.int .i64 (B2 : Int),.int .i64 (SZ : Int),.string (spell et),.int .i64 (PT : Int),.slice pa i pc,.int .i64 (TM : Int),.int .i64 (DY : Int)] : Array Value) 60 (0, 0) G2.out
      have FIN : CmO w (wy.setRow g2 #[.int .i64 (K : Int),.int .i64 (I0 : Int),.int .i64 (I1 : Int),.int .i64 (I2 : Int),.string (spell bu),.string (spell ke),.int .i64 (U0 : Int),.int .i64 (U1 : Int),.int .i64 (U2 : Int),.int .i64 (B0 : Int),.int .i64 (B1 : Int),.int .i64 (B2 : Int),.int .i64 (SZ : Int),.string (spell et),.int .i64 (PT : Int),.slice pa i pc,.int .i64 (TM : Int),.int .i64 (DY : Int)]) g B a n c l p13 ⟨K, I0, I1, I2, spell bu, spell ke, U0, U1, U2, B0, B1, B2, SZ, spell et, PT, PS, TM, DY⟩ pa i pc := by
       have e := T.out.ne
       have hb : ∀ b, b ≠ g2 -> (wy.setRow g2 #[.int .i64 (K : Int),.int .i64 (I0 : Int),.int .i64 (I1 : Int),.int .i64 (I2 : Int),.string (spell bu),.string (spell ke),.int .i64 (U0 : Int),.int .i64 (U1 : Int),.int .i64 (U2 : Int),.int .i64 (B0 : Int),.int .i64 (B1 : Int),.int .i64 (B2 : Int),.int .i64 (SZ : Int),.string (spell et),.int .i64 (PT : Int),.slice pa i pc,.int .i64 (TM : Int),.int .i64 (DY : Int)]).heap[b]? = wy.heap[b]? := fun b h => setRow_other wy g2 b _ h
       refine ⟨⟨(hb g (by omega)).trans T.out.rdr.blk, T.out.rdr.own.block (fun b h => hb b (by have := T.out.ap b h; omega)), T.out.rdr.ne, T.out.rdr.le, T.out.rdr.sz⟩, ⟨T.out.fr.os, T.out.fr.tape, T.out.fr.output, by rw [setRow_size]; exact T.out.fr.size, fun b h1 h2 h3 => (hb b (by omega)).trans (T.out.fr.block b h1 h2 h3)⟩, ?_, HPS.out.2⟩
       exact rown_mono (rown_bel OY.out (fun b h => hb b (by have := (OY.out.lt b h).1; omega))) (by omega)
      refine bodyPost_ret (results_cell_row (p := 2) (ty := 60) (by rfl) _ _ g2 60 _ (0, 0) _ (by rfl) RW Tryd.underlying60 rfl (by kernel_rfl)) rfl ?_
      refine .inr ⟨_, _, pa, i, pc, ?_, rfl, FIN⟩
      unfold rdK
      rw [RC.out, Option.bind_some]
      exact if_pos Hfr.out
end Go.Proofs.YtppibcambhmomaaDoor
