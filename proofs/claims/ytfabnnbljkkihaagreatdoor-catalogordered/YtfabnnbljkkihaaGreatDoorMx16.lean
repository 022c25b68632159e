import Derived.Test.YtfabnnbljkkihaaGreatDoorMxp
import Derived.Test.YtfabnnbljkkihaaGreatDoorMx15
import Derived.Deep.QuietTactic
namespace Go.Proofs.YtfabnnbljkkihaaGreatDoor
open Go.ChangeShapes Go.WideShapes Go.ChangeAt Go.RowKit
set_option maxRecDepth 20000
set_option linter.unusedVariables false
set_option linter.unusedSimpArgs false
theorem wp_app3 {op : Oper} {a : Act} {K : Act -> World -> Prop} {Q : Exit -> Act -> World -> Prop} {w w' : World} {v v1 v2 : Value} {t : TypeId} (s x : Operand)
  (ho : op.op = .call { callee := .builtin .append, args := #[s, x], argTypes := #[t, t] }) (hty : op.type = t) (hs : a.eval s = v1) (hx : a.eval x = v2) (hrun : Hid ((Builtin.append_ #[t, t] t #[v1, v2]).run Tryz.prog w = .ok v w'))
  (h : K (a.put op.dst v) w') : Oper.wp Tryz.prog op a w K Q := by
 have hr := hrun.out
 unfold Oper.wp
 simp [execOp, ho, resolve, invoke, builtin, hs, hx, hty, hr, Result.andThen]
 exact h
section
variable {α : Type} {E : Enc α} {w : World} {lo hi : Nat} {t s : TypeId} {b n p : Nat} {l : List α} {Z : Value} {B : Nat}
theorem Rw.pre (h : Rw w lo hi t E (some ⟨b, 0, none⟩) n n l) (hp : p <= n) : Rw w lo hi t E (some ⟨b, 0, none⟩) p n (l.take p) := by
 have hl := h.len
 refine ⟨?_, h.top, h.pos⟩
 rcases h.row with ⟨h0, ⟨h1, _⟩ | ⟨q, cap, cur, h1, h2, h3, h4, h5, h6, h7⟩⟩
 . cases h1
 . cases h1
   refine ⟨by rw [E.fl_len, List.length_take, Nat.min_eq_left (by omega)], .inr ⟨b, n, cur, rfl, h2, h3, hp, h5, h6, ?_⟩⟩
   rw [E.fl_take, <- h7, List.take_take, Nat.min_eq_left (Nat.mul_le_mul_right _ hp)]
theorem del_steps (h : Rw w lo hi t E (some ⟨b, 0, none⟩) n n l) (hp : p < n) (hu : Tryz.prog.underlying s = some (.slice t)) (hinf : (Tryz.prog.info? t).map (fun i => (i.zero, i.size, i.bytes)) = some (some Z, E.z, B)) (hZ : Z.cells.size = E.z) (hZ1 : (Builtin.zeroCells Z.cells 1).toList.all (·.oneCell') = true) :
  ∃ w1 w2, (∀ sa sC, (p + 1 < n -> sa = ⟨b, (p + 1) * E.z, none⟩) -> (Builtin.append_ #[s, s] s #[.slice (some ⟨b, 0, none⟩) p n,.slice (some sa) (n - (p + 1)) sC]).run Tryz.prog w.drew = .ok (.slice (some ⟨b, 0, none⟩) (n - 1) n) w1) ∧
   (∀ ty cC, (Builtin.clear_ #[s] ty #[.slice (some ⟨b, (n - 1) * E.z, none⟩) 1 cC]).run Tryz.prog w1 = .ok (.tuple #[]) w2) ∧
   Rw w2 lo hi t E (some ⟨b, 0, none⟩) (n - 1) n (l.eraseIdx p) /\ Ch w w2 (fun q => q = b) := by
 have hl := h.len
 obtain ⟨inf, hi1, hz0, hz1, hz2⟩ := info_parts hinf
 have hd : Rw w.drew lo hi t E (some ⟨b, 0, none⟩) n n l := h.keep (fun q _ _ _ => rfl)
 have hpre := hd.pre (p := p) (by omega)
 have hld : (E.fl (l.drop (p + 1))).length = (n - (p + 1)) * E.z := by rw [E.fl_len, List.length_drop, hl]
 have hnews : ∀ sa : Addr, (p + 1 < n -> sa = ⟨b, (p + 1) * E.z, none⟩) -> ∀ j u, (E.fl (l.drop (p + 1)))[j]? = some u -> w.drew.cell? (sa.add j) = some u := fun sa hsa j u hj => by
  have hj2 := (List.getElem?_eq_some_iff.1 hj).1
  rw [hld] at hj2
  have hlt : p + 1 < n := by
   rcases Nat.lt_or_ge (p + 1) n with h1 | h1
   . exact h1
   . rw [Nat.sub_eq_zero_of_le h1, Nat.zero_mul] at hj2; omega
  rw [hsa hlt, Addr.add_mid]
  rw [E.fl_drop, List.getElem?_drop] at hj
  have hjl := (List.getElem?_eq_some_iff.1 hj).1
  rw [E.fl_len, <- hl] at hjl
  rw [hd.row.cellAt _ hjl]; exact hj
 obtain ⟨w1, r1, r2, r3⟩ := run_append_fits (P := Tryz.prog) (w := w.drew) lo s s t inf E.z hu hi1 hz1 b p n (E.fl (l.take p)) hpre.row ⟨b, (p + 1) * E.z, none⟩ (n - (p + 1)) 0 (E.fl (l.drop (p + 1))) hld (hnews _ (fun _ => rfl)) (E.fl_oc _) (by omega)
 have en : p + (n - (p + 1)) = n - 1 := by omega
 have hall : ∀ sa sC, (p + 1 < n -> sa = ⟨b, (p + 1) * E.z, none⟩) -> (Builtin.append_ #[s, s] s #[.slice (some ⟨b, 0, none⟩) p n,.slice (some sa) (n - (p + 1)) sC]).run Tryz.prog w.drew = .ok (.slice (some ⟨b, 0, none⟩) (n - 1) n) w1 := by
  rcases hpre.row.2 with ⟨k1, _⟩ | ⟨q, cap, cur, k1, k2, k3, k4, k5, k6, k7⟩
  . cases k1
  . cases k1
    have hfit : p * inf.size + (E.fl (l.drop (p + 1))).length <= cur.size := by rw [hld, hz1, k6, <- Nat.add_mul]; exact Nat.mul_le_mul_right _ (by omega)
    have hr : ∀ sa sC, (p + 1 < n -> sa = ⟨b, (p + 1) * E.z, none⟩) -> (Builtin.append_ #[s, s] s #[.slice (some ⟨b, 0, none⟩) p n,.slice (some sa) (n - (p + 1)) sC]).run Tryz.prog w.drew = .ok (.slice (some ⟨b, 0, none⟩) (p + (n - (p + 1))) n) (w.drew.setRow b (cur.toList.take (p * inf.size) ++ E.fl (l.drop (p + 1)) ++ cur.toList.drop (p * inf.size + (E.fl (l.drop (p + 1))).length)).toArray) := fun sa sC hsa => run_append_room (P := Tryz.prog) w.drew s s t inf hu hi1 b p n cur k3 sa (n - (p + 1)) sC (E.fl (l.drop (p + 1))) (by rw [hz1]; exact hld) (hnews sa hsa) (E.fl_oc _) (by omega) hfit
    intro sa sC hsa
    rw [hr sa sC hsa, <- en]
    have h9 := (hr ⟨b, (p + 1) * E.z, none⟩ 0 (fun _ => rfl)).symm.trans r1
    exact h9
 rw [en] at r1 r2
 have efl : E.fl (l.take p) ++ E.fl (l.drop (p + 1)) = E.fl (l.eraseIdx p) := by rw [<- E.fl_app, List.eraseIdx_eq_take_drop_succ]
 rw [efl] at r2
 have c1 : Ch w w1 (fun q => q = b) := by
  have hb := grown_below r3 (Nat.zero_le _) (fun q _ => Nat.zero_le _)
  exact (Ch.drew w _).trans ⟨hb.os, hb.tape, hb.output, hb.size, fun k hk hn => r3.block k hk (fun e => hn (by cases e; rfl))⟩
 rcases r2.2 with ⟨h1, _⟩ | ⟨q, cap, cur, h1, h2, h3, h4, h5, h6, h7⟩
 . cases h1
 . cases h1
   have ze : (n - 1) * E.z + E.z = n * E.z := by rw [<- Nat.succ_mul]; congr 1; omega
   have zl : (Builtin.zeroCells Z.cells 1).toList.length = E.z := by rw [Array.length_toList, zeros_size, hZ, Nat.one_mul]
   have hst := run_storeCells_at Tryz.prog b ((n - 1) * E.z) t (Builtin.zeroCells Z.cells 1).toList 0 cur w1 h3 (by rw [zl, h6]; omega) (fun v hv => List.all_eq_true.1 hZ1 v hv)
   refine ⟨w1, w1.setRow b (cur.toList.take ((n - 1) * E.z + 0) ++ (Builtin.zeroCells Z.cells 1).toList ++ cur.toList.drop ((n - 1) * E.z + 0 + (Builtin.zeroCells Z.cells 1).toList.length)).toArray, fun sa sC hsa => ?_, fun ty cC => ?_, ?_, ?_⟩
   . exact hall sa sC hsa
   . simp [Builtin.clear_, run_underlying hu, zeroValue, typeInfo, hi1, hz0, hst]
   . refine ⟨⟨?_, .inr ⟨b, n, _, rfl, h2, setRow_heap _ _ _ _ _ _ h3, by omega, h5, ?_, ?_⟩⟩, h.top, h.pos⟩
     . rw [E.fl_len, List.length_eraseIdx, if_pos (by omega), hl]
     . simp only [Nat.add_zero, List.size_toArray, List.length_append, List.length_take, List.length_drop, Array.length_toList, h6, zl]
       rw [Nat.min_eq_left (by omega)]
       omega
     . rw [Nat.add_zero]
       show ((cur.toList.take ((n - 1) * E.z) ++ _ ++ _) : List Value).take ((n - 1) * E.z) = _
       rw [List.append_assoc, List.take_left' (by rw [List.length_take, Array.length_toList, h6, Nat.min_eq_left (by omega)])]
       exact h7
   . exact c1.trans ⟨rfl, rfl, rfl, by rw [setRow_size]; exact Nat.le_refl _, fun k hk hn => setRow_other _ _ _ _ hn⟩
end
set_option maxHeartbeats 8000000 in
theorem del_B {w : World} {lo hi b n p : Nat} {X : List Bkx} (hA : Hid (Rw w lo hi 65 EBk (some ⟨b, 0, none⟩) n n X)) (hn : n <= 1048576) (hp : p < n) :
  Calls Tryz.prog 117 #[.slice (some ⟨b, 0, none⟩) n n,.int .i64 p,.int .i64 ((p : Int) + 1)] w fun e w' => e = .returned (.slice (some ⟨b, 0, none⟩) (n - 1) n) /\ Hid (Rw w' lo hi 65 EBk (some ⟨b, 0, none⟩) (n - 1) n (X.eraseIdx p) /\ Ch w w' (fun q => q = b)) := by
 obtain ⟨w1, w2, r1, r2, f1, f2⟩ := del_steps hA.out hp Tryz.underlying56 inf65 rfl (by kernel_rfl)
 have F : Hid (Rw w2 lo hi 65 EBk (some ⟨b, 0, none⟩) (n - 1) n (X.eraseIdx p) /\ Ch w w2 (fun q => q = b)) := ⟨f1, f2⟩
 clear f1 f2
 have i1 : (p : Int) < (n : Int) := by omega
 have i2 : p + 1 <= n := by omega
 have i3 : (0 : Int) <= (p : Int) + 1 := by omega
 have i4 : ¬ ((p : Int) = (p : Int) + 1) := by omega
 have i5 : n - 1 <= n := by omega
 have i6 : ¬ (n = n - 1) := by omega
 have i7 : p <= n := by omega
 have i8 : ¬ ((n : Int) < (p : Int) + 1) := by omega
 have i11 : (p : Int) + 1 <= (n : Int) := by omega
 have wq : IntKind.i64.wrap ((p : Int) + 1) = (p : Int) + 1 := by rw [IntKind.wrap_i64]; omega
 go_enter Tryz.func117, Tryz.ntmps117
 by_cases hl : p + 1 < n
 . skip
   have HA : Hid ((Builtin.append_ #[56, 56] 56 #[.slice (some ⟨b, 0, none⟩) p n,.slice (some ⟨b, (p + 1) * 5, none⟩) (n - (p + 1)) (n - (p + 1))]).run Tryz.prog w.drew = .ok (.slice (some ⟨b, 0, none⟩) (n - 1) n) w1) := by
    have h9 := r1 ⟨b, (p + 1) * 5, none⟩ (n - (p + 1)) (fun _ => rfl)
    exact h9
   have cl : (Builtin.clear_ #[56] 0 #[.slice (some ⟨b, (n - 1) * 5, none⟩) (n - (n - 1)) (n - (n - 1))]).run Tryz.prog w1 = .ok (.tuple #[]) w2 := by rw [show n - (n - 1) = 1 by omega]; exact r2 0 1
   have i9 : ¬ (n = p + 1) := by omega
   go_upto_region 5 with (fail)
   refine wp_region_till (S := fun L W => True) (by kernel_rfl) trivial (fun hS => ?_)
   refine tkg (i := 0) (v := .slice (some ⟨b, 0, none⟩) n n) rfl hS (fun hSb => ?_)
   simp only [pA,pB,pC,Act.put,pD,pE,pF]
   clear hS
   refine tkg (i := 1) (v := .int .i64 (p : Int)) rfl hSb (fun hS => ?_)
   simp only [pA,pB,pC,Act.put,pD,pE,pF]
   clear hSb
   refine tkg (i := 2) (v := .slice (some ⟨b, 0, none⟩) p n) rfl hS (fun hSb => ?_)
   simp only [pA,pB,pC,Act.put,pD,pE,pF]
   clear hS
   refine tkg (i := 3) (v := .slice (some ⟨b, 0, none⟩) n n) rfl hSb (fun hS => ?_)
   simp only [pA,pB,pC,Act.put,pD,pE,pF]
   clear hSb
   refine tkg (i := 4) (v := .int .i64 ((p : Int) + 1)) rfl hS (fun hSb => ?_)
   simp only [pA,pB,pC,Act.put,pD,pE,pF]
   clear hS
   refine tkg (i := 5) (v := .slice (some ⟨b, (p + 1) * 5, none⟩) (n - (p + 1)) (n - (p + 1))) rfl hSb (fun hS => ?_)
   simp only [pA,pB,pC,Act.put,pD,pE,pF]
   clear hSb
   refine till_one (i := 6) (by kernel_rfl) rfl (fun K hK => ?_)
   simp only [pA,pB,pC]
   rw [if_pos (by rfl)]
   refine wp_app3 (.tmp 22) (.tmp 25) (by rfl) (by rfl) (by rfl) (by rfl) HA ?_
   refine hK.out _ _ (trivial) (fun hSb => ?_)
   clear hK K
   try simp only [pA,pB,pC,Act.put,pD,pE,pF]
   clear hS
   refine tkg (i := 7) (v := .slice (some ⟨b, 0, none⟩) (n - 1) n) rfl hSb (fun hS => ?_)
   simp only [pA,pB,pC,Act.put,pD,pE,pF]
   clear hSb
   refine till_done (by kernel_rfl) ?_ _
   clear hS
   show (Exit.then _ _) .normal _ _
   go_wp2
   go_ret
   exact ⟨rfl, F.out⟩
 . skip
   have HA : Hid ((Builtin.append_ #[56, 56] 56 #[.slice (some ⟨b, 0, none⟩) p n,.slice (some ⟨b, 0, none⟩) (n - (p + 1)) (n - (p + 1))]).run Tryz.prog w.drew = .ok (.slice (some ⟨b, 0, none⟩) (n - 1) n) w1) := by
    have h9 := r1 ⟨b, 0, none⟩ (n - (p + 1)) (fun h => by omega)
    exact h9
   have cl : (Builtin.clear_ #[56] 0 #[.slice (some ⟨b, (n - 1) * 5, none⟩) (n - (n - 1)) (n - (n - 1))]).run Tryz.prog w1 = .ok (.tuple #[]) w2 := by rw [show n - (n - 1) = 1 by omega]; exact r2 0 1
   have i9 : (n = p + 1) = True := eq_true (by omega)
   go_upto_region 5 with (fail)
   refine wp_region_till (S := fun L W => True) (by kernel_rfl) trivial (fun hS => ?_)
   refine tkg (i := 0) (v := .slice (some ⟨b, 0, none⟩) n n) rfl hS (fun hSb => ?_)
   simp only [pA,pB,pC,Act.put,pD,pE,pF]
   clear hS
   refine tkg (i := 1) (v := .int .i64 (p : Int)) rfl hSb (fun hS => ?_)
   simp only [pA,pB,pC,Act.put,pD,pE,pF]
   clear hSb
   refine tkg (i := 2) (v := .slice (some ⟨b, 0, none⟩) p n) rfl hS (fun hSb => ?_)
   simp only [pA,pB,pC,Act.put,pD,pE,pF]
   clear hS
   refine tkg (i := 3) (v := .slice (some ⟨b, 0, none⟩) n n) rfl hSb (fun hS => ?_)
   simp only [pA,pB,pC,Act.put,pD,pE,pF]
   clear hSb
   refine tkg (i := 4) (v := .int .i64 ((p : Int) + 1)) rfl hS (fun hSb => ?_)
   simp only [pA,pB,pC,Act.put,pD,pE,pF]
   clear hS
   refine tkg (i := 5) (v := .slice (some ⟨b, 0, none⟩) (n - (p + 1)) (n - (p + 1))) rfl hSb (fun hS => ?_)
   simp only [pA,pB,pC,Act.put,pD,pE,pF]
   clear hSb
   refine till_one (i := 6) (by kernel_rfl) rfl (fun K hK => ?_)
   simp only [pA,pB,pC]
   rw [if_pos (by rfl)]
   refine wp_app3 (.tmp 22) (.tmp 25) (by rfl) (by rfl) (by rfl) (by rfl) HA ?_
   refine hK.out _ _ (trivial) (fun hSb => ?_)
   clear hK K
   try simp only [pA,pB,pC,Act.put,pD,pE,pF]
   clear hS
   refine tkg (i := 7) (v := .slice (some ⟨b, 0, none⟩) (n - 1) n) rfl hSb (fun hS => ?_)
   simp only [pA,pB,pC,Act.put,pD,pE,pF]
   clear hSb
   refine till_done (by kernel_rfl) ?_ _
   clear hS
   show (Exit.then _ _) .normal _ _
   go_wp2
   go_ret
   exact ⟨rfl, F.out⟩
set_option maxHeartbeats 8000000 in
theorem out_B {w : World} {lo hi : Nat} {a : Option Addr} {n : Nat} {X : List Bkx} (s : ByteArray) (hA : Hid (Rw w lo hi 65 EBk a n n X)) (hn : n <= 1048576) :
  Calls Tryz.prog 94 #[.slice a n n,.string s, .func (.func 50) #[] #[]] w fun e w' => ∃ n', e = .returned (.slice a n' n) /\ Hid (Rw w' lo hi 65 EBk a n' n (outX (byN s) Bkx.bk X) /\ Ch w w' (fun q => blkOf a = some q)) := by
 have LX : Hid (n = X.length) := hA.out.len
 obtain ⟨w1, Hw1⟩ := nm (w)
 have B1 : Hid (Below w.heap.size w w1) := by rw [<- Hw1.out]; exact Below.refl _ _
 have A1 : Hid (Rw w1 lo hi 65 EBk a n n X) := hA.out.below B1.out
 obtain ⟨p, Hp⟩ := nm (plcB (byN s) (X.map Bkx.bk))
 go_enter Tryz.func94, Tryz.ntmps94
 go_upto_region 1 with (fail)
 rw [Hw1.out]
 by_cases hb : isB (byN s) (X.map Bkx.bk) = true
 . have HS : Hid (isB (byN s) (X.map Bkx.bk) = true) := hb
   have pl : p < n := by rw [<- Hp.out, LX.out]; rw [<- List.length_map (f := Bkx.bk)]; exact isB_lt hb
   clear hb
   obtain ⟨b, rfl, _, _, _⟩ := A1.out.at_ (i := p) (by rw [<- LX.out]; exact pl)
   go_upto_region 4 with (go_at_call 49; refine (findB s A1 (by omega)).mono ?_; rintro e w2 ⟨rfl, H2⟩; rw [Hp.out, HS.out])
   have A2 : Hid (Rw w2 lo hi 65 EBk (some ⟨b, 0, none⟩) n n X) := A1.out.below H2.out
   go_wp2_with (go_at_call 117; refine (del_B A2 hn pl).mono ?_; rintro e w3 ⟨rfl, H3⟩)
   go_ret
   refine ⟨n - 1, rfl, ?_, ((Ch.below B1.out).trans (Ch.below H2.out)).trans (H3.out.2.weak (fun q _ h => by rw [h]; rfl))⟩
   unfold outX
   rw [if_pos HS.out, Hp.out]
   exact H3.out.1
 . have HS : Hid (isB (byN s) (X.map Bkx.bk) = false) := Bool.eq_false_iff.2 hb
   have HN : Hid (¬ isB (byN s) (X.map Bkx.bk) = true) := hb
   clear hb
   go_wp2_with (go_at_call 49; refine (findB s A1 (by omega)).mono ?_; rintro e w2 ⟨rfl, H2⟩; rw [Hp.out, HS.out])
   go_ret
   refine ⟨n, rfl, ?_, (Ch.below B1.out).trans (Ch.below H2.out)⟩
   unfold outX
   rw [if_neg HN.out]
   exact A1.out.below H2.out
set_option maxHeartbeats 8000000 in
theorem del_O {w : World} {lo hi b n p : Nat} {X : List Obx} (hA : Hid (Rw w lo hi 71 EOb (some ⟨b, 0, none⟩) n n X)) (hn : n <= 1048576) (hp : p < n) :
  Calls Tryz.prog 120 #[.slice (some ⟨b, 0, none⟩) n n,.int .i64 p,.int .i64 ((p : Int) + 1)] w fun e w' => e = .returned (.slice (some ⟨b, 0, none⟩) (n - 1) n) /\ Hid (Rw w' lo hi 71 EOb (some ⟨b, 0, none⟩) (n - 1) n (X.eraseIdx p) /\ Ch w w' (fun q => q = b)) := by
 obtain ⟨w1, w2, r1, r2, f1, f2⟩ := del_steps hA.out hp Tryz.underlying62 inf71 rfl (by kernel_rfl)
 have F : Hid (Rw w2 lo hi 71 EOb (some ⟨b, 0, none⟩) (n - 1) n (X.eraseIdx p) /\ Ch w w2 (fun q => q = b)) := ⟨f1, f2⟩
 clear f1 f2
 have i1 : (p : Int) < (n : Int) := by omega
 have i2 : p + 1 <= n := by omega
 have i3 : (0 : Int) <= (p : Int) + 1 := by omega
 have i4 : ¬ ((p : Int) = (p : Int) + 1) := by omega
 have i5 : n - 1 <= n := by omega
 have i6 : ¬ (n = n - 1) := by omega
 have i7 : p <= n := by omega
 have i8 : ¬ ((n : Int) < (p : Int) + 1) := by omega
 have i11 : (p : Int) + 1 <= (n : Int) := by omega
 have wq : IntKind.i64.wrap ((p : Int) + 1) = (p : Int) + 1 := by rw [IntKind.wrap_i64]; omega
 go_enter Tryz.func120, Tryz.ntmps120
 by_cases hl : p + 1 < n
 . skip
   have HA : Hid ((Builtin.append_ #[62, 62] 62 #[.slice (some ⟨b, 0, none⟩) p n,.slice (some ⟨b, (p + 1) * 5, none⟩) (n - (p + 1)) (n - (p + 1))]).run Tryz.prog w.drew = .ok (.slice (some ⟨b, 0, none⟩) (n - 1) n) w1) := by
    have h9 := r1 ⟨b, (p + 1) * 5, none⟩ (n - (p + 1)) (fun _ => rfl)
    exact h9
   have cl : (Builtin.clear_ #[62] 0 #[.slice (some ⟨b, (n - 1) * 5, none⟩) (n - (n - 1)) (n - (n - 1))]).run Tryz.prog w1 = .ok (.tuple #[]) w2 := by rw [show n - (n - 1) = 1 by omega]; exact r2 0 1
   have i9 : ¬ (n = p + 1) := by omega
   go_upto_region 5 with (fail)
   refine wp_region_till (S := fun L W => True) (by kernel_rfl) trivial (fun hS => ?_)
   refine tkg (i := 0) (v := .slice (some ⟨b, 0, none⟩) n n) rfl hS (fun hSb => ?_)
   simp only [pA,pB,pC,Act.put,pD,pE,pF]
   clear hS
   refine tkg (i := 1) (v := .int .i64 (p : Int)) rfl hSb (fun hS => ?_)
   simp only [pA,pB,pC,Act.put,pD,pE,pF]
   clear hSb
   refine tkg (i := 2) (v := .slice (some ⟨b, 0, none⟩) p n) rfl hS (fun hSb => ?_)
   simp only [pA,pB,pC,Act.put,pD,pE,pF]
   clear hS
   refine tkg (i := 3) (v := .slice (some ⟨b, 0, none⟩) n n) rfl hSb (fun hS => ?_)
   simp only [pA,pB,pC,Act.put,pD,pE,pF]
   clear hSb
   refine tkg (i := 4) (v := .int .i64 ((p : Int) + 1)) rfl hS (fun hSb => ?_)
   simp only [pA,pB,pC,Act.put,pD,pE,pF]
   clear hS
   refine tkg (i := 5) (v := .slice (some ⟨b, (p + 1) * 5, none⟩) (n - (p + 1)) (n - (p + 1))) rfl hSb (fun hS => ?_)
   simp only [pA,pB,pC,Act.put,pD,pE,pF]
   clear hSb
   refine till_one (i := 6) (by kernel_rfl) rfl (fun K hK => ?_)
   simp only [pA,pB,pC]
   rw [if_pos (by rfl)]
   refine wp_app3 (.tmp 22) (.tmp 25) (by rfl) (by rfl) (by rfl) (by rfl) HA ?_
   refine hK.out _ _ (trivial) (fun hSb => ?_)
   clear hK K
   try simp only [pA,pB,pC,Act.put,pD,pE,pF]
   clear hS
   refine tkg (i := 7) (v := .slice (some ⟨b, 0, none⟩) (n - 1) n) rfl hSb (fun hS => ?_)
   simp only [pA,pB,pC,Act.put,pD,pE,pF]
   clear hSb
   refine till_done (by kernel_rfl) ?_ _
   clear hS
   show (Exit.then _ _) .normal _ _
   go_wp2
   go_ret
   exact ⟨rfl, F.out⟩
 . skip
   have HA : Hid ((Builtin.append_ #[62, 62] 62 #[.slice (some ⟨b, 0, none⟩) p n,.slice (some ⟨b, 0, none⟩) (n - (p + 1)) (n - (p + 1))]).run Tryz.prog w.drew = .ok (.slice (some ⟨b, 0, none⟩) (n - 1) n) w1) := by
    have h9 := r1 ⟨b, 0, none⟩ (n - (p + 1)) (fun h => by omega)
    exact h9
   have cl : (Builtin.clear_ #[62] 0 #[.slice (some ⟨b, (n - 1) * 5, none⟩) (n - (n - 1)) (n - (n - 1))]).run Tryz.prog w1 = .ok (.tuple #[]) w2 := by rw [show n - (n - 1) = 1 by omega]; exact r2 0 1
   have i9 : (n = p + 1) = True := eq_true (by omega)
   go_upto_region 5 with (fail)
   refine wp_region_till (S := fun L W => True) (by kernel_rfl) trivial (fun hS => ?_)
   refine tkg (i := 0) (v := .slice (some ⟨b, 0, none⟩) n n) rfl hS (fun hSb => ?_)
   simp only [pA,pB,pC,Act.put,pD,pE,pF]
   clear hS
   refine tkg (i := 1) (v := .int .i64 (p : Int)) rfl hSb (fun hS => ?_)
   simp only [pA,pB,pC,Act.put,pD,pE,pF]
   clear hSb
   refine tkg (i := 2) (v := .slice (some ⟨b, 0, none⟩) p n) rfl hS (fun hSb => ?_)
   simp only [pA,pB,pC,Act.put,pD,pE,pF]
   clear hS
   refine tkg (i := 3) (v := .slice (some ⟨b, 0, none⟩) n n) rfl hSb (fun hS => ?_)
   simp only [pA,pB,pC,Act.put,pD,pE,pF]
   clear hSb
   refine tkg (i := 4) (v := .int .i64 ((p : Int) + 1)) rfl hS (fun hSb => ?_)
   simp only [pA,pB,pC,Act.put,pD,pE,pF]
   clear hS
   refine tkg (i := 5) (v := .slice (some ⟨b, 0, none⟩) (n - (p + 1)) (n - (p + 1))) rfl hSb (fun hS => ?_)
   simp only [pA,pB,pC,Act.put,pD,pE,pF]
   clear hSb
   refine till_one (i := 6) (by kernel_rfl) rfl (fun K hK => ?_)
   simp only [pA,pB,pC]
   rw [if_pos (by rfl)]
   refine wp_app3 (.tmp 22) (.tmp 25) (by rfl) (by rfl) (by rfl) (by rfl) HA ?_
   refine hK.out _ _ (trivial) (fun hSb => ?_)
   clear hK K
   try simp only [pA,pB,pC,Act.put,pD,pE,pF]
   clear hS
   refine tkg (i := 7) (v := .slice (some ⟨b, 0, none⟩) (n - 1) n) rfl hSb (fun hS => ?_)
   simp only [pA,pB,pC,Act.put,pD,pE,pF]
   clear hSb
   refine till_done (by kernel_rfl) ?_ _
   clear hS
   show (Exit.then _ _) .normal _ _
   go_wp2
   go_ret
   exact ⟨rfl, F.out⟩
set_option maxHeartbeats 8000000 in
theorem out_O {w : World} {lo hi : Nat} {a : Option Addr} {n : Nat} {X : List Obx} (s : ByteArray) (hA : Hid (Rw w lo hi 71 EOb a n n X)) (hn : n <= 1048576) :
  Calls Tryz.prog 99 #[.slice a n n,.string s, .func (.func 53) #[] #[]] w fun e w' => ∃ n', e = .returned (.slice a n' n) /\ Hid (Rw w' lo hi 71 EOb a n' n (outX (byK s) Obx.ob X) /\ Ch w w' (fun q => blkOf a = some q)) := by
 have LX : Hid (n = X.length) := hA.out.len
 obtain ⟨w1, Hw1⟩ := nm (w)
 have B1 : Hid (Below w.heap.size w w1) := by rw [<- Hw1.out]; exact Below.refl _ _
 have A1 : Hid (Rw w1 lo hi 71 EOb a n n X) := hA.out.below B1.out
 obtain ⟨p, Hp⟩ := nm (plcB (byK s) (X.map Obx.ob))
 go_enter Tryz.func99, Tryz.ntmps99
 go_upto_region 1 with (fail)
 rw [Hw1.out]
 by_cases hb : isB (byK s) (X.map Obx.ob) = true
 . have HS : Hid (isB (byK s) (X.map Obx.ob) = true) := hb
   have pl : p < n := by rw [<- Hp.out, LX.out]; rw [<- List.length_map (f := Obx.ob)]; exact isB_lt hb
   clear hb
   obtain ⟨b, rfl, _, _, _⟩ := A1.out.at_ (i := p) (by rw [<- LX.out]; exact pl)
   go_upto_region 4 with (go_at_call 52; refine (findO s A1 (by omega)).mono ?_; rintro e w2 ⟨rfl, H2⟩; rw [Hp.out, HS.out])
   have A2 : Hid (Rw w2 lo hi 71 EOb (some ⟨b, 0, none⟩) n n X) := A1.out.below H2.out
   go_wp2_with (go_at_call 120; refine (del_O A2 hn pl).mono ?_; rintro e w3 ⟨rfl, H3⟩)
   go_ret
   refine ⟨n - 1, rfl, ?_, ((Ch.below B1.out).trans (Ch.below H2.out)).trans (H3.out.2.weak (fun q _ h => by rw [h]; rfl))⟩
   unfold outX
   rw [if_pos HS.out, Hp.out]
   exact H3.out.1
 . have HS : Hid (isB (byK s) (X.map Obx.ob) = false) := Bool.eq_false_iff.2 hb
   have HN : Hid (¬ isB (byK s) (X.map Obx.ob) = true) := hb
   clear hb
   go_wp2_with (go_at_call 52; refine (findO s A1 (by omega)).mono ?_; rintro e w2 ⟨rfl, H2⟩; rw [Hp.out, HS.out])
   go_ret
   refine ⟨n, rfl, ?_, (Ch.below B1.out).trans (Ch.below H2.out)⟩
   unfold outX
   rw [if_neg HN.out]
   exact A1.out.below H2.out
set_option maxHeartbeats 8000000 in
theorem del_U {w : World} {lo hi b n p : Nat} {X : List Ulx} (hA : Hid (Rw w lo hi 77 EUl (some ⟨b, 0, none⟩) n n X)) (hn : n <= 1048576) (hp : p < n) :
  Calls Tryz.prog 130 #[.slice (some ⟨b, 0, none⟩) n n,.int .i64 p,.int .i64 ((p : Int) + 1)] w fun e w' => e = .returned (.slice (some ⟨b, 0, none⟩) (n - 1) n) /\ Hid (Rw w' lo hi 77 EUl (some ⟨b, 0, none⟩) (n - 1) n (X.eraseIdx p) /\ Ch w w' (fun q => q = b)) := by
 obtain ⟨w1, w2, r1, r2, f1, f2⟩ := del_steps hA.out hp Tryz.underlying63 inf77 rfl (by kernel_rfl)
 have F : Hid (Rw w2 lo hi 77 EUl (some ⟨b, 0, none⟩) (n - 1) n (X.eraseIdx p) /\ Ch w w2 (fun q => q = b)) := ⟨f1, f2⟩
 clear f1 f2
 have i1 : (p : Int) < (n : Int) := by omega
 have i2 : p + 1 <= n := by omega
 have i3 : (0 : Int) <= (p : Int) + 1 := by omega
 have i4 : ¬ ((p : Int) = (p : Int) + 1) := by omega
 have i5 : n - 1 <= n := by omega
 have i6 : ¬ (n = n - 1) := by omega
 have i7 : p <= n := by omega
 have i8 : ¬ ((n : Int) < (p : Int) + 1) := by omega
 have i11 : (p : Int) + 1 <= (n : Int) := by omega
 have wq : IntKind.i64.wrap ((p : Int) + 1) = (p : Int) + 1 := by rw [IntKind.wrap_i64]; omega
 go_enter Tryz.func130, Tryz.ntmps130
 by_cases hl : p + 1 < n
 . skip
   have HA : Hid ((Builtin.append_ #[63, 63] 63 #[.slice (some ⟨b, 0, none⟩) p n,.slice (some ⟨b, (p + 1) * 5, none⟩) (n - (p + 1)) (n - (p + 1))]).run Tryz.prog w.drew = .ok (.slice (some ⟨b, 0, none⟩) (n - 1) n) w1) := by
    have h9 := r1 ⟨b, (p + 1) * 5, none⟩ (n - (p + 1)) (fun _ => rfl)
    exact h9
   have cl : (Builtin.clear_ #[63] 0 #[.slice (some ⟨b, (n - 1) * 5, none⟩) (n - (n - 1)) (n - (n - 1))]).run Tryz.prog w1 = .ok (.tuple #[]) w2 := by rw [show n - (n - 1) = 1 by omega]; exact r2 0 1
   have i9 : ¬ (n = p + 1) := by omega
   go_upto_region 5 with (fail)
   refine wp_region_till (S := fun L W => True) (by kernel_rfl) trivial (fun hS => ?_)
   refine tkg (i := 0) (v := .slice (some ⟨b, 0, none⟩) n n) rfl hS (fun hSb => ?_)
   simp only [pA,pB,pC,Act.put,pD,pE,pF]
   clear hS
   refine tkg (i := 1) (v := .int .i64 (p : Int)) rfl hSb (fun hS => ?_)
   simp only [pA,pB,pC,Act.put,pD,pE,pF]
   clear hSb
   refine tkg (i := 2) (v := .slice (some ⟨b, 0, none⟩) p n) rfl hS (fun hSb => ?_)
   simp only [pA,pB,pC,Act.put,pD,pE,pF]
   clear hS
   refine tkg (i := 3) (v := .slice (some ⟨b, 0, none⟩) n n) rfl hSb (fun hS => ?_)
   simp only [pA,pB,pC,Act.put,pD,pE,pF]
   clear hSb
   refine tkg (i := 4) (v := .int .i64 ((p : Int) + 1)) rfl hS (fun hSb => ?_)
   simp only [pA,pB,pC,Act.put,pD,pE,pF]
   clear hS
   refine tkg (i := 5) (v := .slice (some ⟨b, (p + 1) * 5, none⟩) (n - (p + 1)) (n - (p + 1))) rfl hSb (fun hS => ?_)
   simp only [pA,pB,pC,Act.put,pD,pE,pF]
   clear hSb
   refine till_one (i := 6) (by kernel_rfl) rfl (fun K hK => ?_)
   simp only [pA,pB,pC]
   rw [if_pos (by rfl)]
   refine wp_app3 (.tmp 22) (.tmp 25) (by rfl) (by rfl) (by rfl) (by rfl) HA ?_
   refine hK.out _ _ (trivial) (fun hSb => ?_)
   clear hK K
   try simp only [pA,pB,pC,Act.put,pD,pE,pF]
   clear hS
   refine tkg (i := 7) (v := .slice (some ⟨b, 0, none⟩) (n - 1) n) rfl hSb (fun hS => ?_)
   simp only [pA,pB,pC,Act.put,pD,pE,pF]
   clear hSb
   refine till_done (by kernel_rfl) ?_ _
   clear hS
   show (Exit.then _ _) .normal _ _
   go_wp2
   go_ret
   exact ⟨rfl, F.out⟩
 . skip
   have HA : Hid ((Builtin.append_ #[63, 63] 63 #[.slice (some ⟨b, 0, none⟩) p n,.slice (some ⟨b, 0, none⟩) (n - (p + 1)) (n - (p + 1))]).run Tryz.prog w.drew = .ok (.slice (some ⟨b, 0, none⟩) (n - 1) n) w1) := by
    have h9 := r1 ⟨b, 0, none⟩ (n - (p + 1)) (fun h => by omega)
    exact h9
   have cl : (Builtin.clear_ #[63] 0 #[.slice (some ⟨b, (n - 1) * 5, none⟩) (n - (n - 1)) (n - (n - 1))]).run Tryz.prog w1 = .ok (.tuple #[]) w2 := by rw [show n - (n - 1) = 1 by omega]; exact r2 0 1
   have i9 : (n = p + 1) = True := eq_true (by omega)
   go_upto_region 5 with (fail)
   refine wp_region_till (S := fun L W => True) (by kernel_rfl) trivial (fun hS => ?_)
   refine tkg (i := 0) (v := .slice (some ⟨b, 0, none⟩) n n) rfl hS (fun hSb => ?_)
   simp only [pA,pB,pC,Act.put,pD,pE,pF]
   clear hS
   refine tkg (i := 1) (v := .int .i64 (p : Int)) rfl hSb (fun hS => ?_)
   simp only [pA,pB,pC,Act.put,pD,pE,pF]
   clear hSb
   refine tkg (i := 2) (v := .slice (some ⟨b, 0, none⟩) p n) rfl hS (fun hSb => ?_)
   simp only [pA,pB,pC,Act.put,pD,pE,pF]
   clear hS
   refine tkg (i := 3) (v := .slice (some ⟨b, 0, none⟩) n n) rfl hSb (fun hS => ?_)
   simp only [pA,pB,pC,Act.put,pD,pE,pF]
   clear hSb
   refine tkg (i := 4) (v := .int .i64 ((p : Int) + 1)) rfl hS (fun hSb => ?_)
   simp only [pA,pB,pC,Act.put,pD,pE,pF]
   clear hS
   refine tkg (i := 5) (v := .slice (some ⟨b, 0, none⟩) (n - (p + 1)) (n - (p + 1))) rfl hSb (fun hS => ?_)
   simp only [pA,pB,pC,Act.put,pD,pE,pF]
   clear hSb
   refine till_one (i := 6) (by kernel_rfl) rfl (fun K hK => ?_)
   simp only [pA,pB,pC]
   rw [if_pos (by rfl)]
   refine wp_app3 (.tmp 22) (.tmp 25) (by rfl) (by rfl) (by rfl) (by rfl) HA ?_
   refine hK.out _ _ (trivial) (fun hSb => ?_)
   clear hK K
   try simp only [pA,pB,pC,Act.put,pD,pE,pF]
   clear hS
   refine tkg (i := 7) (v := .slice (some ⟨b, 0, none⟩) (n - 1) n) rfl hSb (fun hS => ?_)
   simp only [pA,pB,pC,Act.put,pD,pE,pF]
   clear hSb
   refine till_done (by kernel_rfl) ?_ _
   clear hS
   show (Exit.then _ _) .normal _ _
   go_wp2
   go_ret
   exact ⟨rfl, F.out⟩
structure Ex (W : World) (gb gx bb off : Nat) (dy tm : Int) : Prop where
 b : ∃ cs, W.heap[gb]? = some (.cells cs 131 (0, 0)) /\ cs[0]? = some (.pointer (some ⟨bb, off, none⟩))
 d : ∃ cs, W.heap[bb]? = some (.cells cs 65 (0, 0)) /\ cs[off + 2]? = some (.int .i64 dy)
 x : ∃ cs, W.heap[gx]? = some (.cells cs 29 (0, 0)) /\ cs[16]? = some (.int .i64 tm)
theorem Ex.ch {W W' : World} {gb gx bb off : Nat} {dy tm : Int} {S : Nat -> Prop} (h : Ex W gb gx bb off dy tm) (hc : Ch W W' S) (hS : ∀ q, S q -> ∃ cs, W.heap[q]? = some (.cells cs 71 (0, 0))) : Ex W' gb gx bb off dy tm := by
 obtain ⟨c1, h1, k1⟩ := h.b
 obtain ⟨c2, h2, k2⟩ := h.d
 obtain ⟨c3, h3, k3⟩ := h.x
 have ne : ∀ (q : Nat) (cs : Array Value) (t : TypeId), t ≠ 71 -> W.heap[q]? = some (.cells cs t (0, 0)) -> W'.heap[q]? = some (.cells cs t (0, 0)) := fun q cs t ht hq => by
  refine (hc.block q (gl hq) (fun hs => ?_)).trans hq
  obtain ⟨c4, h4⟩ := hS q hs
  rw [hq] at h4
  cases h4
  exact ht rfl
 exact ⟨⟨c1, ne _ _ _ (by decide) h1, k1⟩, ⟨c2, ne _ _ _ (by decide) h2, k2⟩, ⟨c3, ne _ _ _ (by decide) h3, k3⟩⟩
theorem Ex.below {W W' : World} {gb gx bb off : Nat} {dy tm : Int} (h : Ex W gb gx bb off dy tm) (hb : Below W.heap.size W W') : Ex W' gb gx bb off dy tm := h.ch (S := fun _ => False) (Ch.below hb) (fun _ h => h.elim)
def gonO (dy tm : Int) (o : Obd) : Bool := decide (IntKind.i64.wrap (o.time + dy) <= tm)
set_option maxHeartbeats 2000000 in
theorem pred108 {w : World} {A : Array Value} {x : Obx} {gb gx bb off : Nat} {dy tm : Int} (hA : Hid (A = (EOb.e x).toArray)) (hE : Hid (Ex w gb gx bb off dy tm)) :
  Calls Tryz.prog 108 #[.agg A, .pointer (some ⟨gb, 0, none⟩), .pointer (some ⟨gx, 0, none⟩)] w fun e w' => e = .returned (.bool (gonO dy tm x.ob)) /\ Hid (Below w.heap.size w w') := by
 obtain ⟨w1, Hw1⟩ := nm (w.alloc (.cells A 71))
 obtain ⟨g, Hg⟩ := nm (w.heap.size)
 have B1 : Hid (Below w.heap.size w w1) := by rw [<- Hw1.out]; exact alloc1 w _
 have k1 : Hid (w1.heap[g]? = some (.cells A 71 (0, 0))) := by rw [<- Hw1.out, <- Hg.out]; exact heap_alloc_new w _
 have E1 := hE.out.below B1.out
 obtain ⟨c1, h1, m1⟩ := E1.b
 obtain ⟨c2, h2, m2⟩ := E1.d
 obtain ⟨c3, h3, m3⟩ := E1.x
 have q0 : ∀ j, (w1.drewN j).cell? ⟨g, 3, none⟩ = some (.int .i64 x.ob.time) := fun j => cell_arr (W := w1) k1.out (by rw [hA.out]; rfl)
 have q1 : ∀ j, (w1.drewN j).cell? ⟨gb, 0, none⟩ = some (.pointer (some ⟨bb, off, none⟩)) := fun j => cell_arr (W := w1) h1 m1
 have q2 : ∀ j, (w1.drewN j).cell? ⟨bb, off + 2, none⟩ = some (.int .i64 dy) := fun j => cell_arr (W := w1) h2 m2
 have q3 : ∀ j, (w1.drewN j).cell? ⟨gx, 16, none⟩ = some (.int .i64 tm) := fun j => cell_arr (W := w1) h3 m3
 clear E1 h1 h2 h3 m1 m2 m3
 obtain ⟨v, Hv⟩ := nm (IntKind.i64.wrap (x.ob.time + dy))
 have HG : Hid (gonO dy tm x.ob = decide (v <= tm)) := by show _ = _; unfold gonO; rw [Hv.out]
 go_enter Tryz.func108, Tryz.ntmps108
 go_upto_region 1 with (fail)
 rw [Hw1.out, Hg.out]
 clear Hw1
 have wv := Hv.out
 go_quiet (fail)
 go_wp2
 go_ret
 exact ⟨by rw [HG.out]; rfl, below_drewN B1.out _⟩
def gix (dy tm : Int) (l : List Obd) : Nat := l.findIdx (gonO dy tm)
def Ixd (dy tm : Int) (X : List Obx) (n : Nat) (v : Int) : Prop := (∃ t : Nat, v = (t : Int) /\ t < n /\ (∀ s y, s < t -> (X.map Obx.ob)[s]? = some y -> gonO dy tm y = false) /\ ∃ y, (X.map Obx.ob)[t]? = some y /\ gonO dy tm y = true) ∨ (v = -1 /\ ∀ (s : Nat) y, (X.map Obx.ob)[s]? = some y -> gonO dy tm y = false)
set_option maxHeartbeats 4000000 in
theorem index131 {w : World} {lo hi : Nat} {a : Option Addr} {n c : Nat} {X : List Obx} {gb gx bb off : Nat} {dy tm : Int} (hA : Hid (Rw w lo hi 71 EOb a n c X)) (hn : n <= 1048576) (hE : Hid (Ex w gb gx bb off dy tm)) :
  Calls Tryz.prog 131 #[.slice a n c, .func (.func 108) #[] #[.pointer (some ⟨gb, 0, none⟩), .pointer (some ⟨gx, 0, none⟩)]] w fun e w' => ∃ v, e = .returned (.int .i64 v) /\ Hid (Ixd dy tm X n v /\ Below w.heap.size w w') := by
 have LX : Hid (n = X.length) := hA.out.len
 go_enter Tryz.func131, Tryz.ntmps131
 go_wp2
 go_loopw [8] (fun ti wr => ∃ t : Nat, t <= n /\ ti = .int .i64 t /\ Hid (∀ s y, s < t -> (X.map Obx.ob)[s]? = some y -> gonO dy tm y = false) /\ Hid (Below w.heap.size w wr)) (fun ti _ => n - (intOf ti).toNat)
 case atStart => exact ⟨0, by omega, rfl, fun s y hs => by omega, Below.refl _ _⟩
 case round =>
  obtain ⟨t, ht, rfl, HK, HB⟩ := hrel
  by_cases hlt : t < n
  . have i3 : (t : Int) < (n : Int) := by omega
    have kx : t < X.length := by rw [<- LX.out]; exact hlt
    obtain ⟨b1, rfl, _, _, e1⟩ := (hA.out.below HB.out).at_ kx
    obtain ⟨x, Hx⟩ := nm (X[t])
    rw [Hx.out] at e1
    have EX : Hid ((X.map Obx.ob)[t]? = some x.ob) := by show _ = _; rw [<- Hx.out]; simp [kx]
    obtain ⟨A, HA⟩ : ∃ A, Hid (A = (EOb.e x).toArray) := ⟨_, rfl⟩
    have E1 : Hid (wr.rangeAt b1 (t * 5) (EOb.e x)) := e1
    have G1 : Hid (Ex wr gb gx bb off dy tm) := hE.out.below HB.out
    clear e1
    by_cases hh : gonO dy tm x.ob = true
    . have Hr : Hid (gonO dy tm x.ob = true) := hh
      clear hh
      go_wp2_with (first
       | (refine wpList_load_mid (by rfl) 71 (.tmp 14) (by rfl) b1 (t * 5) (by rfl) (EOb.e x) _ E1.out Tryz.underlying71 rfl (by rw [EOb.len]; exact inz71) ?_; rw [<- HA.out])
       | (go_at_call 108; refine (pred108 HA G1).mono ?_; rintro e w4 ⟨rfl, H4⟩; rw [Hr.out]))
      go_ret
      exact ⟨(t : Int), rfl, .inl ⟨t, rfl, hlt, HK.out, _, EX.out, Hr.out⟩, HB.out.trans (H4.out.mono HB.out.size)⟩
    . have Hr : Hid (gonO dy tm x.ob = false) := Bool.eq_false_iff.2 hh
      have NX : Hid (∀ s y, s < t + 1 -> (X.map Obx.ob)[s]? = some y -> gonO dy tm y = false) := fun s y hs hy => by
       by_cases hst : s = t
       . subst hst
         rw [EX.out] at hy
         cases hy
         exact Hr.out
       . exact HK.out s y (by omega) hy
      clear hh
      go_wp2_with (first
       | (refine wpList_load_mid (by rfl) 71 (.tmp 14) (by rfl) b1 (t * 5) (by rfl) (EOb.e x) _ E1.out Tryz.underlying71 rfl (by rw [EOb.len]; exact inz71) ?_; rw [<- HA.out])
       | (go_at_call 108; refine (pred108 HA G1).mono ?_; rintro e w4 ⟨rfl, H4⟩; rw [Hr.out]))
      go_roundw
      case rel => exact ⟨t + 1, by omega, by go_num, NX.out, HB.out.trans (H4.out.mono HB.out.size)⟩
      case measure => simp [intOf]; omega
  . have ein : t = n := by omega
    have HK2 : Hid (∀ (s : Nat) y, (X.map Obx.ob)[s]? = some y -> gonO dy tm y = false) := fun s y hy => HK.out s y (by have h2 := (List.getElem?_eq_some_iff.1 hy).1; rw [List.length_map] at h2; have := LX.out; omega) hy
    subst ein
    go_wp2
    go_ret
    exact ⟨-1, rfl, .inr ⟨rfl, HK2.out⟩, HB.out⟩
structure Dl (W : World) (lo hi b n : Nat) (dy tm : Int) (X : List Obx) (i j : Nat) : Prop where
 r : ∃ L, Rw W lo hi 71 EOb (some ⟨b, 0, none⟩) n n L /\ L.take i = (X.take j).filter (fun o => !gonO dy tm o.ob) /\ L.drop j = X.drop j
 h : i < j /\ j <= n
theorem all_kept {dy tm : Int} {X : List Obx} {t : Nat} (hb : ∀ s y, s < t -> (X.map Obx.ob)[s]? = some y -> gonO dy tm y = false) : (X.take t).filter (fun o => !gonO dy tm o.ob) = X.take t := by
 rw [List.filter_eq_self]
 intro o ho
 obtain ⟨s, hs, rfl⟩ := List.getElem_of_mem ho
 rw [List.length_take] at hs
 have := hb s (X[s]'(by omega)).ob (by omega) (by simp [show s < X.length by omega])
 simp [List.getElem_take, this]
theorem Dl.start {W : World} {lo hi b n : Nat} {dy tm : Int} {X : List Obx} {t : Nat} (hA : Rw W lo hi 71 EOb (some ⟨b, 0, none⟩) n n X) (ht : t < n) (hb : ∀ s y, s < t -> (X.map Obx.ob)[s]? = some y -> gonO dy tm y = false) (hx : ∃ y, (X.map Obx.ob)[t]? = some y /\ gonO dy tm y = true) : Dl W lo hi b n dy tm X t (t + 1) := by
 refine ⟨⟨X, hA, ?_, rfl⟩, by omega⟩
 have hl := hA.len
 have kx : t < X.length := by omega
 rw [List.take_add_one, List.getElem?_eq_getElem kx, List.filter_append, all_kept hb]
 obtain ⟨y, h1, h2⟩ := hx
 simp [kx] at h1
 subst h1
 simp [h2]
theorem Dl.skip {W W' : World} {lo hi b n : Nat} {dy tm : Int} {X : List Obx} {i j : Nat} {x : Obx} (h : Dl W lo hi b n dy tm X i j) (hb : Below W.heap.size W W') (hx : X[j]? = some x) (hg : gonO dy tm x.ob = true) : Dl W' lo hi b n dy tm X i (j + 1) := by
 obtain ⟨L, h1, h2, h3⟩ := h.r
 have hj := (List.getElem?_eq_some_iff.1 hx).1
 have e : X.drop (j + 1) = (X.drop j).drop 1 := by rw [List.drop_drop]
 have e2 : L.drop (j + 1) = (L.drop j).drop 1 := by rw [List.drop_drop]
 refine ⟨⟨L, h1.below hb, ?_, by rw [e, e2, h3]⟩, by have := h.h; omega, ?_⟩
 . rw [h2, List.take_add_one, hx, List.filter_append]
   simp [hg]
 . have hl := h1.len
   have h4 := congrArg List.length h3
   simp only [List.length_drop] at h4
   have := h.h
   omega
theorem Dl.keep {W W' : World} {lo hi b n : Nat} {dy tm : Int} {X : List Obx} {i j : Nat} {x : Obx} (h : Dl W lo hi b n dy tm X i j) (hb : Below W.heap.size W W') (hx : X[j]? = some x) (hg : gonO dy tm x.ob = false) (hjn : j < n) : Dl (W'.setCells b (i * 5) (EOb.e x)) lo hi b n dy tm X (i + 1) (j + 1) := by
 obtain ⟨L, h1, h2, h3⟩ := h.r
 have hij := h.h
 have hj := (List.getElem?_eq_some_iff.1 hx).1
 have hl := h1.len
 have e : X.drop (j + 1) = (X.drop j).drop 1 := by rw [List.drop_drop]
 have e2 : L.drop (j + 1) = (L.drop j).drop 1 := by rw [List.drop_drop]
 refine ⟨⟨L.set i x, (h1.below hb).setAt (by omega) x, ?_, ?_⟩, by omega, by omega⟩
 . have er : (X.take (j + 1)).filter (fun o => !gonO dy tm o.ob) = (X.take j).filter (fun o => !gonO dy tm o.ob) ++ [x] := by rw [List.take_add_one, hx, List.filter_append]; simp [hg]
   rw [er, <- h2, List.take_add_one, List.take_set_of_le (Nat.le_refl _), List.getElem?_set_self (by omega)]
   rfl
 . rw [List.drop_set_of_lt (by omega), e, e2, h3]
theorem Dl.load {W : World} {lo hi b n : Nat} {dy tm : Int} {X : List Obx} {i j : Nat} {x : Obx} (h : Dl W lo hi b n dy tm X i j) (hx : X[j]? = some x) (hjn : j < n) : W.rangeAt b (j * 5) (EOb.e x) := by
 obtain ⟨L, h1, h2, h3⟩ := h.r
 have hl := h1.len
 have hlj : j < L.length := by omega
 obtain ⟨g, e, _, _, hr⟩ := h1.at_ hlj
 cases e
 have e2 : L[j]? = X[j]? := by
  have := congrArg (fun l => l[0]?) h3
  simpa [List.getElem?_drop] using this
 rw [hx, List.getElem?_eq_getElem hlj] at e2
 cases e2
 exact hr
theorem Rw.clr {α : Type} {E : Enc α} {w : World} {lo hi : Nat} {t s : TypeId} {b n i : Nat} {l : List α} {Z : Value} {B : Nat} (h : Rw w lo hi t E (some ⟨b, 0, none⟩) n n l) (hi' : i < n) (hu : Tryz.prog.underlying s = some (.slice t)) (hinf : (Tryz.prog.info? t).map (fun i => (i.zero, i.size, i.bytes)) = some (some Z, E.z, B)) (hZ : Z.cells.size = E.z) (hZ1 : Z.cells.all (·.oneCell') = true) :
  ∃ w', (∀ ty cC, (Builtin.clear_ #[s] ty #[.slice (some ⟨b, i * E.z, none⟩) (n - i) cC]).run Tryz.prog w = .ok (.tuple #[]) w') /\ Rw w' lo hi t E (some ⟨b, 0, none⟩) i n (l.take i) /\ Ch w w' (fun q => q = b) := by
 have hl := h.len
 obtain ⟨inf, hi1, hz0, hz1, hz2⟩ := info_parts hinf
 rcases h.row with ⟨h0, ⟨h1, _⟩ | ⟨q, cap, cur, h1, h2, h3, h4, h5, h6, h7⟩⟩
 . cases h1
 . cases h1
   have lei : i * E.z <= n * E.z := Nat.mul_le_mul_right _ (by omega)
   have ze : i * E.z + (n - i) * E.z = n * E.z := by rw [<- Nat.add_mul]; congr 1; omega
   have zl : (Builtin.zeroCells Z.cells (n - i)).toList.length = (n - i) * E.z := by rw [Array.length_toList, zeros_size, hZ]
   have zo : ∀ v ∈ (Builtin.zeroCells Z.cells (n - i)).toList, v.oneCell' = true := fun v hv => by
    have hv2 := Array.mem_toList_iff.1 hv
    obtain ⟨k, hk, rfl⟩ := Array.getElem_of_mem hv2
    rw [zeros_size, hZ] at hk
    have hzp := h.pos
    simp only [Builtin.zeroCells, Array.getElem_map, Array.getElem_range]
    have hm : k % Z.cells.size < Z.cells.size := Nat.mod_lt _ (by rw [hZ]; exact hzp)
    rw [getElem!_pos Z.cells _ hm]
    exact Array.all_eq_true.1 hZ1 _ hm
   have hst := run_storeCells_at Tryz.prog b (i * E.z) t (Builtin.zeroCells Z.cells (n - i)).toList 0 cur w h3 (by rw [zl, h6]; omega) zo
   have nz : ¬ (n - i = 0) := by omega
   obtain ⟨m, hm⟩ : ∃ m, n - i = m + 1 := ⟨n - i - 1, by omega⟩
   refine ⟨w.setRow b (cur.toList.take (i * E.z + 0) ++ (Builtin.zeroCells Z.cells (n - i)).toList ++ cur.toList.drop (i * E.z + 0 + (Builtin.zeroCells Z.cells (n - i)).toList.length)).toArray, fun ty cC => ?_, ?_, ⟨rfl, rfl, rfl, by rw [setRow_size]; exact Nat.le_refl _, fun k hk hn => setRow_other _ _ _ _ hn⟩⟩
   . rw [hm] at hst ⊢
     simp [Builtin.clear_, run_underlying hu, zeroValue, typeInfo, hi1, hz0, hst]
   . refine ⟨⟨by rw [E.fl_len, List.length_take, Nat.min_eq_left (by omega)], .inr ⟨b, n, _, rfl, h2, setRow_heap _ _ _ _ _ _ h3, by omega, h5, ?_, ?_⟩⟩, h.top, h.pos⟩
     . simp only [Nat.add_zero, List.size_toArray, List.length_append, List.length_take, List.length_drop, Array.length_toList, h6]
       rw [<- Array.length_toList, zl, Nat.min_eq_left (by omega)]
       omega
     . rw [Nat.add_zero, E.fl_take, <- h7, List.take_take, Nat.min_eq_left lei]
       show ((cur.toList.take (i * E.z) ++ _ ++ _) : List Value).take (i * E.z) = _
       rw [List.append_assoc, List.take_left' (by rw [List.length_take, Array.length_toList, h6, Nat.min_eq_left (by omega)])]
set_option maxHeartbeats 8000000 in
theorem delf {w : World} {lo hi : Nat} {a : Option Addr} {n : Nat} {X : List Obx} {gb gx bb off : Nat} {dy tm : Int} (hA : Hid (Rw w lo hi 71 EOb a n n X)) (hn : n <= 1048576) (hE : Hid (Ex w gb gx bb off dy tm)) :
  Calls Tryz.prog 107 #[.slice a n n, .func (.func 108) #[] #[.pointer (some ⟨gb, 0, none⟩), .pointer (some ⟨gx, 0, none⟩)]] w fun e w' => ∃ n', e = .returned (.slice a n' n) /\ Hid (Rw w' lo hi 71 EOb a n' n (X.filter (fun o => !gonO dy tm o.ob)) /\ Ch w w' (fun q => blkOf a = some q)) := by
 have LX : Hid (n = X.length) := hA.out.len
 go_enter Tryz.func107, Tryz.ntmps107
 go_upto_region 2 with (go_at_call 131; refine (index131 hA hn hE).mono ?_; rintro e w2 ⟨v, rfl, H2⟩)
 have A2 : Hid (Rw w2 lo hi 71 EOb a n n X) := hA.out.below H2.out.2
 have E2 : Hid (Ex w2 gb gx bb off dy tm) := hE.out.below H2.out.2
 have B2 : Hid (Below w.heap.size w w2) := H2.out.2
 rcases H2.out.1 with ⟨t, hv, ht, hk1, hk2⟩ | ⟨rfl, hk⟩
 . obtain ⟨b, rfl, _, _, _⟩ := A2.out.at_ (i := t) (by rw [<- LX.out]; exact ht)
   have D0 : Hid (Dl w2 lo hi b n dy tm X t (t + 1)) := Dl.start A2.out ht hk1 hk2
   have i1 : (v == -1) = false := by simp; omega
   have i2 : 0 <= v := by omega
   have i8 : v < 1048576 := by omega
   have HV : Hid (v = (t : Int)) := hv
   clear hk1 hk2 H2 hA hE hv
   go_wp2
   clear i1 i2 i8
   go_loopw [5, 6] (fun t5 t6 wr => ∃ (i j : Nat), t5 = .int .i64 i /\ t6 = .int .i64 j /\ Hid (Dl wr lo hi b n dy tm X i j) /\ Hid (Ex wr gb gx bb off dy tm) /\ Hid (Ch w2 wr (fun q => q = b))) (fun _ t6 _ => n - (intOf t6).toNat)
   case atStart => exact ⟨t, t + 1, by rw [HV.out], by rw [HV.out]; go_num, D0, E2, Ch.refl _ _⟩
   case round =>
    obtain ⟨i, j, rfl, rfl, HD, HE, HCH⟩ := hrel
    have hij := HD.out.h
    by_cases hlt : j < n
    . have i3 : (j : Int) < (n : Int) := by omega
      have i4 : (i : Int) < (n : Int) := by omega
      have kx : j < X.length := by rw [<- LX.out]; exact hlt
      obtain ⟨x, Hx⟩ := nm (X[j])
      have EX : Hid (X[j]? = some x) := by show _ = _; rw [<- Hx.out]; exact List.getElem?_eq_getElem kx
      obtain ⟨A, HA⟩ : ∃ A, Hid (A = (EOb.e x).toArray) := ⟨_, rfl⟩
      have az : A.size = 5 := arr_sz HA.out
      have ai : (Tryz.prog.info? 71).map (·.size) = some A.size := by rw [az]; exact inz71
      have AA : Hid (A.all (·.oneCell') = true) := arr_all HA.out
      have E1 : Hid (wr.rangeAt b (j * 5) (EOb.e x)) := HD.out.load EX.out hlt
      obtain ⟨w3, Hw3, K3⟩ := box_any wr 71 #[.string ⟨#[]⟩,.int .i64 0,.string ⟨#[]⟩,.int .i64 0,.slice none 0 0] A
      obtain ⟨g1, Hg1⟩ := nm (wr.heap.size)
      clear Hx kx
      go_upto_region 8 with first
       | (refine wpList_load_mid (by rfl) 71 (.tmp 24) (by rfl) b (j * 5) (by rfl) (EOb.e x) _ E1.out Tryz.underlying71 rfl (by rw [EOb.len]; exact inz71) ?_; rw [<- HA.out])
       | (refine wpList_store_row (by rfl) 71 (.tmp 7) (.tmp 25) (by rfl) wr.heap.size A (by rfl) (by rfl) 71 _ (heap_alloc_new wr _) ai (by rw [az]; rfl) AA.out ?_)
      rw [Hw3.out, Hg1.out]
      have k3 : Hid (w3.heap[g1]? = some (.cells A 71 (0, 0))) := by rw [<- Hg1.out]; exact K3.out.1
      have B3 : Hid (Below wr.heap.size wr w3) := K3.out.2.1
      have E3 : Hid (Ex w3 gb gx bb off dy tm) := HE.out.below B3.out
      clear K3 Hw3 E1
      by_cases hh : gonO dy tm x.ob = true
      . have Hr : Hid (gonO dy tm x.ob = true) := hh
        clear hh
        go_wp2_with (first
           | (refine wpList_load_row (by rfl) 71 (.tmp 7) (by rfl) g1 (by rfl) 71 A (0, 0) _ k3.out Tryz.underlying71 rfl ai ?_)
           | (go_at_call 108; refine (pred108 HA E3).mono ?_; rintro e w4 ⟨rfl, H4⟩; rw [Hr.out]))
        have B4 := bt B3 H4
        have DN : Hid (Dl w4 lo hi b n dy tm X i (j + 1)) := HD.out.skip B4.out EX.out Hr.out
        have EN : Hid (Ex w4 gb gx bb off dy tm) := E3.out.below H4.out
        have CN : Hid (Ch w2 w4 (fun q => q = b)) := HCH.out.trans (Ch.below B4.out)
        go_roundw
        case rel => exact ⟨i, j + 1, rfl, by go_num, DN, EN, CN⟩
        case measure => simp [intOf]; omega
      . have Hr : Hid (gonO dy tm x.ob = false) := Bool.eq_false_iff.2 hh
        clear hh
        go_upto_region 9 with (first
           | (refine wpList_load_row (by rfl) 71 (.tmp 7) (by rfl) g1 (by rfl) 71 A (0, 0) _ k3.out Tryz.underlying71 rfl ai ?_)
           | (go_at_call 108; refine (pred108 HA E3).mono ?_; rintro e w4 ⟨rfl, H4⟩; rw [Hr.out]))
        have B4 := bt B3 H4
        have k4 := sh H4 k3
        have DN : Hid (Dl (w4.setCells b (i * 5) A.toList) lo hi b n dy tm X (i + 1) (j + 1)) := by
           have e : A.toList = EOb.e x := by rw [HA.out]
           rw [e]
           exact HD.out.keep B4.out EX.out Hr.out hlt
        have T4 : Hid (w4.there b (i * 5) A.size) := by
           obtain ⟨L, l1, l2, l3⟩ := HD.out.r
           rw [az]
           exact (l1.below B4.out).thereAt (by omega)
        have CS : Hid (Ch w4 (w4.setCells b (i * 5) A.toList) (fun q => q = b)) := ch_setCells _ _ _
        have EN : Hid (Ex (w4.setCells b (i * 5) A.toList) gb gx bb off dy tm) := (E3.out.below H4.out).ch CS.out (fun q e => by
           obtain ⟨L, l1, l2, l3⟩ := HD.out.r
           obtain ⟨cur, hc, _⟩ := (l1.below B4.out).blk (q := b) rfl
           exact ⟨cur, by rw [e]; exact hc⟩)
        have CN : Hid (Ch w2 (w4.setCells b (i * 5) A.toList) (fun q => q = b)) := (HCH.out.trans (Ch.below B4.out)).trans CS.out
        go_wp2_with (first
           | (refine wpList_load_row (by rfl) 71 (.tmp 7) (by rfl) g1 (by rfl) 71 A (0, 0) _ k4.out Tryz.underlying71 rfl ai ?_)
           | (refine wpList_store_mid (by rfl) 71 (.tmp 33) (.tmp 32) (by rfl) b (i * 5) A (by rfl) (by rfl) T4.out ai AA.out ?_))
        go_roundw
        case rel => exact ⟨i + 1, j + 1, by go_num, by go_num, DN, EN, CN⟩
        case measure => simp [intOf]; omega
    . have ejn : j = n := by omega
      subst ejn
      obtain ⟨L, l1, l2, l3⟩ := HD.out.r
      obtain ⟨w5, r5, f5, c5⟩ := l1.clr (i := i) (by omega) Tryz.underlying62 inf71 rfl (by kernel_rfl)
      have cl : (Builtin.clear_ #[62] 0 #[.slice (some ⟨b, i * 5, none⟩) (j - i) (j - i)]).run Tryz.prog wr = .ok (.tuple #[]) w5 := r5 0 (j - i)
      have F5 : Hid (Rw w5 lo hi 71 EOb (some ⟨b, 0, none⟩) i j (X.filter (fun o => !gonO dy tm o.ob))) := by
       have h := f5
       rw [l2, List.take_of_length_le (by have := LX.out; omega)] at h
       exact h
      have C5 : Hid (Ch w w5 (fun q => blkOf (some (⟨b, 0, none⟩ : Addr)) = some q)) := ((Ch.below B2.out).trans (HCH.out.weak (fun q _ h => by rw [h]; rfl))).trans (c5.weak (fun q _ h => by rw [h]; rfl))
      have i5 : i <= j := by omega
      have i6 : ¬ (j = i) := by omega
      have i7 : (i : Int) <= (j : Int) := by omega
      clear r5 f5 c5 l1 l2 l3
      go_wp2
      go_ret
      exact ⟨i, rfl, F5.out, C5.out⟩
 . have FX : Hid (X.filter (fun o => !gonO dy tm o.ob) = X) := by
    show _ = _
    have h := all_kept (dy := dy) (tm := tm) (X := X) (t := X.length) (fun s y _ hy => hk s y hy)
    rwa [List.take_length] at h
   clear hk H2
   go_wp2
   go_ret
   exact ⟨n, rfl, by rw [FX.out]; exact A2.out, Ch.below B2.out⟩
end Go.Proofs.YtfabnnbljkkihaaGreatDoor
