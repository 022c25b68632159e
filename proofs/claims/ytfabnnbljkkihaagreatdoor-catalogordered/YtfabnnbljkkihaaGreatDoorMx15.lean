import Derived.Test.YtfabnnbljkkihaaGreatDoorMxp
import Derived.Test.YtfabnnbljkkihaaGreatDoorMx14
import Derived.Lib.AppendZerosOnto
import Derived.Laws.CopyRow
namespace Go.Proofs.YtfabnnbljkkihaaGreatDoor
open Go.ChangeShapes Go.WideShapes Go.ChangeAt Go.RowKit
set_option maxRecDepth 20000
set_option linter.unusedVariables false
set_option linter.unusedSimpArgs false
theorem run_copyZ (w : World) (dT sT ty elem : TypeId) (z g o dLen dCap : Nat) (a : Addr) (sLen sCap : Nat) (cur : Array Value) (t : TypeId) (cs : List Value)
  (hu : Tryz.prog.underlying dT = some (.slice elem)) (hs : (Tryz.prog.info? elem).map (·.size) = some z)
  (hg : w.heap[g]? = some (.cells cur t (0, 0))) (hn : cs.length = Nat.min sLen dLen * z)
  (hsrc : ∀ j v, cs[j]? = some v -> w.cell? (a.add j) = some v) (hfit : o + cs.length <= cur.size) (h1 : ∀ v ∈ cs, v.oneCell' = true) :
  (Builtin.copy_ #[dT, sT] ty #[.slice (some ⟨g, o, none⟩) dLen dCap,.slice (some a) sLen sCap]).run Tryz.prog w =
   .ok (goInt (Nat.min sLen dLen)) (w.setRow g (cur.toList.take o ++ cs ++ cur.toList.drop (o + cs.length)).toArray) := by
 have hl := run_loadCells_list (P := Tryz.prog) w a cs hsrc
 have hst := run_storeCells_at Tryz.prog g o t cs 0 cur w hg (by simpa using hfit) h1
 cases hq : Tryz.prog.info? elem with
 | none => simp [hq] at hs
 | some i =>
   have hi : i.size = z := by simpa [hq] using hs
   simp [Builtin.copy_, run_underlying hu, Builtin.lenOf, Builtin.firstCells, sizeOf, typeInfo, hq, hi, <- hn, hl, hst]
theorem wp_cpy {op : Oper} {a : Act} {K : Act -> World -> Prop} {Q : Exit -> Act -> World -> Prop} {w w' : World} {v v1 v2 : Value} {t1 t2 ty : TypeId} (s x : Operand)
  (ho : op.op = .call { callee := .builtin .copy, args := #[s, x], argTypes := #[t1, t2] }) (hty : op.type = ty) (hs : a.eval s = v1) (hx : a.eval x = v2) (hrun : Hid ((Builtin.copy_ #[t1, t2] ty #[v1, v2]).run Tryz.prog w = .ok v w'))
  (h : K (a.put op.dst v) w') : Oper.wp Tryz.prog op a w K Q := by
 have hr := hrun.out
 unfold Oper.wp
 simp [execOp, ho, resolve, invoke, builtin, hs, hx, hty, hr, Result.andThen]
 exact h
theorem wpList_app2 {ops : Array Oper} {rest : List Oper} {o : Oper} {a : Act} {Q : Exit -> Act -> World -> Prop} {w w' : World} {v v1 v2 : Value} {t1 t2 ty : TypeId} (hgd : o.guard = none) (s x : Operand)
  (ho : o.op = .call { callee := .builtin .append, args := #[s, x], argTypes := #[t1, t2] }) (hty : o.type = ty) (hs : a.eval s = v1) (hx : a.eval x = v2) (hrun : Hid ((Builtin.append_ #[t1, t2] ty #[v1, v2]).run Tryz.prog w = .ok v w'))
  (h : wpList Tryz.prog ops Q rest (a.put o.dst v) w') : wpList Tryz.prog ops Q (o :: rest) a w := by
 refine wpList_plain hgd fun K hK => ?_
 have hr := hrun.out
 unfold Oper.wp
 simp [execOp, ho, resolve, invoke, builtin, hs, hx, hty, hr, Result.andThen]
 exact hK _ _ h
theorem zeros_size (z : Value) (k : Nat) : (Builtin.zeroCells z.cells k).size = k * z.cells.size := by
 simp [Builtin.zeroCells]
theorem ins_list (a1 ys rs zs : List Value) :
  let R1 := a1 ++ zs
  let R2 := R1.take a1.length ++ ys ++ R1.drop (a1.length + ys.length)
  R2.take (a1.length + ys.length) ++ rs ++ R2.drop (a1.length + ys.length + rs.length) = a1 ++ ys ++ rs ++ zs.drop (ys.length + rs.length) := by
 intro R1 R2
 have e1 : R1.take a1.length = a1 := List.take_left' rfl
 have e2 : R1.drop (a1.length + ys.length) = zs.drop ys.length := List.drop_length_add_append _
 have e3 : R2 = a1 ++ ys ++ zs.drop ys.length := by show R1.take a1.length ++ ys ++ R1.drop (a1.length + ys.length) = _; rw [e1, e2]
 have hl : (a1 ++ ys).length = a1.length + ys.length := List.length_append
 rw [e3, List.take_left' hl, <- hl, List.drop_length_add_append, List.drop_drop]
section
variable {α : Type} {E : Enc α} {w : World} {lo hi : Nat} {t s : TypeId} {a : Option Addr} {n i : Nat} {l : List α} {y : α} {vb : Nat} {Z : Value} {B : Nat}
theorem ins_steps (h : Rw w lo hi t E a n n l) (hi : i < n) (hn : n <= 1048576) (hu : Tryz.prog.underlying s = some (.slice t)) (h3 : Tryz.prog.underlying 3 = some (.int .i64)) (hinf : (Tryz.prog.info? t).map (fun i => (i.zero, i.size, i.bytes)) = some (some Z, E.z, B)) (hZ : Z.cells.size = E.z) (hB : 0 < B /\ B <= 1000) (hv : w.heap[vb]? = some (.cells (E.e y).toArray t (0, 0))) :
  ∃ b G w1 w2 w3, a = some ⟨b, 0, none⟩ /\ n + 1 <= G ∧
   (Builtin.append_ #[s, 3] s #[.slice a i n,.int .i64 ((n : Int) + 1 - (i : Int))]).run Tryz.prog w = .ok (.slice (some ⟨w.heap.size, 0, none⟩) (n + 1) G) w1 ∧
   (∀ dC, (Builtin.copy_ #[s, s] 3 #[.slice (some ⟨w.heap.size, i * E.z, none⟩) (n + 1 - i) dC,.slice (some ⟨vb, 0, none⟩) 1 1]).run Tryz.prog w1 = .ok (goInt 1) w2) ∧
   (∀ dC sC, (Builtin.copy_ #[s, s] 3 #[.slice (some ⟨w.heap.size, (i + 1) * E.z, none⟩) (n + 1 - (i + 1)) dC,.slice (some ⟨b, i * E.z, none⟩) (n - i) sC]).run Tryz.prog w2.drew = .ok (goInt ((n - i : Nat) : Int)) w3) ∧
   Rw w3 w.heap.size w3.heap.size t E (some ⟨w.heap.size, 0, none⟩) (n + 1) G (l.take i ++ y :: l.drop i) /\ Below w.heap.size w w3 := by
 have hl := h.len
 obtain ⟨inf, hi1, hz0, hz1, hz2⟩ := info_parts hinf
 have hsz : (Tryz.prog.info? t).map (·.size) = some E.z := by rw [hi1]; simp [hz1]
 obtain ⟨b, rfl, hb1, hb2, cur0, hb3, hb4⟩ := rown_at h.row (by omega)
 have hzp := h.pos
 have cel : ∀ j v, (E.fl l)[j]? = some v -> w.cell? ⟨b, j, none⟩ = some v := fun j v hv => by
  have hj := (List.getElem?_eq_some_iff.1 hv).1
  rw [E.fl_len, <- hl] at hj
  rw [h.row.cellAt j hj]; exact hv
 have hlt : (E.fl (l.take i)).length = i * E.z := by rw [E.fl_len, List.length_take, Nat.min_eq_left (by omega)]
 have hld : (E.fl (l.drop i)).length = (n - i) * E.z := by rw [E.fl_len, List.length_drop, hl]
 have hold : (Builtin.firstCells inf.size i (.slice (some ⟨b, 0, none⟩) i n)).run Tryz.prog w.drew = .ok (E.fl (l.take i)).toArray w.drew := by
  rw [hz1]
  refine run_firstCells_some w.drew E.z i ⟨b, 0, none⟩ i n (E.fl (l.take i)) hlt (fun j v hv => ?_)
  rw [Addr.add_mid, Nat.zero_add]
  rw [E.fl_take, List.getElem?_take] at hv
  split at hv
  . exact cel j v hv
  . cases hv
 have hkk : (n : Int) + 1 - (i : Int) = ((n + 1 - i : Nat) : Int) := by omega
 have hik : i + (n + 1 - i) = n + 1 := by omega
 obtain ⟨G, hG⟩ : ∃ G, G = grownCap w (n + 1) n t := ⟨_, rfl⟩
 have hG1 : n + 1 <= G := by rw [hG]; exact grownCap_ge w _ _ _
 have hG2 : G <= maxLen := by rw [hG]; exact grownCap_le_maxLen w _ _ _ (by unfold maxLen; omega)
 have hbb : (n + 1) * B <= 140737488355328 := Nat.le_trans (Nat.mul_le_mul (show n + 1 <= 1048577 by omega) hB.2) (by omega)
 have hA := Lib.run_append_grow_zeros (P := Tryz.prog) w s 3 s t inf Z .i64 .i64 hu h3 hi1 hz0 (some ⟨b, 0, none⟩) i n (E.fl (l.take i)) hold (n + 1 - i) (by omega) (by rw [hz1]; exact hzp) (by omega) (by omega) (by
  rw [hz2]
  exact Nat.le_trans (Nat.mul_le_mul (show n + 1 - i <= 1048577 by omega) hB.2) (by omega)) (by rw [hz2, hik]; exact growslice_fits (by omega) hbb)
 rw [hik, <- hG] at hA
 obtain ⟨ZS, hZS⟩ : ∃ ZS : List Value, ZS = (Builtin.zeroCells Z.cells (n + 1 - i)).toList ++ (Builtin.zeroCells Z.cells (G - (n + 1))).toList := ⟨_, rfl⟩
 have zl : ZS.length = (n + 1 - i) * E.z + (G - (n + 1)) * E.z := by rw [hZS, List.length_append, Array.length_toList, Array.length_toList, zeros_size, zeros_size, hZ]
 obtain ⟨R1, hR1⟩ : ∃ R1 : Array Value, R1 = (E.fl (l.take i)).toArray ++ Builtin.zeroCells Z.cells (n + 1 - i) ++ Builtin.zeroCells Z.cells (G - (n + 1)) := ⟨_, rfl⟩
 have r1l : R1.toList = E.fl (l.take i) ++ ZS := by rw [hR1, hZS]; simp
 rw [<- hR1] at hA
 have gz : i * E.z + ((n + 1 - i) * E.z + (G - (n + 1)) * E.z) = G * E.z := by rw [<- Nat.add_mul, <- Nat.add_mul]; congr 1; omega
 have r1s : R1.size = G * E.z := by rw [<- Array.length_toList, r1l, List.length_append, hlt, zl, gz]
 obtain ⟨w1, hw1⟩ : ∃ w1, w1 = w.drew.alloc (.cells R1 t) := ⟨_, rfl⟩
 rw [<- hw1] at hA
 have g1 : w1.heap[w.heap.size]? = some (.cells R1 t (0, 0)) := by rw [hw1]; exact heap_alloc_new w.drew _
 have B1 : Below w.heap.size w w1 := by rw [hw1]; exact (Below.refl _ w).drew.alloc (Nat.le_refl _) _
 have vlt : vb < w.heap.size := (gl hv)
 have ez : (i + 1) * E.z = i * E.z + E.z := Nat.succ_mul i E.z
 have le1 : (i + 1) * E.z <= G * E.z := Nat.mul_le_mul_right _ (by omega)
 have hBc : ∀ dC, (Builtin.copy_ #[s, s] 3 #[.slice (some ⟨w.heap.size, i * E.z, none⟩) (n + 1 - i) dC,.slice (some ⟨vb, 0, none⟩) 1 1]).run Tryz.prog w1 = .ok (goInt 1) (w1.setRow w.heap.size (R1.toList.take (i * E.z) ++ E.e y ++ R1.toList.drop (i * E.z + (E.e y).length)).toArray) := fun dC => by
  have hm : Nat.min 1 (n + 1 - i) = 1 := Nat.min_eq_left (by omega)
  have hc := run_copyZ w1 s s 3 t E.z w.heap.size (i * E.z) (n + 1 - i) dC ⟨vb, 0, none⟩ 1 1 R1 t (E.e y) hu hsz g1 (by rw [E.len, hm, Nat.one_mul]) (fun j v hj => by
   rw [Addr.add_mid, Nat.zero_add]
   have hb := B1.block vb vlt
   simp [World.cell?, hb, hv, hj]) (by rw [E.len, r1s]; omega) (E.one y)
  rw [hm] at hc
  exact hc
 obtain ⟨R2, hR2⟩ : ∃ R2 : Array Value, R2 = (R1.toList.take (i * E.z) ++ E.e y ++ R1.toList.drop (i * E.z + (E.e y).length)).toArray := ⟨_, rfl⟩
 rw [<- hR2] at hBc
 have r2l : R2.toList = R1.toList.take (i * E.z) ++ E.e y ++ R1.toList.drop (i * E.z + (E.e y).length) := by rw [hR2]
 have r2s : R2.size = G * E.z := by
  rw [<- Array.length_toList, r2l, List.length_append, List.length_append, List.length_take, List.length_drop, E.len, Array.length_toList, r1s, Nat.min_eq_left (by omega)]
  omega
 obtain ⟨w2, hw2⟩ : ∃ w2, w2 = w1.setRow w.heap.size R2 := ⟨_, rfl⟩
 rw [<- hw2] at hBc
 have g2 : w2.drew.heap[w.heap.size]? = some (.cells R2 t (0, 0)) := by rw [hw2]; exact setRow_heap _ _ _ _ _ _ g1
 have B2 : Below w.heap.size w w2.drew := by rw [hw2]; exact (below_setRow B1 (Nat.le_refl _) _).drew
 have le2 : (i + 1) * E.z + (n - i) * E.z <= G * E.z := by rw [<- Nat.add_mul]; exact Nat.mul_le_mul_right _ (by omega)
 have hCc : ∀ dC sC, (Builtin.copy_ #[s, s] 3 #[.slice (some ⟨w.heap.size, (i + 1) * E.z, none⟩) (n + 1 - (i + 1)) dC,.slice (some ⟨b, i * E.z, none⟩) (n - i) sC]).run Tryz.prog w2.drew = .ok (goInt ((n - i : Nat) : Int)) (w2.drew.setRow w.heap.size (R2.toList.take ((i + 1) * E.z) ++ E.fl (l.drop i) ++ R2.toList.drop ((i + 1) * E.z + (E.fl (l.drop i)).length)).toArray) := fun dC sC => by
  have hm : Nat.min (n - i) (n + 1 - (i + 1)) = n - i := Nat.min_eq_left (by omega)
  have hc := run_copyZ w2.drew s s 3 t E.z w.heap.size ((i + 1) * E.z) (n + 1 - (i + 1)) dC ⟨b, i * E.z, none⟩ (n - i) sC R2 t (E.fl (l.drop i)) hu hsz g2 (by rw [hld, hm]) (fun j v hj => by
   rw [Addr.add_mid]
   rw [E.fl_drop, List.getElem?_drop] at hj
   exact (World.cell?_of_block (a := ⟨b, i * E.z + j, none⟩) (B2.block b hb2)).trans (cel _ _ hj)) (by rw [hld, r2s]; exact le2) (E.fl_oc _)
  rw [hm] at hc
  exact hc
 obtain ⟨R3, hR3⟩ : ∃ R3 : Array Value, R3 = (R2.toList.take ((i + 1) * E.z) ++ E.fl (l.drop i) ++ R2.toList.drop ((i + 1) * E.z + (E.fl (l.drop i)).length)).toArray := ⟨_, rfl⟩
 rw [<- hR3] at hCc
 have r3l : R3.toList = E.fl (l.take i) ++ E.e y ++ E.fl (l.drop i) ++ ZS.drop ((E.e y).length + (E.fl (l.drop i)).length) := by
  have hc := ins_list (E.fl (l.take i)) (E.e y) (E.fl (l.drop i)) ZS
  simp only [hlt] at hc
  rw [hR3]
  show R2.toList.take ((i + 1) * E.z) ++ E.fl (l.drop i) ++ R2.toList.drop ((i + 1) * E.z + (E.fl (l.drop i)).length) = _
  rw [ez, r2l, r1l]
  rw [E.len] at hc ⊢
  exact hc
 have r3s : R3.size = G * E.z := by
  rw [hR3]
  show (R2.toList.take ((i + 1) * E.z) ++ E.fl (l.drop i) ++ R2.toList.drop ((i + 1) * E.z + (E.fl (l.drop i)).length)).toArray.size = _
  simp only [List.size_toArray, List.length_append, List.length_take, List.length_drop, Array.length_toList, r2s, hld]
  rw [Nat.min_eq_left le1]
  omega
 have efl : E.fl (l.take i ++ y :: l.drop i) = E.fl (l.take i) ++ E.e y ++ E.fl (l.drop i) := by rw [E.fl_app, E.fl_cons, List.append_assoc]
 have eln : (E.fl (l.take i) ++ E.e y ++ E.fl (l.drop i)).length = (n + 1) * E.z := by
  rw [List.length_append, List.length_append, hlt, hld, E.len, <- ez, <- Nat.add_mul]; congr 1; omega
 have g3 : (w2.drew.setRow w.heap.size R3).heap[w.heap.size]? = some (.cells R3 t (0, 0)) := setRow_heap _ _ _ _ _ _ g2
 refine ⟨b, G, w1, w2, w2.drew.setRow w.heap.size R3, rfl, hG1, by rw [hkk]; exact hA, hBc, hCc, ⟨⟨by rw [efl, eln], .inr ⟨w.heap.size, G, R3, rfl, Nat.le_refl _, g3, hG1, hG2, r3s, ?_⟩⟩, fun q e => ?_, hzp⟩, below_setRow B2 (Nat.le_refl _) _⟩
 . rw [r3l, efl]
   exact List.take_left' eln
 . cases e
   exact (gl g3)
end
set_option maxHeartbeats 8000000 in
theorem insB {w : World} {lo hi : Nat} {a : Option Addr} {n i vb : Nat} {X : List Bkx} {y : Bkx} (hA : Hid (Rw w lo hi 65 EBk a n n X)) (hn : n <= 1048576) (hi : i < n) (hv : Hid (w.heap[vb]? = some (.cells (EBk.e y).toArray 65 (0, 0)))) :
  Calls Tryz.prog 116 #[.slice a n n,.int .i64 i,.slice (some ⟨vb, 0, none⟩) 1 1] w fun e w' => ∃ a' c', e = .returned (.slice a' (n + 1) c') /\ Hid (Rw w' w.heap.size w'.heap.size 65 EBk a' (n + 1) c' (X.take i ++ y :: X.drop i) /\ Below w.heap.size w w') := by
 obtain ⟨b, G, w1, w2, w3, hab, hG, r1, r2, r3, f1, f2⟩ := ins_steps hA.out hi hn Tryz.underlying56 Tryz.underlying3 inf65 rfl (by decide) hv.out
 subst hab
 obtain ⟨g, Hg⟩ := nm (w.heap.size)
 rw [Hg.out] at r1 r2 r3 f1
 have HA : Hid _ := r1
 have HB : ∀ dC, Hid ((Builtin.copy_ #[56, 56] 3 #[.slice (some ⟨g, i * 5, none⟩) (n + 1 - i) dC,.slice (some ⟨vb, 0, none⟩) 1 1]).run Tryz.prog w1 = .ok (goInt 1) w2) := r2
 have HC : ∀ dC sC, Hid ((Builtin.copy_ #[56, 56] 3 #[.slice (some ⟨g, (i + 1) * 5, none⟩) (n - i) dC,.slice (some ⟨b, i * 5, none⟩) (n - i) sC]).run Tryz.prog w2.drew = .ok (goInt ((n - i : Nat) : Int)) w3) := fun dC sC => by have h := r3 dC sC; rw [Nat.add_sub_add_right] at h; exact h
 have F1 : Hid _ := f1
 have F2 : Hid (Below w.heap.size w w3) := f2
 clear r1 r2 r3 f1 f2
 have i1 : (i : Int) < (n : Int) := by omega
 have i2 : ¬ ((i : Int) = (n : Int)) := by omega
 have i3 : i <= n := by omega
 have i4 : ¬ (n = i) := by omega
 have i5 : ¬ (G = i) := by omega
 have i6 : i <= n + 1 := by omega
 have i7 : n + 1 <= G := hG
 have i8 : (0 : Int) <= (i : Int) + 1 := by omega
 have i9 : ¬ (G = i + 1) := by omega
 have wq : IntKind.i64.wrap ((i : Int) + 1) = (i : Int) + 1 := by rw [IntKind.wrap_i64]; omega
 go_enter Tryz.func116, Tryz.ntmps116
 go_upto_region 10 with (at_builtin; refine wpList_app2 (by rfl) (.tmp 34) (.tmp 39) (by rfl) (by rfl) (by rfl) (by rfl) HA ?_)
 have cb := (HB (G - i)).out
 go_upto_region 11 with (fail)
 clear cb
 refine wp_region_till (S := fun L W => True) (by kernel_rfl) trivial (fun hS => ?_)
 refine tkg (i := 0) (v := .slice (some ⟨g, 0, none⟩) (n + 1) G) rfl hS (fun hSb => ?_)
 simp only [pA,pB,pC,Act.put,pD,pE,pF]
 clear hS
 refine tkg (i := 1) (v := .int .i64 (i : Int)) rfl hSb (fun hS => ?_)
 simp only [pA,pB,pC,Act.put,pD,pE,pF]
 clear hSb
 refine tkg (i := 2) (v := .int .i64 1) rfl hS (fun hSb => ?_)
 simp only [pA,pB,pC,Act.put,pD,pE,pF]
 clear hS
 refine tkg (i := 3) (v := .int .i64 ((i : Int) + 1)) rfl hSb (fun hS => ?_)
 simp only [pA,pB,pC,Act.put,pD,pE,pF]
 clear hSb
 refine tkg (i := 4) (v := .slice (some ⟨g, (i + 1) * 5, none⟩) (n - i) (G - (i + 1))) rfl hS (fun hSb => ?_)
 simp only [pA,pB,pC,Act.put,pD,pE,pF]
 clear hS
 refine tkg (i := 5) (v := .slice (some ⟨b, 0, none⟩) n n) rfl hSb (fun hS => ?_)
 simp only [pA,pB,pC,Act.put,pD,pE,pF]
 clear hSb
 refine tkg (i := 6) (v := .int .i64 (i : Int)) rfl hS (fun hSb => ?_)
 simp only [pA,pB,pC,Act.put,pD,pE,pF]
 clear hS
 refine tkg (i := 7) (v := .slice (some ⟨b, i * 5, none⟩) (n - i) (n - i)) rfl hSb (fun hS => ?_)
 simp only [pA,pB,pC,Act.put,pD,pE,pF]
 clear hSb
 refine till_one (i := 8) (by kernel_rfl) rfl (fun K hK => ?_)
 simp only [pA,pB,pC]
 rw [if_pos (by rfl)]
 refine wp_cpy (.tmp 50) (.tmp 53) (by rfl) (by rfl) (by rfl) (by rfl) (HC (G - (i + 1)) (n - i)) ?_
 refine hK.out _ _ (trivial) (fun hSb => ?_)
 clear hK K
 try simp only [pA,pB,pC,Act.put,pD,pE,pF]
 clear hS
 refine till_done (by kernel_rfl) ?_ _
 clear hSb
 show (Exit.then _ _) .normal _ _
 go_wp2
 go_ret
 exact ⟨_, G, rfl, by rw [Hg.out]; exact F1.out, F2.out⟩
def setL (xs : List Value) : Nat -> List Value -> List Value
 | _, [] => xs
 | o, v :: vs => setL (xs.set o v) (o + 1) vs
theorem setL_eq : ∀ (vs xs : List Value) (o : Nat), o + vs.length <= xs.length -> setL xs o vs = xs.take o ++ vs ++ xs.drop (o + vs.length)
 | [], xs, o, h => by simp [setL]
 | v :: vs, xs, o, h => by
   rw [List.length_cons] at h
   unfold setL
   rw [setL_eq vs (xs.set o v) (o + 1) (by rw [List.length_set]; omega)]
   rw [List.length_cons]
   exact list_seg_step xs o v vs h
theorem rown_setCells {B : Nat} {t : TypeId} {z g n c : Nat} : ∀ (vs : List Value) (o : Nat) (W : World) (xs : List Value), W.ownsRow B t z (.slice (some ⟨g, 0, none⟩) n c) n xs -> (W.setCells g o vs).ownsRow B t z (.slice (some ⟨g, 0, none⟩) n c) n (setL xs o vs)
 | [], o, W, xs, h => h
 | v :: vs, o, W, xs, h => rown_setCells vs (o + 1) (W.setCell ⟨g, o, none⟩ v) (xs.set o v) (row_set h o v)
theorem ch_setCells {g : Nat} : ∀ (vs : List Value) (o : Nat) (W : World), Ch W (W.setCells g o vs) (fun q => q = g)
 | [], o, W => Ch.refl _ _
 | v :: vs, o, W => (Ch.set W g o v).trans (ch_setCells vs (o + 1) (W.setCell ⟨g, o, none⟩ v))
section
variable {α : Type} {E : Enc α} {w : World} {lo hi : Nat} {t s : TypeId} {g n c p : Nat} {l : List α} {y : α}
theorem Rw.setAt (h : Rw w lo hi t E (some ⟨g, 0, none⟩) n c l) (hp : p < n) (y : α) : Rw (w.setCells g (p * E.z) (E.e y)) lo hi t E (some ⟨g, 0, none⟩) n c (l.set p y) := by
 have hl := h.len
 have ez : (p + 1) * E.z = p * E.z + E.z := Nat.succ_mul p E.z
 have le : (p + 1) * E.z <= n * E.z := Nat.mul_le_mul_right _ (by omega)
 have e : setL (E.fl l) (p * E.z) (E.e y) = E.fl (l.set p y) := by
  rw [setL_eq _ _ _ (by rw [E.len, E.fl_len, <- hl]; omega), E.len, <- ez, <- E.fl_take, <- E.fl_drop, List.set_eq_take_append_cons_drop, if_pos (by omega), E.fl_app, E.fl_cons, List.append_assoc]
 refine ⟨?_, h.top, h.pos⟩
 rw [<- e]
 exact rown_setCells _ _ _ _ h.row
theorem Rw.thereAt (h : Rw w lo hi t E (some ⟨g, 0, none⟩) n c l) (hp : p < n) : w.there g (p * E.z) E.z := fun j hj => by
 have ez : (p + 1) * E.z = p * E.z + E.z := Nat.succ_mul p E.z
 have le : (p + 1) * E.z <= n * E.z := Nat.mul_le_mul_right _ (by omega)
 refine ⟨?_, h.row.frozenAt _⟩
 rw [h.row.cellAt _ (by omega), List.getElem?_eq_getElem (by rw [E.fl_len, <- h.len]; omega)]
 rfl
theorem app_end {a : Option Addr} {vb B : Nat} {Z : Value} (h : Rw w lo hi t E a n c l) (hn : n + 1 <= 1048576) (hlo : lo <= w.heap.size) (hu : Tryz.prog.underlying s = some (.slice t)) (hinf : (Tryz.prog.info? t).map (fun i => (i.zero, i.size, i.bytes)) = some (some Z, E.z, B)) (hZ : Z.cells.size = E.z) (hB : B <= 1000) (hv : w.heap[vb]? = some (.cells (E.e y).toArray t (0, 0))) :
  ∃ a' c' w', (Builtin.append_ #[s, s] s #[.slice a n c,.slice (some ⟨vb, 0, none⟩) 1 1]).run Tryz.prog w = .ok (.slice a' (n + 1) c') w' /\ Rw w' lo w'.heap.size t E a' (n + 1) c' (l ++ [y]) /\ Ch w w' (fun q => blkOf a = some q) := by
 obtain ⟨inf, hi1, hz0, hz1, hz2⟩ := info_parts hinf
 obtain ⟨v', w', hrun, hown, hgr, _⟩ := run_append_own (P := Tryz.prog) w lo s s t inf Z E.z B hu hi1 hz0 hz1 hz2 hZ h.pos (.slice a n c) n (E.fl l) h.row ⟨vb, 0, none⟩ 1 1 (E.e y) (by rw [E.len, Nat.one_mul]) (fun j u hj => by
  rw [Addr.add_mid, Nat.zero_add]
  simp [World.cell?, hv, hj]) (E.one y) (by unfold maxLen; omega) (Nat.le_trans (Nat.mul_le_mul hn hB) (by omega)) hlo
 obtain ⟨a', c', rfl⟩ := rown_slice hown
 rw [ownBlock_slice] at hgr
 refine ⟨a', c', w', hrun, ⟨by rw [E.fl_app, E.fl_one]; exact hown, fun q e => (hown.lt q (by rw [ownBlock_slice]; exact e)).2, h.pos⟩, ?_⟩
 have hb := grown_below hgr (Nat.zero_le _) (fun q _ => Nat.zero_le _)
 exact ⟨hb.os, hb.tape, hb.output, hb.size, fun k hk hn => hgr.block k hk (fun e => hn e.symm)⟩
end
def setX {α δ : Type} (c : δ -> Int) (d : α -> δ) (X : List α) (y : α) : List α := if isB c (X.map d) then X.set (plcB c (X.map d)) y else X.take (plcB c (X.map d)) ++ y :: X.drop (plcB c (X.map d))
theorem setX_map {α δ : Type} (c : δ -> Int) (d : α -> δ) (X : List α) (y : α) : (setX c d X y).map d = setB c (X.map d) (d y) := by
 unfold setX setB
 split <;> simp [List.map_set, List.map_take, List.map_drop]
def outX {α δ : Type} (c : δ -> Int) (d : α -> δ) (X : List α) : List α := if isB c (X.map d) then X.eraseIdx (plcB c (X.map d)) else X
theorem outX_map {α δ : Type} (c : δ -> Int) (d : α -> δ) (X : List α) : (outX c d X).map d = outB c (X.map d) := by
 unfold outX outB
 split
 . rw [List.eraseIdx_eq_take_drop_succ, List.eraseIdx_eq_take_drop_succ]
   simp [List.map_take, List.map_drop]
 . rfl
set_option maxHeartbeats 8000000 in
theorem insO {w : World} {lo hi : Nat} {a : Option Addr} {n i vb : Nat} {X : List Obx} {y : Obx} (hA : Hid (Rw w lo hi 71 EOb a n n X)) (hn : n <= 1048576) (hi : i < n) (hv : Hid (w.heap[vb]? = some (.cells (EOb.e y).toArray 71 (0, 0)))) :
  Calls Tryz.prog 118 #[.slice a n n,.int .i64 i,.slice (some ⟨vb, 0, none⟩) 1 1] w fun e w' => ∃ a' c', e = .returned (.slice a' (n + 1) c') /\ Hid (Rw w' w.heap.size w'.heap.size 71 EOb a' (n + 1) c' (X.take i ++ y :: X.drop i) /\ Below w.heap.size w w') := by
 obtain ⟨b, G, w1, w2, w3, hab, hG, r1, r2, r3, f1, f2⟩ := ins_steps hA.out hi hn Tryz.underlying62 Tryz.underlying3 inf71 rfl (by decide) hv.out
 subst hab
 obtain ⟨g, Hg⟩ := nm (w.heap.size)
 rw [Hg.out] at r1 r2 r3 f1
 have HA : Hid _ := r1
 have HB : ∀ dC, Hid ((Builtin.copy_ #[62, 62] 3 #[.slice (some ⟨g, i * 5, none⟩) (n + 1 - i) dC,.slice (some ⟨vb, 0, none⟩) 1 1]).run Tryz.prog w1 = .ok (goInt 1) w2) := r2
 have HC : ∀ dC sC, Hid ((Builtin.copy_ #[62, 62] 3 #[.slice (some ⟨g, (i + 1) * 5, none⟩) (n - i) dC,.slice (some ⟨b, i * 5, none⟩) (n - i) sC]).run Tryz.prog w2.drew = .ok (goInt ((n - i : Nat) : Int)) w3) := fun dC sC => by have h := r3 dC sC; rw [Nat.add_sub_add_right] at h; exact h
 have F1 : Hid _ := f1
 have F2 : Hid (Below w.heap.size w w3) := f2
 clear r1 r2 r3 f1 f2
 have i1 : (i : Int) < (n : Int) := by omega
 have i2 : ¬ ((i : Int) = (n : Int)) := by omega
 have i3 : i <= n := by omega
 have i4 : ¬ (n = i) := by omega
 have i5 : ¬ (G = i) := by omega
 have i6 : i <= n + 1 := by omega
 have i7 : n + 1 <= G := hG
 have i8 : (0 : Int) <= (i : Int) + 1 := by omega
 have i9 : ¬ (G = i + 1) := by omega
 have wq : IntKind.i64.wrap ((i : Int) + 1) = (i : Int) + 1 := by rw [IntKind.wrap_i64]; omega
 go_enter Tryz.func118, Tryz.ntmps118
 go_upto_region 10 with (at_builtin; refine wpList_app2 (by rfl) (.tmp 34) (.tmp 39) (by rfl) (by rfl) (by rfl) (by rfl) HA ?_)
 have cb := (HB (G - i)).out
 go_upto_region 11 with (fail)
 clear cb
 refine wp_region_till (S := fun L W => True) (by kernel_rfl) trivial (fun hS => ?_)
 refine tkg (i := 0) (v := .slice (some ⟨g, 0, none⟩) (n + 1) G) rfl hS (fun hSb => ?_)
 simp only [pA,pB,pC,Act.put,pD,pE,pF]
 clear hS
 refine tkg (i := 1) (v := .int .i64 (i : Int)) rfl hSb (fun hS => ?_)
 simp only [pA,pB,pC,Act.put,pD,pE,pF]
 clear hSb
 refine tkg (i := 2) (v := .int .i64 1) rfl hS (fun hSb => ?_)
 simp only [pA,pB,pC,Act.put,pD,pE,pF]
 clear hS
 refine tkg (i := 3) (v := .int .i64 ((i : Int) + 1)) rfl hSb (fun hS => ?_)
 simp only [pA,pB,pC,Act.put,pD,pE,pF]
 clear hSb
 refine tkg (i := 4) (v := .slice (some ⟨g, (i + 1) * 5, none⟩) (n - i) (G - (i + 1))) rfl hS (fun hSb => ?_)
 simp only [pA,pB,pC,Act.put,pD,pE,pF]
 clear hS
 refine tkg (i := 5) (v := .slice (some ⟨b, 0, none⟩) n n) rfl hSb (fun hS => ?_)
 simp only [pA,pB,pC,Act.put,pD,pE,pF]
 clear hSb
 refine tkg (i := 6) (v := .int .i64 (i : Int)) rfl hS (fun hSb => ?_)
 simp only [pA,pB,pC,Act.put,pD,pE,pF]
 clear hS
 refine tkg (i := 7) (v := .slice (some ⟨b, i * 5, none⟩) (n - i) (n - i)) rfl hSb (fun hS => ?_)
 simp only [pA,pB,pC,Act.put,pD,pE,pF]
 clear hSb
 refine till_one (i := 8) (by kernel_rfl) rfl (fun K hK => ?_)
 simp only [pA,pB,pC]
 rw [if_pos (by rfl)]
 refine wp_cpy (.tmp 50) (.tmp 53) (by rfl) (by rfl) (by rfl) (by rfl) (HC (G - (i + 1)) (n - i)) ?_
 refine hK.out _ _ (trivial) (fun hSb => ?_)
 clear hK K
 try simp only [pA,pB,pC,Act.put,pD,pE,pF]
 clear hS
 refine till_done (by kernel_rfl) ?_ _
 clear hSb
 show (Exit.then _ _) .normal _ _
 go_wp2
 go_ret
 exact ⟨_, G, rfl, by rw [Hg.out]; exact F1.out, F2.out⟩
set_option maxHeartbeats 8000000 in
theorem insU {w : World} {lo hi : Nat} {a : Option Addr} {n i vb : Nat} {X : List Ulx} {y : Ulx} (hA : Hid (Rw w lo hi 77 EUl a n n X)) (hn : n <= 1048576) (hi : i < n) (hv : Hid (w.heap[vb]? = some (.cells (EUl.e y).toArray 77 (0, 0)))) :
  Calls Tryz.prog 121 #[.slice a n n,.int .i64 i,.slice (some ⟨vb, 0, none⟩) 1 1] w fun e w' => ∃ a' c', e = .returned (.slice a' (n + 1) c') /\ Hid (Rw w' w.heap.size w'.heap.size 77 EUl a' (n + 1) c' (X.take i ++ y :: X.drop i) /\ Below w.heap.size w w') := by
 obtain ⟨b, G, w1, w2, w3, hab, hG, r1, r2, r3, f1, f2⟩ := ins_steps hA.out hi hn Tryz.underlying63 Tryz.underlying3 inf77 rfl (by decide) hv.out
 subst hab
 obtain ⟨g, Hg⟩ := nm (w.heap.size)
 rw [Hg.out] at r1 r2 r3 f1
 have HA : Hid _ := r1
 have HB : ∀ dC, Hid ((Builtin.copy_ #[63, 63] 3 #[.slice (some ⟨g, i * 5, none⟩) (n + 1 - i) dC,.slice (some ⟨vb, 0, none⟩) 1 1]).run Tryz.prog w1 = .ok (goInt 1) w2) := r2
 have HC : ∀ dC sC, Hid ((Builtin.copy_ #[63, 63] 3 #[.slice (some ⟨g, (i + 1) * 5, none⟩) (n - i) dC,.slice (some ⟨b, i * 5, none⟩) (n - i) sC]).run Tryz.prog w2.drew = .ok (goInt ((n - i : Nat) : Int)) w3) := fun dC sC => by have h := r3 dC sC; rw [Nat.add_sub_add_right] at h; exact h
 have F1 : Hid _ := f1
 have F2 : Hid (Below w.heap.size w w3) := f2
 clear r1 r2 r3 f1 f2
 have i1 : (i : Int) < (n : Int) := by omega
 have i2 : ¬ ((i : Int) = (n : Int)) := by omega
 have i3 : i <= n := by omega
 have i4 : ¬ (n = i) := by omega
 have i5 : ¬ (G = i) := by omega
 have i6 : i <= n + 1 := by omega
 have i7 : n + 1 <= G := hG
 have i8 : (0 : Int) <= (i : Int) + 1 := by omega
 have i9 : ¬ (G = i + 1) := by omega
 have wq : IntKind.i64.wrap ((i : Int) + 1) = (i : Int) + 1 := by rw [IntKind.wrap_i64]; omega
 go_enter Tryz.func121, Tryz.ntmps121
 go_upto_region 10 with (at_builtin; refine wpList_app2 (by rfl) (.tmp 34) (.tmp 39) (by rfl) (by rfl) (by rfl) (by rfl) HA ?_)
 have cb := (HB (G - i)).out
 go_upto_region 11 with (fail)
 clear cb
 refine wp_region_till (S := fun L W => True) (by kernel_rfl) trivial (fun hS => ?_)
 refine tkg (i := 0) (v := .slice (some ⟨g, 0, none⟩) (n + 1) G) rfl hS (fun hSb => ?_)
 simp only [pA,pB,pC,Act.put,pD,pE,pF]
 clear hS
 refine tkg (i := 1) (v := .int .i64 (i : Int)) rfl hSb (fun hS => ?_)
 simp only [pA,pB,pC,Act.put,pD,pE,pF]
 clear hSb
 refine tkg (i := 2) (v := .int .i64 1) rfl hS (fun hSb => ?_)
 simp only [pA,pB,pC,Act.put,pD,pE,pF]
 clear hS
 refine tkg (i := 3) (v := .int .i64 ((i : Int) + 1)) rfl hSb (fun hS => ?_)
 simp only [pA,pB,pC,Act.put,pD,pE,pF]
 clear hSb
 refine tkg (i := 4) (v := .slice (some ⟨g, (i + 1) * 5, none⟩) (n - i) (G - (i + 1))) rfl hS (fun hSb => ?_)
 simp only [pA,pB,pC,Act.put,pD,pE,pF]
 clear hS
 refine tkg (i := 5) (v := .slice (some ⟨b, 0, none⟩) n n) rfl hSb (fun hS => ?_)
 simp only [pA,pB,pC,Act.put,pD,pE,pF]
 clear hSb
 refine tkg (i := 6) (v := .int .i64 (i : Int)) rfl hS (fun hSb => ?_)
 simp only [pA,pB,pC,Act.put,pD,pE,pF]
 clear hS
 refine tkg (i := 7) (v := .slice (some ⟨b, i * 5, none⟩) (n - i) (n - i)) rfl hSb (fun hS => ?_)
 simp only [pA,pB,pC,Act.put,pD,pE,pF]
 clear hSb
 refine till_one (i := 8) (by kernel_rfl) rfl (fun K hK => ?_)
 simp only [pA,pB,pC]
 rw [if_pos (by rfl)]
 refine wp_cpy (.tmp 50) (.tmp 53) (by rfl) (by rfl) (by rfl) (by rfl) (HC (G - (i + 1)) (n - i)) ?_
 refine hK.out _ _ (trivial) (fun hSb => ?_)
 clear hK K
 try simp only [pA,pB,pC,Act.put,pD,pE,pF]
 clear hS
 refine till_done (by kernel_rfl) ?_ _
 clear hSb
 show (Exit.then _ _) .normal _ _
 go_wp2
 go_ret
 exact ⟨_, G, rfl, by rw [Hg.out]; exact F1.out, F2.out⟩
set_option maxHeartbeats 8000000 in
theorem insP {w : World} {lo hi : Nat} {a : Option Addr} {n i vb : Nat} {X : List Ptd} {y : Ptd} (hA : Hid (Rw w lo hi 108 EPt a n n X)) (hn : n <= 1048576) (hi : i < n) (hv : Hid (w.heap[vb]? = some (.cells (EPt.e y).toArray 108 (0, 0)))) :
  Calls Tryz.prog 123 #[.slice a n n,.int .i64 i,.slice (some ⟨vb, 0, none⟩) 1 1] w fun e w' => ∃ a' c', e = .returned (.slice a' (n + 1) c') /\ Hid (Rw w' w.heap.size w'.heap.size 108 EPt a' (n + 1) c' (X.take i ++ y :: X.drop i) /\ Below w.heap.size w w') := by
 obtain ⟨b, G, w1, w2, w3, hab, hG, r1, r2, r3, f1, f2⟩ := ins_steps hA.out hi hn Tryz.underlying75 Tryz.underlying3 inf108 rfl (by decide) hv.out
 subst hab
 obtain ⟨g, Hg⟩ := nm (w.heap.size)
 rw [Hg.out] at r1 r2 r3 f1
 have HA : Hid _ := r1
 have HB : ∀ dC, Hid ((Builtin.copy_ #[75, 75] 3 #[.slice (some ⟨g, i * 6, none⟩) (n + 1 - i) dC,.slice (some ⟨vb, 0, none⟩) 1 1]).run Tryz.prog w1 = .ok (goInt 1) w2) := r2
 have HC : ∀ dC sC, Hid ((Builtin.copy_ #[75, 75] 3 #[.slice (some ⟨g, (i + 1) * 6, none⟩) (n - i) dC,.slice (some ⟨b, i * 6, none⟩) (n - i) sC]).run Tryz.prog w2.drew = .ok (goInt ((n - i : Nat) : Int)) w3) := fun dC sC => by have h := r3 dC sC; rw [Nat.add_sub_add_right] at h; exact h
 have F1 : Hid _ := f1
 have F2 : Hid (Below w.heap.size w w3) := f2
 clear r1 r2 r3 f1 f2
 have i1 : (i : Int) < (n : Int) := by omega
 have i2 : ¬ ((i : Int) = (n : Int)) := by omega
 have i3 : i <= n := by omega
 have i4 : ¬ (n = i) := by omega
 have i5 : ¬ (G = i) := by omega
 have i6 : i <= n + 1 := by omega
 have i7 : n + 1 <= G := hG
 have i8 : (0 : Int) <= (i : Int) + 1 := by omega
 have i9 : ¬ (G = i + 1) := by omega
 have wq : IntKind.i64.wrap ((i : Int) + 1) = (i : Int) + 1 := by rw [IntKind.wrap_i64]; omega
 go_enter Tryz.func123, Tryz.ntmps123
 go_upto_region 10 with (at_builtin; refine wpList_app2 (by rfl) (.tmp 34) (.tmp 39) (by rfl) (by rfl) (by rfl) (by rfl) HA ?_)
 have cb := (HB (G - i)).out
 go_upto_region 11 with (fail)
 clear cb
 refine wp_region_till (S := fun L W => True) (by kernel_rfl) trivial (fun hS => ?_)
 refine tkg (i := 0) (v := .slice (some ⟨g, 0, none⟩) (n + 1) G) rfl hS (fun hSb => ?_)
 simp only [pA,pB,pC,Act.put,pD,pE,pF]
 clear hS
 refine tkg (i := 1) (v := .int .i64 (i : Int)) rfl hSb (fun hS => ?_)
 simp only [pA,pB,pC,Act.put,pD,pE,pF]
 clear hSb
 refine tkg (i := 2) (v := .int .i64 1) rfl hS (fun hSb => ?_)
 simp only [pA,pB,pC,Act.put,pD,pE,pF]
 clear hS
 refine tkg (i := 3) (v := .int .i64 ((i : Int) + 1)) rfl hSb (fun hS => ?_)
 simp only [pA,pB,pC,Act.put,pD,pE,pF]
 clear hSb
 refine tkg (i := 4) (v := .slice (some ⟨g, (i + 1) * 6, none⟩) (n - i) (G - (i + 1))) rfl hS (fun hSb => ?_)
 simp only [pA,pB,pC,Act.put,pD,pE,pF]
 clear hS
 refine tkg (i := 5) (v := .slice (some ⟨b, 0, none⟩) n n) rfl hSb (fun hS => ?_)
 simp only [pA,pB,pC,Act.put,pD,pE,pF]
 clear hSb
 refine tkg (i := 6) (v := .int .i64 (i : Int)) rfl hS (fun hSb => ?_)
 simp only [pA,pB,pC,Act.put,pD,pE,pF]
 clear hS
 refine tkg (i := 7) (v := .slice (some ⟨b, i * 6, none⟩) (n - i) (n - i)) rfl hSb (fun hS => ?_)
 simp only [pA,pB,pC,Act.put,pD,pE,pF]
 clear hSb
 refine till_one (i := 8) (by kernel_rfl) rfl (fun K hK => ?_)
 simp only [pA,pB,pC]
 rw [if_pos (by rfl)]
 refine wp_cpy (.tmp 50) (.tmp 53) (by rfl) (by rfl) (by rfl) (by rfl) (HC (G - (i + 1)) (n - i)) ?_
 refine hK.out _ _ (trivial) (fun hSb => ?_)
 clear hK K
 try simp only [pA,pB,pC,Act.put,pD,pE,pF]
 clear hS
 refine till_done (by kernel_rfl) ?_ _
 clear hSb
 show (Exit.then _ _) .normal _ _
 go_wp2
 go_ret
 exact ⟨_, G, rfl, by rw [Hg.out]; exact F1.out, F2.out⟩
set_option maxHeartbeats 4000000 in
theorem insEB {w : World} {lo hi : Nat} {a : Option Addr} {n c vb : Nat} {X : List Bkx} {y : Bkx} (hA : Hid (Rw w lo hi 65 EBk a n c X)) (hlo : lo <= w.heap.size) (hn : n + 1 <= 1048576) (hv : Hid (w.heap[vb]? = some (.cells (EBk.e y).toArray 65 (0, 0)))) :
  Calls Tryz.prog 116 #[.slice a n c,.int .i64 n,.slice (some ⟨vb, 0, none⟩) 1 1] w fun e w' => ∃ a' c', e = .returned (.slice a' (n + 1) c') /\ Hid (Rw w' lo w'.heap.size 65 EBk a' (n + 1) c' (X ++ [y]) /\ Ch w w' (fun q => blkOf a = some q)) := by
 obtain ⟨a', c', w', r1, f1, f2⟩ := app_end hA.out hn hlo Tryz.underlying56 inf65 rfl (by decide) hv.out
 have HA : Hid ((Builtin.append_ #[56, 56] 56 #[.slice a n c,.slice (some ⟨vb, 0, none⟩) 1 1]).run Tryz.prog w = .ok (.slice a' (n + 1) c') w') := r1
 have F : Hid (Rw w' lo w'.heap.size 65 EBk a' (n + 1) c' (X ++ [y]) /\ Ch w w' (fun q => blkOf a = some q)) := ⟨f1, f2⟩
 have i1 : n <= c := hA.out.cap
 clear r1 f1 f2
 go_enter Tryz.func116, Tryz.ntmps116
 go_wp2_with (at_builtin; refine wpList_appt (by rfl) (.tmp 23) (.tmp 24) (by rfl) (by rfl) (by rfl) (by rfl) HA ?_)
 all_goals
  go_ret
  exact ⟨a', c', rfl, F.out⟩
set_option maxHeartbeats 8000000 in
theorem set_B {w : World} {lo hi : Nat} {a : Option Addr} {n : Nat} {X : List Bkx} {y : Bkx} {A : Array Value} (s : ByteArray) (hA : Hid (Rw w lo hi 65 EBk a n n X)) (hlo : lo <= w.heap.size) (hn : n + 1 <= 1048576) (hy : Hid (A = (EBk.e y).toArray)) :
  Calls Tryz.prog 91 #[.slice a n n,.string s, .func (.func 50) #[] #[], .agg A] w fun e w' => ∃ a' n' c', e = .returned (.slice a' n' c') /\ Hid (Rw w' lo w'.heap.size 65 EBk a' n' c' (setX (byN s) Bkx.bk X y) /\ Ch w w' (fun q => blkOf a = some q)) := by
 have LX : Hid (n = X.length) := hA.out.len
 have az : A.size = 5 := arr_sz hy.out
 have ai : (Tryz.prog.info? 65).map (·.size) = some A.size := by rw [az]; exact inz65
 have AA : Hid (A.all (·.oneCell') = true) := arr_all hy.out
 obtain ⟨w1, Hw1⟩ := nm (w.alloc (.cells A 65))
 obtain ⟨g, Hg⟩ := nm (w.heap.size)
 have B1 : Hid (Below w.heap.size w w1) := by rw [<- Hw1.out]; exact alloc1 w _
 have k1 : Hid (w1.heap[g]? = some (.cells A 65 (0, 0))) := by
  rw [<- Hw1.out, <- Hg.out]
  exact heap_alloc_new w _
 have A1 : Hid (Rw w1 lo hi 65 EBk a n n X) := hA.out.below B1.out
 obtain ⟨p, Hp⟩ := nm (plcB (byN s) (X.map Bkx.bk))
 have Hpd : Hid (plcB (byN s) (X.map Bkx.bk) = p) := by exact Hp.out
 have pn : p <= n := by rw [<- Hp.out, LX.out]; rw [<- List.length_map (f := Bkx.bk)]; exact plcB_le _ _
 have FD : Hid (Array.foldl (fun cs (x : Value × Nat) => cs.setIfInBounds x.snd x.fst) #[.string ⟨#[]⟩,.int .i64 0,.int .i64 0,.slice none 0 0,.slice none 0 0] A.zipIdx 0 5 = A) := fold65 hy.out
 go_enter Tryz.func91, Tryz.ntmps91
 go_upto_region 1 with (fail)
 rw [Hw1.out, Hg.out]
 clear Hw1
 by_cases hb : isB (byN s) (X.map Bkx.bk) = true
 . have HS : Hid (isB (byN s) (X.map Bkx.bk) = true) := hb
   have HSd : Hid (isB (byN s) (X.map Bkx.bk) = true) := by exact hb
   have pl : p < n := by rw [<- Hp.out, LX.out]; rw [<- List.length_map (f := Bkx.bk)]; exact isB_lt hb
   clear hb
   obtain ⟨b, rfl, _, _, _⟩ := A1.out.at_ (i := p) (by rw [<- LX.out]; exact pl)
   go_upto_region 4 with (go_at_call 49; refine (findB s A1 (by omega)).mono ?_; rintro e w2 ⟨rfl, H2⟩; rw [Hp.out, HS.out])
   clear pn
   have k2 := sh H2 k1
   have A2 : Hid (Rw w2 lo hi 65 EBk (some ⟨b, 0, none⟩) n n X) := A1.out.below H2.out
   have T2 : Hid (w2.there b (p * 5) A.size) := by rw [az]; exact A2.out.thereAt pl
   go_wp2_with (first
    | (refine wpList_load_row (by rfl) 65 (.tmp 7) (by rfl) (g) (by rfl) 65 A (0, 0) _ k2.out Tryz.underlying65 rfl ai ?_)
    | (refine wpList_store_mid (by rfl) 65 (.tmp 28) (.tmp 27) (by rfl) b (p * 5) A (by rfl) (by rfl) T2.out ai AA.out ?_))
   go_ret
   refine ⟨_, n, n, rfl, ?_, ?_⟩
   . unfold setX
     rw [if_pos HSd.out, Hpd.out]
     have e : A.toList = EBk.e y := by rw [hy.out]
     rw [e]
     exact (A2.out.setAt pl y).full
   . exact ((Ch.below B1.out).trans (Ch.below H2.out)).trans ((ch_setCells _ _ _).weak (fun q _ h => by rw [h]; rfl))
 . have HS : Hid (isB (byN s) (X.map Bkx.bk) = false) := Bool.eq_false_iff.2 hb
   have HSd : Hid (¬ isB (byN s) (X.map Bkx.bk) = true) := by exact hb
   clear hb
   go_upto_region 3 with (go_at_call 49; refine (findB s A1 (by omega)).mono ?_; rintro e w2 ⟨rfl, H2⟩; rw [Hp.out, HS.out])
   have k2 := sh H2 k1
   obtain ⟨gv, Hgv⟩ := nm (w2.heap.size)
   obtain ⟨w3, Hw3⟩ := nm (w2.alloc (.cells A 65))
   have b3 : Hid (Below w2.heap.size w2 w3) := by rw [<- Hw3.out]; exact alloc1 w2 _
   have k3 : Hid (w3.heap[gv]? = some (.cells (EBk.e y).toArray 65 (0, 0))) := by rw [<- Hw3.out, <- Hgv.out, <- hy.out]; exact heap_alloc_new w2 _
   have B3 : Hid (Below w.heap.size w w3) := (B1.out.trans (H2.out.mono B1.out.size)).trans (b3.out.mono (Nat.le_trans B1.out.size H2.out.size))
   have A3 : Hid (Rw w3 lo hi 65 EBk a n n X) := hA.out.below B3.out
   have L3 : lo <= w3.heap.size := Nat.le_trans hlo B3.out.size
   have SX : Hid (setX (byN s) Bkx.bk X y = X.take p ++ y :: X.drop p) := by show _ = _; unfold setX; rw [if_neg HSd.out, Hpd.out]
   clear b3
   by_cases hpn : p < n
   . go_wp2_with (first
      | (refine wpList_load_row (by rfl) 65 (.tmp 7) (by rfl) (g) (by rfl) 65 A (0, 0) _ k2.out Tryz.underlying65 rfl ai ?_)
      | (go_at_call 116; rw [FD.out, Hw3.out, Hgv.out]; refine (insB A3 (by omega) hpn k3).mono ?_; rintro e w4 ⟨a', c', rfl, H4⟩))
     go_ret
     refine ⟨a', n + 1, c', rfl, ?_, (Ch.below B3.out).trans (Ch.below H4.out.2)⟩
     rw [SX.out]
     exact H4.out.1.mono L3 (Nat.le_refl _)
   . obtain rfl : p = n := by omega
     go_wp2_with (first
      | (refine wpList_load_row (by rfl) 65 (.tmp 7) (by rfl) (g) (by rfl) 65 A (0, 0) _ k2.out Tryz.underlying65 rfl ai ?_)
      | (go_at_call 116; rw [FD.out, Hw3.out, Hgv.out]; refine (insEB A3 L3 hn k3).mono ?_; rintro e w4 ⟨a', c', rfl, H4⟩))
     go_ret
     refine ⟨a', p + 1, c', rfl, ?_, (Ch.below B3.out).trans H4.out.2⟩
     rw [SX.out, List.take_of_length_le (by have := LX.out; omega), List.drop_of_length_le (by have := LX.out; omega)]
     exact H4.out.1
set_option maxHeartbeats 4000000 in
theorem insEO {w : World} {lo hi : Nat} {a : Option Addr} {n c vb : Nat} {X : List Obx} {y : Obx} (hA : Hid (Rw w lo hi 71 EOb a n c X)) (hlo : lo <= w.heap.size) (hn : n + 1 <= 1048576) (hv : Hid (w.heap[vb]? = some (.cells (EOb.e y).toArray 71 (0, 0)))) :
  Calls Tryz.prog 118 #[.slice a n c,.int .i64 n,.slice (some ⟨vb, 0, none⟩) 1 1] w fun e w' => ∃ a' c', e = .returned (.slice a' (n + 1) c') /\ Hid (Rw w' lo w'.heap.size 71 EOb a' (n + 1) c' (X ++ [y]) /\ Ch w w' (fun q => blkOf a = some q)) := by
 obtain ⟨a', c', w', r1, f1, f2⟩ := app_end hA.out hn hlo Tryz.underlying62 inf71 rfl (by decide) hv.out
 have HA : Hid ((Builtin.append_ #[62, 62] 62 #[.slice a n c,.slice (some ⟨vb, 0, none⟩) 1 1]).run Tryz.prog w = .ok (.slice a' (n + 1) c') w') := r1
 have F : Hid (Rw w' lo w'.heap.size 71 EOb a' (n + 1) c' (X ++ [y]) /\ Ch w w' (fun q => blkOf a = some q)) := ⟨f1, f2⟩
 have i1 : n <= c := hA.out.cap
 clear r1 f1 f2
 go_enter Tryz.func118, Tryz.ntmps118
 go_wp2_with (at_builtin; refine wpList_appt (by rfl) (.tmp 23) (.tmp 24) (by rfl) (by rfl) (by rfl) (by rfl) HA ?_)
 all_goals
  go_ret
  exact ⟨a', c', rfl, F.out⟩
set_option maxHeartbeats 8000000 in
theorem set_O {w : World} {lo hi : Nat} {a : Option Addr} {n : Nat} {X : List Obx} {y : Obx} {A : Array Value} (s : ByteArray) (hA : Hid (Rw w lo hi 71 EOb a n n X)) (hlo : lo <= w.heap.size) (hn : n + 1 <= 1048576) (hy : Hid (A = (EOb.e y).toArray)) :
  Calls Tryz.prog 96 #[.slice a n n,.string s, .func (.func 53) #[] #[], .agg A] w fun e w' => ∃ a' n' c', e = .returned (.slice a' n' c') /\ Hid (Rw w' lo w'.heap.size 71 EOb a' n' c' (setX (byK s) Obx.ob X y) /\ Ch w w' (fun q => blkOf a = some q)) := by
 have LX : Hid (n = X.length) := hA.out.len
 have az : A.size = 5 := arr_sz hy.out
 have ai : (Tryz.prog.info? 71).map (·.size) = some A.size := by rw [az]; exact inz71
 have AA : Hid (A.all (·.oneCell') = true) := arr_all hy.out
 obtain ⟨w1, Hw1⟩ := nm (w.alloc (.cells A 71))
 obtain ⟨g, Hg⟩ := nm (w.heap.size)
 have B1 : Hid (Below w.heap.size w w1) := by rw [<- Hw1.out]; exact alloc1 w _
 have k1 : Hid (w1.heap[g]? = some (.cells A 71 (0, 0))) := by
  rw [<- Hw1.out, <- Hg.out]
  exact heap_alloc_new w _
 have A1 : Hid (Rw w1 lo hi 71 EOb a n n X) := hA.out.below B1.out
 obtain ⟨p, Hp⟩ := nm (plcB (byK s) (X.map Obx.ob))
 have Hpd : Hid (plcB (byK s) (X.map Obx.ob) = p) := by exact Hp.out
 have pn : p <= n := by rw [<- Hp.out, LX.out]; rw [<- List.length_map (f := Obx.ob)]; exact plcB_le _ _
 have FD : Hid (Array.foldl (fun cs (x : Value × Nat) => cs.setIfInBounds x.snd x.fst) #[.string ⟨#[]⟩,.int .i64 0,.string ⟨#[]⟩,.int .i64 0,.slice none 0 0] A.zipIdx 0 5 = A) := fold71 hy.out
 go_enter Tryz.func96, Tryz.ntmps96
 go_upto_region 1 with (fail)
 rw [Hw1.out, Hg.out]
 clear Hw1
 by_cases hb : isB (byK s) (X.map Obx.ob) = true
 . have HS : Hid (isB (byK s) (X.map Obx.ob) = true) := hb
   have HSd : Hid (isB (byK s) (X.map Obx.ob) = true) := by exact hb
   have pl : p < n := by rw [<- Hp.out, LX.out]; rw [<- List.length_map (f := Obx.ob)]; exact isB_lt hb
   clear hb
   obtain ⟨b, rfl, _, _, _⟩ := A1.out.at_ (i := p) (by rw [<- LX.out]; exact pl)
   go_upto_region 4 with (go_at_call 52; refine (findO s A1 (by omega)).mono ?_; rintro e w2 ⟨rfl, H2⟩; rw [Hp.out, HS.out])
   clear pn
   have k2 := sh H2 k1
   have A2 : Hid (Rw w2 lo hi 71 EOb (some ⟨b, 0, none⟩) n n X) := A1.out.below H2.out
   have T2 : Hid (w2.there b (p * 5) A.size) := by rw [az]; exact A2.out.thereAt pl
   go_wp2_with (first
    | (refine wpList_load_row (by rfl) 71 (.tmp 7) (by rfl) (g) (by rfl) 71 A (0, 0) _ k2.out Tryz.underlying71 rfl ai ?_)
    | (refine wpList_store_mid (by rfl) 71 (.tmp 28) (.tmp 27) (by rfl) b (p * 5) A (by rfl) (by rfl) T2.out ai AA.out ?_))
   go_ret
   refine ⟨_, n, n, rfl, ?_, ?_⟩
   . unfold setX
     rw [if_pos HSd.out, Hpd.out]
     have e : A.toList = EOb.e y := by rw [hy.out]
     rw [e]
     exact (A2.out.setAt pl y).full
   . exact ((Ch.below B1.out).trans (Ch.below H2.out)).trans ((ch_setCells _ _ _).weak (fun q _ h => by rw [h]; rfl))
 . have HS : Hid (isB (byK s) (X.map Obx.ob) = false) := Bool.eq_false_iff.2 hb
   have HSd : Hid (¬ isB (byK s) (X.map Obx.ob) = true) := by exact hb
   clear hb
   go_upto_region 3 with (go_at_call 52; refine (findO s A1 (by omega)).mono ?_; rintro e w2 ⟨rfl, H2⟩; rw [Hp.out, HS.out])
   have k2 := sh H2 k1
   obtain ⟨gv, Hgv⟩ := nm (w2.heap.size)
   obtain ⟨w3, Hw3⟩ := nm (w2.alloc (.cells A 71))
   have b3 : Hid (Below w2.heap.size w2 w3) := by rw [<- Hw3.out]; exact alloc1 w2 _
   have k3 : Hid (w3.heap[gv]? = some (.cells (EOb.e y).toArray 71 (0, 0))) := by rw [<- Hw3.out, <- Hgv.out, <- hy.out]; exact heap_alloc_new w2 _
   have B3 : Hid (Below w.heap.size w w3) := (B1.out.trans (H2.out.mono B1.out.size)).trans (b3.out.mono (Nat.le_trans B1.out.size H2.out.size))
   have A3 : Hid (Rw w3 lo hi 71 EOb a n n X) := hA.out.below B3.out
   have L3 : lo <= w3.heap.size := Nat.le_trans hlo B3.out.size
   have SX : Hid (setX (byK s) Obx.ob X y = X.take p ++ y :: X.drop p) := by show _ = _; unfold setX; rw [if_neg HSd.out, Hpd.out]
   clear b3
   by_cases hpn : p < n
   . go_wp2_with (first
      | (refine wpList_load_row (by rfl) 71 (.tmp 7) (by rfl) (g) (by rfl) 71 A (0, 0) _ k2.out Tryz.underlying71 rfl ai ?_)
      | (go_at_call 118; rw [FD.out, Hw3.out, Hgv.out]; refine (insO A3 (by omega) hpn k3).mono ?_; rintro e w4 ⟨a', c', rfl, H4⟩))
     go_ret
     refine ⟨a', n + 1, c', rfl, ?_, (Ch.below B3.out).trans (Ch.below H4.out.2)⟩
     rw [SX.out]
     exact H4.out.1.mono L3 (Nat.le_refl _)
   . obtain rfl : p = n := by omega
     go_wp2_with (first
      | (refine wpList_load_row (by rfl) 71 (.tmp 7) (by rfl) (g) (by rfl) 71 A (0, 0) _ k2.out Tryz.underlying71 rfl ai ?_)
      | (go_at_call 118; rw [FD.out, Hw3.out, Hgv.out]; refine (insEO A3 L3 hn k3).mono ?_; rintro e w4 ⟨a', c', rfl, H4⟩))
     go_ret
     refine ⟨a', p + 1, c', rfl, ?_, (Ch.below B3.out).trans H4.out.2⟩
     rw [SX.out, List.take_of_length_le (by have := LX.out; omega), List.drop_of_length_le (by have := LX.out; omega)]
     exact H4.out.1
set_option maxHeartbeats 4000000 in
theorem insEP {w : World} {lo hi : Nat} {a : Option Addr} {n c vb : Nat} {X : List Ptd} {y : Ptd} (hA : Hid (Rw w lo hi 108 EPt a n c X)) (hlo : lo <= w.heap.size) (hn : n + 1 <= 1048576) (hv : Hid (w.heap[vb]? = some (.cells (EPt.e y).toArray 108 (0, 0)))) :
  Calls Tryz.prog 123 #[.slice a n c,.int .i64 n,.slice (some ⟨vb, 0, none⟩) 1 1] w fun e w' => ∃ a' c', e = .returned (.slice a' (n + 1) c') /\ Hid (Rw w' lo w'.heap.size 108 EPt a' (n + 1) c' (X ++ [y]) /\ Ch w w' (fun q => blkOf a = some q)) := by
 obtain ⟨a', c', w', r1, f1, f2⟩ := app_end hA.out hn hlo Tryz.underlying75 inf108 rfl (by decide) hv.out
 have HA : Hid ((Builtin.append_ #[75, 75] 75 #[.slice a n c,.slice (some ⟨vb, 0, none⟩) 1 1]).run Tryz.prog w = .ok (.slice a' (n + 1) c') w') := r1
 have F : Hid (Rw w' lo w'.heap.size 108 EPt a' (n + 1) c' (X ++ [y]) /\ Ch w w' (fun q => blkOf a = some q)) := ⟨f1, f2⟩
 have i1 : n <= c := hA.out.cap
 clear r1 f1 f2
 go_enter Tryz.func123, Tryz.ntmps123
 go_wp2_with (at_builtin; refine wpList_appt (by rfl) (.tmp 23) (.tmp 24) (by rfl) (by rfl) (by rfl) (by rfl) HA ?_)
 all_goals
  go_ret
  exact ⟨a', c', rfl, F.out⟩
set_option maxHeartbeats 8000000 in
theorem set_P {w : World} {lo hi : Nat} {a : Option Addr} {n : Nat} {X : List Ptd} {y : Ptd} {A : Array Value} (m : Int) (hA : Hid (Rw w lo hi 108 EPt a n n X)) (hlo : lo <= w.heap.size) (hn : n + 1 <= 1048576) (hy : Hid (A = (EPt.e y).toArray)) :
  Calls Tryz.prog 102 #[.slice a n n,.int .i64 m, .func (.func 103) #[] #[], .agg A] w fun e w' => ∃ a' n' c', e = .returned (.slice a' n' c') /\ Hid (Rw w' lo w'.heap.size 108 EPt a' n' c' (setX (byP m) id X y) /\ Ch w w' (fun q => blkOf a = some q)) := by
 have LX : Hid (n = X.length) := hA.out.len
 have az : A.size = 6 := arr_sz hy.out
 have ai : (Tryz.prog.info? 108).map (·.size) = some A.size := by rw [az]; exact inz108
 have AA : Hid (A.all (·.oneCell') = true) := arr_all hy.out
 obtain ⟨w1, Hw1⟩ := nm (w.alloc (.cells A 108))
 obtain ⟨g, Hg⟩ := nm (w.heap.size)
 have B1 : Hid (Below w.heap.size w w1) := by rw [<- Hw1.out]; exact alloc1 w _
 have k1 : Hid (w1.heap[g]? = some (.cells A 108 (0, 0))) := by
  rw [<- Hw1.out, <- Hg.out]
  exact heap_alloc_new w _
 have A1 : Hid (Rw w1 lo hi 108 EPt a n n X) := hA.out.below B1.out
 obtain ⟨p, Hp⟩ := nm (plcB (byP m) X)
 have Hpd : Hid (plcB (byP m) (X.map id) = p) := by rw [List.map_id]; exact Hp.out
 have pn : p <= n := by rw [<- Hp.out, LX.out]; exact plcB_le _ _
 have FD : Hid (Array.foldl (fun cs (x : Value × Nat) => cs.setIfInBounds x.snd x.fst) #[.int .i64 0,.int .i64 0,.int .i64 0,.int .i64 0,.int .i64 0,.string ⟨#[]⟩] A.zipIdx 0 6 = A) := fold108 hy.out
 go_enter Tryz.func102, Tryz.ntmps102
 go_upto_region 1 with (fail)
 rw [Hw1.out, Hg.out]
 clear Hw1
 by_cases hb : isB (byP m) X = true
 . have HS : Hid (isB (byP m) X = true) := hb
   have HSd : Hid (isB (byP m) (X.map id) = true) := by rw [List.map_id]; exact hb
   have pl : p < n := by rw [<- Hp.out, LX.out]; exact isB_lt hb
   clear hb
   obtain ⟨b, rfl, _, _, _⟩ := A1.out.at_ (i := p) (by rw [<- LX.out]; exact pl)
   go_upto_region 4 with (go_at_call 122; refine (findP m A1 (by omega)).mono ?_; rintro e w2 ⟨rfl, H2⟩; rw [Hp.out, HS.out])
   clear pn
   have k2 := sh H2 k1
   have A2 : Hid (Rw w2 lo hi 108 EPt (some ⟨b, 0, none⟩) n n X) := A1.out.below H2.out
   have T2 : Hid (w2.there b (p * 6) A.size) := by rw [az]; exact A2.out.thereAt pl
   go_wp2_with (first
    | (refine wpList_load_row (by rfl) 108 (.tmp 7) (by rfl) (g) (by rfl) 108 A (0, 0) _ k2.out Tryz.underlying108 rfl ai ?_)
    | (refine wpList_store_mid (by rfl) 108 (.tmp 28) (.tmp 27) (by rfl) b (p * 6) A (by rfl) (by rfl) T2.out ai AA.out ?_))
   go_ret
   refine ⟨_, n, n, rfl, ?_, ?_⟩
   . unfold setX
     rw [if_pos HSd.out, Hpd.out]
     have e : A.toList = EPt.e y := by rw [hy.out]
     rw [e]
     exact (A2.out.setAt pl y).full
   . exact ((Ch.below B1.out).trans (Ch.below H2.out)).trans ((ch_setCells _ _ _).weak (fun q _ h => by rw [h]; rfl))
 . have HS : Hid (isB (byP m) X = false) := Bool.eq_false_iff.2 hb
   have HSd : Hid (¬ isB (byP m) (X.map id) = true) := by rw [List.map_id]; exact hb
   clear hb
   go_upto_region 3 with (go_at_call 122; refine (findP m A1 (by omega)).mono ?_; rintro e w2 ⟨rfl, H2⟩; rw [Hp.out, HS.out])
   have k2 := sh H2 k1
   obtain ⟨gv, Hgv⟩ := nm (w2.heap.size)
   obtain ⟨w3, Hw3⟩ := nm (w2.alloc (.cells A 108))
   have b3 : Hid (Below w2.heap.size w2 w3) := by rw [<- Hw3.out]; exact alloc1 w2 _
   have k3 : Hid (w3.heap[gv]? = some (.cells (EPt.e y).toArray 108 (0, 0))) := by rw [<- Hw3.out, <- Hgv.out, <- hy.out]; exact heap_alloc_new w2 _
   have B3 : Hid (Below w.heap.size w w3) := (B1.out.trans (H2.out.mono B1.out.size)).trans (b3.out.mono (Nat.le_trans B1.out.size H2.out.size))
   have A3 : Hid (Rw w3 lo hi 108 EPt a n n X) := hA.out.below B3.out
   have L3 : lo <= w3.heap.size := Nat.le_trans hlo B3.out.size
   have SX : Hid (setX (byP m) id X y = X.take p ++ y :: X.drop p) := by show _ = _; unfold setX; rw [if_neg HSd.out, Hpd.out]
   clear b3
   by_cases hpn : p < n
   . go_wp2_with (first
      | (refine wpList_load_row (by rfl) 108 (.tmp 7) (by rfl) (g) (by rfl) 108 A (0, 0) _ k2.out Tryz.underlying108 rfl ai ?_)
      | (go_at_call 123; rw [FD.out, Hw3.out, Hgv.out]; refine (insP A3 (by omega) hpn k3).mono ?_; rintro e w4 ⟨a', c', rfl, H4⟩))
     go_ret
     refine ⟨a', n + 1, c', rfl, ?_, (Ch.below B3.out).trans (Ch.below H4.out.2)⟩
     rw [SX.out]
     exact H4.out.1.mono L3 (Nat.le_refl _)
   . obtain rfl : p = n := by omega
     go_wp2_with (first
      | (refine wpList_load_row (by rfl) 108 (.tmp 7) (by rfl) (g) (by rfl) 108 A (0, 0) _ k2.out Tryz.underlying108 rfl ai ?_)
      | (go_at_call 123; rw [FD.out, Hw3.out, Hgv.out]; refine (insEP A3 L3 hn k3).mono ?_; rintro e w4 ⟨a', c', rfl, H4⟩))
     go_ret
     refine ⟨a', p + 1, c', rfl, ?_, (Ch.below B3.out).trans H4.out.2⟩
     rw [SX.out, List.take_of_length_le (by have := LX.out; omega), List.drop_of_length_le (by have := LX.out; omega)]
     exact H4.out.1
end Go.Proofs.YtfabnnbljkkihaaGreatDoor
