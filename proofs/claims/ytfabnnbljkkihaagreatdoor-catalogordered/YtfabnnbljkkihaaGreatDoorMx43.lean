import Derived.Test.YtfabnnbljkkihaaGreatDoorMxp
import Derived.Test.YtfabnnbljkkihaaGreatDoorMx30
import Derived.Test.YtfabnnbljkkihaaGreatDoorMx01
namespace Go.Proofs.YtfabnnbljkkihaaGreatDoor
open Go.ChangeShapes Go.WideShapes Go.ChangeAt Go.RowKit
set_option maxRecDepth 20000
set_option linter.unusedVariables false
set_option linter.unusedSimpArgs false
theorem wpList_ldE {ops : Array Oper} {rest : List Oper} {op : Oper} {a : Act} {w : World} {Q : Exit -> Act -> World -> Prop} {t : TypeId} (hgd : op.guard = none) (x : Operand) (ho : op.op = .load t x) (b o : Nat) (hx : a.eval x = .pointer (some ⟨b, o, none⟩)) {V : Array Value} {cs : List Value} (hV : V = cs.toArray) (hc : w.rangeAt b o cs) {d : TypeDesc} (hu : Tryz.prog.underlying t = some d) (hd : d.isRow = true) (hi : (Tryz.prog.info? t).map (·.size) = some cs.length)
  (h : wpList Tryz.prog ops Q rest (a.put op.dst (.agg V)) w) : wpList Tryz.prog ops Q (op :: rest) a w := by
 subst hV
 exact wpList_load_mid hgd t x ho b o hx _ _ hc hu hd hi h
theorem res29 (tmps : Array Value) (w : World) (g : Nat) (C : Array Value) (b : Bool) (hp : tmps[6]?.getD undef = .pointer (some ⟨g, 0, none⟩)) (hb : tmps[7]?.getD undef = .bool b) (h4 : w.heap[g]? = some (.cells C 71 (0, 0))) (c2 : (Tryz.prog.info? 71).map (·.size) = some C.size) : (results Tryz.f29 tmps).run Tryz.prog w = .ok (.tuple #[.agg C, .bool b]) w := by
 simp [results, Tryz.results29, hp, hb, asAddr, run_loadVar_row w g 71 71 C (0, 0) _ h4 Tryz.underlying71 rfl c2]
theorem inzr29 : (Tryz.prog.info? 71).map (·.size) = some 5 := by kernel_rfl
structure Got71 (K : Nat) (w W : World) (L : Option Obd) (R : Array Value) (b : Bool) : Prop where
 b : b = L.isSome
 y : ∀ o, L = some o -> ∃ ox, R = (EOb.e ox).toArray /\ Obx.ob ox = o /\ ObO K W w.heap.size W.heap.size ox
set_option maxHeartbeats 8000000 in
theorem object_n {w : World} {A : Array Value} {P : Ctd} {K lo : Nat} {s k : ByteArray} (hK : K <= 1048576) (hA : Hid (Ctm K w lo A P)) :
  Calls Tryz.prog 29 #[.agg A,.string s,.string k] w fun e w' => ∃ R b, e = .returned (.tuple #[.agg R, .bool b]) /\ Hid (Got71 K w w' (lookO P s k) R b /\ Arr 5 R /\ Below w.heap.size w w') := by
 obtain ⟨a, n, c, X, fa, fn, fc, F, EA, CA, PA⟩ := hA.out
 subst PA
 obtain ⟨hi, Hhi⟩ := nm (w.heap.size)
 have HEA : Hid (A = #[.slice a n c,.slice fa fn fc]) := EA
 have HCA : Hid (CtO K w lo w.heap.size a n c X fa fn fc F) := CA
 clear EA CA hA
 obtain ⟨w1, Hw1⟩ := nm ((w.alloc (.cells A 58)).alloc (.cells #[.string ⟨#[]⟩,.int .i64 0,.string ⟨#[]⟩,.int .i64 0,.slice none 0 0] 71))
 obtain ⟨g, Hg⟩ := nm (w.heap.size)
 have B1 : Hid (Below w.heap.size w w1) := by rw [<- Hw1.out]; exact alloc2 w _ _
 have ka : Hid (w1.heap[g]? = some (.cells A 58 (0, 0))) := by
  rw [<- Hw1.out, <- Hg.out]
  exact ((alloc1 (w.alloc (.cells A 58)) _).block w.heap.size (by simp)).trans (heap_alloc_new w _)
 have kz : Hid (w1.heap[g + 1]? = some (.cells #[.string ⟨#[]⟩,.int .i64 0,.string ⟨#[]⟩,.int .i64 0,.slice none 0 0] 71 (0, 0))) := by
  rw [<- Hw1.out, <- Hg.out]
  have e : (w.alloc (.cells A 58)).heap.size = w.heap.size + 1 := by simp
  rw [<- e]
  exact heap_alloc_new _ _
 have RX : Hid (Rw w1 lo w.heap.size 65 EBk a n c X) := HCA.out.b.below B1.out
 have hnK : n <= 1048576 := Nat.le_trans HCA.out.k.1 hK
 have qa0 : w1.cell? ⟨g, 0, none⟩ = some (.slice a n c) := cell_arr ka.out (by rw [HEA.out]; rfl)
 go_enter Tryz.func29, Tryz.ntmps29
 go_upto_region 1 with (fail)
 rw [Hw1.out, Hg.out]
 clear Hw1
 by_cases hb : isB (byN s) (X.map Bkx.bk) = true
 rotate_left
 . have hb2 : isB (byN s) (X.map Bkx.bk) = false := by simpa using hb
   have HN : Hid ((lookO (Ctd.mk (X.map Bkx.bk) F) s k) = none) := by
    show _ = _
    unfold lookO lookB
    rw [if_neg hb]
    rfl
   clear hb
   go_wp2_with (first
    | (go_at_call 49; refine (findB s RX hnK).mono ?_; rintro e w2 ⟨rfl, H2⟩; rw [hb2]
       have kz2 := sh H2 kz
       have B2 := bt B1 H2)
    | (refine wpList_store_row (by rfl) 71 (.tmp 6) (.tmp 21) (by rfl) (g + 1) #[.string ⟨#[]⟩,.int .i64 0,.string ⟨#[]⟩,.int .i64 0,.slice none 0 0] (by rfl) (by rfl) 71 _ kz2.out inzr29 rfl (by kernel_rfl) ?_))
   refine bodyPost_ret (res29 _ _ (g + 1) #[.string ⟨#[]⟩,.int .i64 0,.string ⟨#[]⟩,.int .i64 0,.slice none 0 0] false (by rfl) (by rfl) (setRow_heap _ _ _ _ _ _ kz2.out) inzr29) rfl ⟨_, _, rfl, ?_⟩
   exact ⟨by have h := HN.out; exact ⟨(by rw [h]; rfl), fun o ho => by rw [h] at ho; cases ho⟩, ⟨rfl, by kernel_rfl⟩, below_setRow B2.out (by have := Hg.out; omega) _⟩
 have HLB : Hid (X.length = n) := RX.out.len.symm
 have hp : plcB (byN s) (X.map Bkx.bk) < X.length := by have := isB_lt hb; simpa using this
 obtain ⟨x, Hx⟩ := nm (X[plcB (byN s) (X.map Bkx.bk)])
 have EXx : Hid (X[plcB (byN s) (X.map Bkx.bk)]? = some x) := by show _ = _; rw [List.getElem?_eq_getElem hp, Hx.out]
 have LB : Hid (lookB ⟨X.map Bkx.bk, F⟩ s = some x.bk) := by
  show _ = _
  unfold lookB
  rw [if_pos hb]
  show (X.map Bkx.bk)[plcB (byN s) (X.map Bkx.bk)]? = some x.bk
  rw [List.getElem?_map, EXx.out]; rfl
 have XO : Hid (BkO K w lo w.heap.size x) := HCA.out.bb x (List.mem_of_getElem? EXx.out)
 obtain ⟨pl, Hpl⟩ := nm (plcB (byN s) (X.map Bkx.bk))
 rw [Hpl.out] at hp EXx
 have ip : (pl : Int) < (n : Int) := by have := HLB.out; omega
 go_upto_region 4 with (go_at_call 49; refine (findB s RX hnK).mono ?_; rintro e w2 ⟨rfl, H2⟩; rw [hb, Hpl.out])
 clear qa0
 have B2 := bt B1 H2
 have ka2 := sh H2 ka
 have kz2 := sh H2 kz
 have q2 : w2.cell? ⟨g, 0, none⟩ = some (.slice a n c) := cell_arr ka2.out (by rw [HEA.out]; rfl)
 obtain ⟨b1, e1, _, _, r1⟩ := (RX.out.below H2.out).at_ hp
 subst e1
 have E2 : X[pl] = x := Option.some.inj ((List.getElem?_eq_getElem hp).symm.trans EXx.out)
 rw [E2] at r1
 have q3 : w2.cell? ⟨b1, pl * 5 + 3, none⟩ = some (.slice x.oa x.on x.oc) := r1 3 _ rfl

 go_upto_region 5 with (fail)
 clear q2 q3 r1 E2
 have O2 : Hid (BkO K w2 lo w.heap.size x) := XO.out.keep (fun q _ _ hq => B2.out.block q hq)
 have R2 : Hid (Rw w2 lo w.heap.size 71 EOb x.oa x.on x.oc x.ox) := O2.out.o
 have hoK : x.on <= 1048576 := Nat.le_trans O2.out.k.1 hK
 by_cases hq : isB (byK k) (x.ox.map Obx.ob) = true
 rotate_left
 . have hq2 : isB (byK k) (x.ox.map Obx.ob) = false := by simpa using hq
   have HN : Hid ((lookO (Ctd.mk (X.map Bkx.bk) F) s k) = none) := by
    show _ = _
    unfold lookO
    rw [LB.out]
    show lkO x.bk k = none
    unfold lkO
    rw [if_neg (show ¬ isB (byK k) x.bk.obs = true from hq)]
   clear hq
   go_wp2_with (first
    | (go_at_call 52; refine (findO k R2 hoK).mono ?_; rintro e w3 ⟨rfl, H3⟩; rw [hq2]
       have kz3 := sh H3 kz2
       have B3 := bt B2 H3)
    | (refine wpList_store_row (by rfl) 71 (.tmp 6) (.tmp 36) (by rfl) (g + 1) #[.string ⟨#[]⟩,.int .i64 0,.string ⟨#[]⟩,.int .i64 0,.slice none 0 0] (by rfl) (by rfl) 71 _ kz3.out inzr29 rfl (by kernel_rfl) ?_))
   refine bodyPost_ret (res29 _ _ (g + 1) #[.string ⟨#[]⟩,.int .i64 0,.string ⟨#[]⟩,.int .i64 0,.slice none 0 0] false (by rfl) (by rfl) (setRow_heap _ _ _ _ _ _ kz3.out) inzr29) rfl ⟨_, _, rfl, ?_⟩
   exact ⟨by have h := HN.out; exact ⟨(by rw [h]; rfl), fun o ho => by rw [h] at ho; cases ho⟩, ⟨rfl, by kernel_rfl⟩, below_setRow B3.out (by have := Hg.out; omega) _⟩
 have ho : plcB (byK k) (x.ox.map Obx.ob) < x.ox.length := by
  have := isB_lt hq; simpa using this
 obtain ⟨o, Ho⟩ := nm (x.ox[plcB (byK k) (x.ox.map Obx.ob)])
 have EO : Hid (x.ox[plcB (byK k) (x.ox.map Obx.ob)]? = some o) := by show _ = _; rw [List.getElem?_eq_getElem ho, Ho.out]
 have L2 : Hid ((lookO (Ctd.mk (X.map Bkx.bk) F) s k) = some (Obx.ob o)) := by
  show _ = _
  unfold lookO
  rw [LB.out]
  show lkO x.bk k = some (Obx.ob o)
  unfold lkO
  rw [if_pos (show isB (byK k) x.bk.obs = true from hq)]
  show (x.ox.map Obx.ob)[plcB (byK k) (x.ox.map Obx.ob)]? = some o.ob
  rw [List.getElem?_map, EO.out]; rfl
 obtain ⟨p2, Hp2⟩ := nm (plcB (byK k) (x.ox.map Obx.ob))
 rw [Hp2.out] at ho EO
 have io : (p2 : Int) < (x.on : Int) := by have := R2.out.len; omega
 have OO : Hid (ObO K w2 lo w.heap.size o) := O2.out.oo o (List.mem_of_getElem? EO.out)
 go_upto_region 8 with (go_at_call 52; refine (findO k R2 hoK).mono ?_; rintro e w3 ⟨rfl, H3⟩; rw [hq, Hp2.out])
 have B3 := bt B2 H3
 have kz3 := sh H3 kz2
 obtain ⟨b2, e2, _, _, r2⟩ := (R2.out.below H3.out).at_ ho
 rw [e2]
 have E3 : x.ox[p2] = o := Option.some.inj ((List.getElem?_eq_getElem ho).symm.trans EO.out)
 rw [E3] at r2
 have R1 : Hid (w3.rangeAt b2 (p2 * 5) (EOb.e o)) := r2
 have O3 : Hid (ObO K w3 lo w.heap.size o) := OO.out.keep (fun q _ _ hq => H3.out.block q hq)
 obtain ⟨V, HV⟩ : ∃ V, Hid (V = (EOb.e o).toArray) := ⟨_, rfl⟩
 have v5 : Hid (V = (EOb.e o).toArray) := HV
 go_wp2_with (first
  | (refine wpList_ldE (by rfl) (.tmp 39) (by rfl) b2 (p2 * 5) (by rfl) HV.out R1.out Tryz.underlying71 rfl (by kernel_rfl) ?_)
  | (go_at_call 54; refine (copyObject_e hK o O3 V HV).mono ?_; rintro e w4 ⟨R, rfl, H4⟩
     have RS : Hid (Arr 5 R) := (by obtain ⟨y, h1, _⟩ := H4.out; rw [h1]; exact ⟨rfl, by kernel_rfl⟩ : Arr 5 R)
     have r5 : (Tryz.prog.info? 71).map (·.size) = some R.size := (by rw [RS.out.1]; exact inzr29)
     have B4 : Hid (Below w3.heap.size w3 w4) := H4.out.choose_spec.2.2.2
     have kz4 := sh B4 kz3)
  | (refine wpList_store_row (by rfl) 71 (.tmp 6) (.tmp 41) (by rfl) (g + 1) R (by rfl) (by rfl) 71 _ kz4.out r5 (by rw [RS.out.1]; rfl) RS.out.2 ?_))
 refine bodyPost_ret (res29 _ _ (g + 1) R true (by rfl) (by rfl) (setRow_heap _ _ _ _ _ _ kz4.out) r5) rfl ⟨_, _, rfl, ?_⟩
 obtain ⟨y, y1, y2, y3, y4⟩ := H4.out
 have gz : g + 1 < w3.heap.size := (gl kz3.out)
 refine ⟨⟨by rw [L2.out]; rfl, fun o2 ho2 => ⟨y, y1, ?_, ?_⟩⟩, RS.out, below_setRow (B3.out.trans (B4.out.mono B3.out.size)) (by have := Hg.out; omega) _⟩
 . rw [L2.out] at ho2
   exact y2.trans (Option.some.inj ho2)
 . have y5 := (y3).keep (w' := w4.setRow (g + 1) R) (fun q h1 _ _ => setRow_other _ _ _ _ (by omega))
   exact y5.mono (by have := B3.out.size; omega) (by rw [setRow_size]; exact Nat.le_refl _)
end Go.Proofs.YtfabnnbljkkihaaGreatDoor
