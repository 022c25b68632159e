import Derived.Test.YtfabnnbljkkihaaGreatDoorMxp
import Derived.Test.YtfabnnbljkkihaaGreatDoorMx19
import Derived.Test.YtfabnnbljkkihaaGreatDoorMx14
import Derived.Test.YtfabnnbljkkihaaGreatDoorMx30
import Derived.Test.YtfabnnbljkkihaaGreatDoorMx39
import Derived.Test.YtfabnnbljkkihaaGreatDoorMx41
import Derived.Test.YtfabnnbljkkihaaGreatDoorMx42
import Derived.Test.YtfabnnbljkkihaaGreatDoorMx43
import Derived.Test.YtfabnnbljkkihaaGreatDoorMx24
namespace Go.Proofs.YtfabnnbljkkihaaGreatDoor
open Go.ChangeShapes Go.WideShapes Go.ChangeAt Go.RowKit
set_option maxRecDepth 20000
set_option linter.unusedVariables false
set_option linter.unusedSimpArgs false
structure AtL (w W : World) (g : Nat) (C : Array Value) (I : World -> Nat -> Array Value -> Prop) (i : Nat) : Prop where
 b : W.heap[g + 1]? = some (.cells C 58 (0, 0))
 z : ∃ C4, W.heap[g]? = some (.cells C4 58 (0, 0)) /\ 2 = C4.size
 i : I W i C
 a : Arr 2 C
 f : Below w.heap.size w W
 g : w.heap.size + 2 <= W.heap.size
theorem wpList_load_rowG {P : Program} {ops : Array Oper} {rest : List Oper} {o : Oper} {a : Act} {w : World} {Q : Exit -> Act -> World -> Prop} (hw : Region.wanted o (yielded ops a.tmps) = true) (ty : TypeId) (x : Operand) (ho : o.op = .load ty x)
  (g : Nat) (hx : a.eval x = .pointer (some ⟨g, 0, none⟩)) (t : TypeId) (cs : Array Value) (fr : Nat × Nat) (d : TypeDesc) (hg : w.heap[g]? = some (.cells cs t fr))
  (hu : P.underlying ty = some d) (hd : (match d with | .struct _ | .array _ _ => true | _ => false) = true) (hi : (P.info? ty).map (·.size) = some cs.size)
  (h : wpList P ops Q rest (a.put o.dst (.agg cs)) w) : wpList P ops Q (o :: rest) a w :=
 wpList_step fun K hK => by rw [if_pos hw]; exact wp_load_row ty x ho g hx t cs fr d hg hu hd hi (hK _ _ h)
structure MkL (w W : World) (gc : Nat) (C : Array Value) (Y : List Cx) (i : Nat) : Prop where
 c : W.heap[gc]? = some (.cells C 58 (0, 0))
 m : Ctm (16 + i) W (gc + 1) C (folC (led (Y.take i)))
 f : Below w.heap.size w W
theorem frm_take {Y : List Cx} (h : ∀ y ∈ Y, Fo.frm y.cm = true) (i : Nat) : ∀ x ∈ led (Y.take i), Fo.frm x = true := fun x hx => by
 obtain ⟨y, hy, rfl⟩ := List.mem_map.1 hx
 exact h y (List.mem_of_mem_take hy)
theorem frm_all {Y : List Cx} (h : ∀ y ∈ Y, Fo.frm y.cm = true) : ∀ x ∈ led Y, Fo.frm x = true := fun x hx => by
 obtain ⟨y, hy, rfl⟩ := List.mem_map.1 hx
 exact h y hy
theorem one_new (W : World) (Z R : Array Value) (t : TypeId) : ∃ w3, Hid ((W.alloc (.cells Z t)).setRow W.heap.size R = w3) /\ Hid ((W.alloc (.cells Z t)).heap[W.heap.size]? = some (.cells Z t (0, 0))) /\ Hid (w3.heap[W.heap.size]? = some (.cells R t (0, 0)) /\ Below W.heap.size W w3) :=
 ⟨_, rfl, heap_alloc_new W _, setRow_heap _ _ _ _ _ _ (heap_alloc_new W _), below_setRow (alloc1 W _) (Nat.le_refl _) _⟩
theorem res27 (tmps : Array Value) (w : World) (g : Nat) (C : Array Value) (b : Bool) (hp : tmps[4]?.getD undef = .pointer (some ⟨g, 0, none⟩)) (hb : tmps[5]?.getD undef = .bool b) (h4 : w.heap[g]? = some (.cells C 65 (0, 0))) (c2 : (Tryz.prog.info? 65).map (·.size) = some C.size) : (results Tryz.f27 tmps).run Tryz.prog w = .ok (.tuple #[.agg C, .bool b]) w := by
 simp [results, Tryz.results27, hp, hb, asAddr, run_loadVar_row w g 65 65 C (0, 0) _ h4 Tryz.underlying65 rfl c2]
theorem inzr27 : (Tryz.prog.info? 65).map (·.size) = some 5 := by kernel_rfl
structure Got65 (K : Nat) (w W : World) (L : Option Bkd) (R : Array Value) (b : Bool) : Prop where
 b : b = L.isSome
 y : ∀ o, L = some o -> ∃ ox, R = (EBk.e ox).toArray /\ Bkx.bk ox = o /\ BkO K W w.heap.size W.heap.size ox
set_option maxHeartbeats 8000000 in
theorem bucket_n {w : World} {A : Array Value} {P : Ctd} {K lo : Nat} {s : ByteArray} (hK : K <= 1048576) (hA : Hid (Ctm K w lo A P)) :
  Calls Tryz.prog 27 #[.agg A,.string s] w fun e w' => ∃ R b, e = .returned (.tuple #[.agg R, .bool b]) /\ Hid (Got65 K w w' (lookB P s) R b /\ Arr 5 R /\ Below w.heap.size w w') := by
 obtain ⟨a, n, c, X, fa, fn, fc, F, EA, CA, PA⟩ := hA.out
 subst PA
 obtain ⟨hi, Hhi⟩ := nm (w.heap.size)
 have HEA : Hid (A = #[.slice a n c,.slice fa fn fc]) := EA
 have HCA : Hid (CtO K w lo w.heap.size a n c X fa fn fc F) := CA
 clear EA CA hA
 obtain ⟨w1, Hw1⟩ := nm ((w.alloc (.cells A 58)).alloc (.cells #[.string ⟨#[]⟩,.int .i64 0,.int .i64 0,.slice none 0 0,.slice none 0 0] 65))
 obtain ⟨g, Hg⟩ := nm (w.heap.size)
 have B1 : Hid (Below w.heap.size w w1) := by rw [<- Hw1.out]; exact alloc2 w _ _
 have ka : Hid (w1.heap[g]? = some (.cells A 58 (0, 0))) := by
  rw [<- Hw1.out, <- Hg.out]
  exact ((alloc1 (w.alloc (.cells A 58)) _).block w.heap.size (by simp)).trans (heap_alloc_new w _)
 have kz : Hid (w1.heap[g + 1]? = some (.cells #[.string ⟨#[]⟩,.int .i64 0,.int .i64 0,.slice none 0 0,.slice none 0 0] 65 (0, 0))) := by
  rw [<- Hw1.out, <- Hg.out]
  have e : (w.alloc (.cells A 58)).heap.size = w.heap.size + 1 := by simp
  rw [<- e]
  exact heap_alloc_new _ _
 have RX : Hid (Rw w1 lo w.heap.size 65 EBk a n c X) := HCA.out.b.below B1.out
 have hnK : n <= 1048576 := Nat.le_trans HCA.out.k.1 hK
 have qa0 : w1.cell? ⟨g, 0, none⟩ = some (.slice a n c) := cell_arr ka.out (by rw [HEA.out]; rfl)
 go_enter Tryz.func27, Tryz.ntmps27
 go_upto_region 1 with (fail)
 rw [Hw1.out, Hg.out]
 clear Hw1
 by_cases hb : isB (byN s) (X.map Bkx.bk) = true
 rotate_left
 . have hb2 : isB (byN s) (X.map Bkx.bk) = false := by simpa using hb
   have HN : Hid ((lookB (Ctd.mk (X.map Bkx.bk) F) s) = none) := by
    show _ = _
    unfold lookB
    rw [if_neg hb]
   clear hb
   go_wp2_with (first
    | (go_at_call 49; refine (findB s RX hnK).mono ?_; rintro e w2 ⟨rfl, H2⟩; rw [hb2]
       have kz2 := sh H2 kz
       have B2 := bt B1 H2)
    | (refine wpList_store_row (by rfl) 65 (.tmp 4) (.tmp 17) (by rfl) (g + 1) #[.string ⟨#[]⟩,.int .i64 0,.int .i64 0,.slice none 0 0,.slice none 0 0] (by rfl) (by rfl) 65 _ kz2.out inzr27 rfl (by kernel_rfl) ?_))
   refine bodyPost_ret (res27 _ _ (g + 1) #[.string ⟨#[]⟩,.int .i64 0,.int .i64 0,.slice none 0 0,.slice none 0 0] false (by rfl) (by rfl) (setRow_heap _ _ _ _ _ _ kz2.out) inzr27) rfl ⟨_, _, rfl, ?_⟩
   exact ⟨by have h := HN.out; exact ⟨(by rw [h]; rfl), fun o ho => by rw [h] at ho; cases ho⟩, ⟨rfl, by kernel_rfl⟩, below_setRow B2.out (by have := Hg.out; omega) _⟩
 have HLB : Hid (X.length = n) := RX.out.len.symm
 have hp : plcB (byN s) (X.map Bkx.bk) < X.length := by have := isB_lt hb; simpa using this
 obtain ⟨x, Hx⟩ := nm (X[plcB (byN s) (X.map Bkx.bk)])
 have EXx : Hid (X[plcB (byN s) (X.map Bkx.bk)]? = some x) := by show _ = _; rw [List.getElem?_eq_getElem hp, Hx.out]
 have LB : Hid (lookB ⟨X.map Bkx.bk, F⟩ s = some x.bk) := by
  show _ = _
  unfold lookB
  rw [if_pos hb]
  show (X.map Bkx.bk)[plcB (byN s) (X.map Bkx.bk)]? = some x.bk
  rw [List.getElem?_map, EXx.out]; rfl
 have XO : Hid (BkO K w lo w.heap.size x) := HCA.out.bb x (List.mem_of_getElem? EXx.out)
 obtain ⟨pl, Hpl⟩ := nm (plcB (byN s) (X.map Bkx.bk))
 rw [Hpl.out] at hp EXx
 have ip : (pl : Int) < (n : Int) := by have := HLB.out; omega
 go_upto_region 4 with (go_at_call 49; refine (findB s RX hnK).mono ?_; rintro e w2 ⟨rfl, H2⟩; rw [hb, Hpl.out])
 clear qa0
 have B2 := bt B1 H2
 have ka2 := sh H2 ka
 have kz2 := sh H2 kz
 have q2 : w2.cell? ⟨g, 0, none⟩ = some (.slice a n c) := cell_arr ka2.out (by rw [HEA.out]; rfl)
 obtain ⟨b1, e1, _, _, r1⟩ := (RX.out.below H2.out).at_ hp
 subst e1
 have E2 : X[pl] = x := Option.some.inj ((List.getElem?_eq_getElem hp).symm.trans EXx.out)
 rw [E2] at r1
 have R1 : Hid (w2.rangeAt b1 (pl * 5) (EBk.e x)) := r1
 have O2 : Hid (BkO K w2 lo w.heap.size x) := XO.out.keep (fun q _ _ hq => B2.out.block q hq)
 have L2 : Hid ((lookB (Ctd.mk (X.map Bkx.bk) F) s) = some x.bk) := LB
 obtain ⟨V, HV⟩ : ∃ V, Hid (V = (EBk.e x).toArray) := ⟨_, rfl⟩
 have v5 : Hid (V = (EBk.e x).toArray) := HV
 go_wp2_with (first
  | (refine wpList_ldE (by rfl) (.tmp 21) (by rfl) b1 (pl * 5) (by rfl) HV.out R1.out Tryz.underlying65 rfl (by kernel_rfl) ?_)
  | (go_at_call 51; refine (copyBucket_e hK x O2 V HV).mono ?_; rintro e w4 ⟨R, rfl, H4⟩
     have RS : Hid (Arr 5 R) := (by obtain ⟨y, h1, _⟩ := H4.out; rw [h1]; exact ⟨rfl, by kernel_rfl⟩ : Arr 5 R)
     have r5 : (Tryz.prog.info? 65).map (·.size) = some R.size := (by rw [RS.out.1]; exact inzr27)
     have B4 : Hid (Below w2.heap.size w2 w4) := H4.out.choose_spec.2.2.2
     have kz4 := sh B4 kz2)
  | (refine wpList_store_row (by rfl) 65 (.tmp 4) (.tmp 23) (by rfl) (g + 1) R (by rfl) (by rfl) 65 _ kz4.out r5 (by rw [RS.out.1]; rfl) RS.out.2 ?_))
 refine bodyPost_ret (res27 _ _ (g + 1) R true (by rfl) (by rfl) (setRow_heap _ _ _ _ _ _ kz4.out) r5) rfl ⟨_, _, rfl, ?_⟩
 obtain ⟨y, y1, y2, y3, y4⟩ := H4.out
 have gz : g + 1 < w2.heap.size := (gl kz2.out)
 refine ⟨⟨by rw [L2.out]; rfl, fun o2 ho2 => ⟨y, y1, ?_, ?_⟩⟩, RS.out, below_setRow (B2.out.trans (B4.out.mono B2.out.size)) (by have := Hg.out; omega) _⟩
 . rw [L2.out] at ho2
   exact y2.trans (Option.some.inj ho2)
 . have y5 := (y3.b).keep (w' := w4.setRow (g + 1) R) (fun q h1 _ _ => setRow_other _ _ _ _ (by omega))
   exact y5.mono (by have := B2.out.size; omega) (by rw [setRow_size]; exact Nat.le_refl _)
theorem res31 (tmps : Array Value) (w : World) (g : Nat) (C : Array Value) (b : Bool) (hp : tmps[8]?.getD undef = .pointer (some ⟨g, 0, none⟩)) (hb : tmps[9]?.getD undef = .bool b) (h4 : w.heap[g]? = some (.cells C 77 (0, 0))) (c2 : (Tryz.prog.info? 77).map (·.size) = some C.size) : (results Tryz.f31 tmps).run Tryz.prog w = .ok (.tuple #[.agg C, .bool b]) w := by
 simp [results, Tryz.results31, hp, hb, asAddr, run_loadVar_row w g 77 77 C (0, 0) _ h4 Tryz.underlying77 rfl c2]
theorem inzr31 : (Tryz.prog.info? 77).map (·.size) = some 5 := by kernel_rfl
structure Got77 (K : Nat) (w W : World) (L : Option Uld) (R : Array Value) (b : Bool) : Prop where
 b : b = L.isSome
 y : ∀ o, L = some o -> ∃ ox, R = (EUl.e ox).toArray /\ Ulx.ul ox = o /\ UlO K W w.heap.size W.heap.size ox
set_option maxHeartbeats 8000000 in
theorem upload_n {w : World} {A : Array Value} {P : Ctd} {K lo : Nat} {s k : ByteArray} {i0 i1 i2 : Int} (hK : K <= 1048576) (hA : Hid (Ctm K w lo A P)) :
  Calls Tryz.prog 31 #[.agg A,.string s,.string k, .agg #[.int .i64 i0,.int .i64 i1,.int .i64 i2]] w fun e w' => ∃ R b, e = .returned (.tuple #[.agg R, .bool b]) /\ Hid (Got77 K w w' (lookU P s k i0 i1 i2) R b /\ Arr 5 R /\ Below w.heap.size w w') := by
 obtain ⟨a, n, c, X, fa, fn, fc, F, EA, CA, PA⟩ := hA.out
 subst PA
 obtain ⟨hi, Hhi⟩ := nm (w.heap.size)
 have HEA : Hid (A = #[.slice a n c,.slice fa fn fc]) := EA
 have HCA : Hid (CtO K w lo w.heap.size a n c X fa fn fc F) := CA
 clear EA CA hA
 obtain ⟨w1, Hw1⟩ := nm (((w.alloc (.cells A 58)).alloc (.cells #[.int .i64 i0,.int .i64 i1,.int .i64 i2] 24)).alloc (.cells #[.int .i64 0,.int .i64 0,.int .i64 0,.string ⟨#[]⟩,.slice none 0 0] 77))
 obtain ⟨g, Hg⟩ := nm (w.heap.size)
 have B1 : Hid (Below w.heap.size w w1) := by rw [<- Hw1.out]; exact (alloc2 w _ _).trans ((alloc1 _ _).mono (alloc2 w _ _).size)
 have ka : Hid (w1.heap[g]? = some (.cells A 58 (0, 0))) := by
  rw [<- Hw1.out, <- Hg.out]
  exact ((alloc2 (w.alloc (.cells A 58)) _ _).block w.heap.size (by simp)).trans (heap_alloc_new w _)
 have kb : Hid (w1.heap[g + 1]? = some (.cells #[.int .i64 i0,.int .i64 i1,.int .i64 i2] 24 (0, 0))) := by
  rw [<- Hw1.out, <- Hg.out]
  have e : (w.alloc (.cells A 58)).heap.size = w.heap.size + 1 := by simp
  rw [<- e]
  exact ((alloc1 ((w.alloc (.cells A 58)).alloc (.cells #[.int .i64 i0,.int .i64 i1,.int .i64 i2] 24)) _).block _ (by simp)).trans (heap_alloc_new _ _)
 have kz : Hid (w1.heap[g + 2]? = some (.cells #[.int .i64 0,.int .i64 0,.int .i64 0,.string ⟨#[]⟩,.slice none 0 0] 77 (0, 0))) := by
  rw [<- Hw1.out, <- Hg.out]
  have e : ((w.alloc (.cells A 58)).alloc (.cells #[.int .i64 i0,.int .i64 i1,.int .i64 i2] 24)).heap.size = w.heap.size + 2 := by simp
  rw [<- e]
  exact heap_alloc_new _ _
 have RX : Hid (Rw w1 lo w.heap.size 65 EBk a n c X) := HCA.out.b.below B1.out
 have hnK : n <= 1048576 := Nat.le_trans HCA.out.k.1 hK
 have qa0 : w1.cell? ⟨g, 0, none⟩ = some (.slice a n c) := cell_arr ka.out (by rw [HEA.out]; rfl)
 go_enter Tryz.func31, Tryz.ntmps31
 go_upto_region 1 with (fail)
 rw [Hw1.out, Hg.out]
 clear Hw1
 by_cases hb : isB (byN s) (X.map Bkx.bk) = true
 rotate_left
 . have hb2 : isB (byN s) (X.map Bkx.bk) = false := by simpa using hb
   have HN : Hid ((lookU (Ctd.mk (X.map Bkx.bk) F) s k i0 i1 i2) = none) := by
    show _ = _
    unfold lookU lookB
    rw [if_neg hb]
    rfl
   clear hb
   go_wp2_with (first
    | (go_at_call 49; refine (findB s RX hnK).mono ?_; rintro e w2 ⟨rfl, H2⟩; rw [hb2]
       have kz2 := sh H2 kz
       have B2 := bt B1 H2)
    | (refine wpList_store_row (by rfl) 77 (.tmp 8) (.tmp 23) (by rfl) (g + 2) #[.int .i64 0,.int .i64 0,.int .i64 0,.string ⟨#[]⟩,.slice none 0 0] (by rfl) (by rfl) 77 _ kz2.out inzr31 rfl (by kernel_rfl) ?_))
   refine bodyPost_ret (res31 _ _ (g + 2) #[.int .i64 0,.int .i64 0,.int .i64 0,.string ⟨#[]⟩,.slice none 0 0] false (by rfl) (by rfl) (setRow_heap _ _ _ _ _ _ kz2.out) inzr31) rfl ⟨_, _, rfl, ?_⟩
   exact ⟨by have h := HN.out; exact ⟨(by rw [h]; rfl), fun o ho => by rw [h] at ho; cases ho⟩, ⟨rfl, by kernel_rfl⟩, below_setRow B2.out (by have := Hg.out; omega) _⟩
 have HLB : Hid (X.length = n) := RX.out.len.symm
 have hp : plcB (byN s) (X.map Bkx.bk) < X.length := by have := isB_lt hb; simpa using this
 obtain ⟨x, Hx⟩ := nm (X[plcB (byN s) (X.map Bkx.bk)])
 have EXx : Hid (X[plcB (byN s) (X.map Bkx.bk)]? = some x) := by show _ = _; rw [List.getElem?_eq_getElem hp, Hx.out]
 have LB : Hid (lookB ⟨X.map Bkx.bk, F⟩ s = some x.bk) := by
  show _ = _
  unfold lookB
  rw [if_pos hb]
  show (X.map Bkx.bk)[plcB (byN s) (X.map Bkx.bk)]? = some x.bk
  rw [List.getElem?_map, EXx.out]; rfl
 have XO : Hid (BkO K w lo w.heap.size x) := HCA.out.bb x (List.mem_of_getElem? EXx.out)
 obtain ⟨pl, Hpl⟩ := nm (plcB (byN s) (X.map Bkx.bk))
 rw [Hpl.out] at hp EXx
 have ip : (pl : Int) < (n : Int) := by have := HLB.out; omega
 go_upto_region 4 with (go_at_call 49; refine (findB s RX hnK).mono ?_; rintro e w2 ⟨rfl, H2⟩; rw [hb, Hpl.out])
 clear qa0
 have B2 := bt B1 H2
 have ka2 := sh H2 ka
 have kz2 := sh H2 kz
 have q2 : w2.cell? ⟨g, 0, none⟩ = some (.slice a n c) := cell_arr ka2.out (by rw [HEA.out]; rfl)
 obtain ⟨b1, e1, _, _, r1⟩ := (RX.out.below H2.out).at_ hp
 subst e1
 have E2 : X[pl] = x := Option.some.inj ((List.getElem?_eq_getElem hp).symm.trans EXx.out)
 rw [E2] at r1
 have q3 : w2.cell? ⟨b1, pl * 5 + 4, none⟩ = some (.slice x.ua x.un x.uc) := r1 4 _ rfl
 have qi0 : w2.cell? ⟨g + 1, 0, none⟩ = some (.int .i64 i0) := cell_arr ((H2.out.block _ (gl kb.out)).trans kb.out) rfl
 have qi1 : w2.cell? ⟨g + 1, 1, none⟩ = some (.int .i64 i1) := cell_arr ((H2.out.block _ (gl kb.out)).trans kb.out) rfl
 have qi2 : w2.cell? ⟨g + 1, 2, none⟩ = some (.int .i64 i2) := cell_arr ((H2.out.block _ (gl kb.out)).trans kb.out) rfl
 go_upto_region 5 with (fail)
 clear q2 q3 r1 E2
 have O2 : Hid (BkO K w2 lo w.heap.size x) := XO.out.keep (fun q _ _ hq => B2.out.block q hq)
 have R2 : Hid (Rw w2 lo w.heap.size 77 EUl x.ua x.un x.uc x.ux) := O2.out.u
 have hoK : x.un <= 1048576 := Nat.le_trans O2.out.k.2 hK
 by_cases hq : (upL (x.ux.map Ulx.ul) k i0 i1 i2).isSome = true
 rotate_left
 . have hq2 : (upL (x.ux.map Ulx.ul) k i0 i1 i2).isSome = false := by simpa using hq
   have HN : Hid ((lookU (Ctd.mk (X.map Bkx.bk) F) s k i0 i1 i2) = none) := by
    show _ = _
    unfold lookU
    rw [LB.out]
    show lkU x.bk k i0 i1 i2 = none
    show upL (x.ux.map Ulx.ul) k i0 i1 i2 = none
    exact Option.not_isSome_iff_eq_none.1 hq
   clear hq
   go_wp2_with (first
    | (go_at_call 55; refine (findUpload_n k i0 i1 i2 R2 hoK).mono ?_; rintro e w3 ⟨rfl, H3⟩; rw [hq2]
       have kz3 := sh H3 kz2
       have B3 := bt B2 H3)
    | (refine wpList_store_row (by rfl) 77 (.tmp 8) (.tmp 39) (by rfl) (g + 2) #[.int .i64 0,.int .i64 0,.int .i64 0,.string ⟨#[]⟩,.slice none 0 0] (by rfl) (by rfl) 77 _ kz3.out inzr31 rfl (by kernel_rfl) ?_))
   refine bodyPost_ret (res31 _ _ (g + 2) #[.int .i64 0,.int .i64 0,.int .i64 0,.string ⟨#[]⟩,.slice none 0 0] false (by rfl) (by rfl) (setRow_heap _ _ _ _ _ _ kz3.out) inzr31) rfl ⟨_, _, rfl, ?_⟩
   exact ⟨by have h := HN.out; exact ⟨(by rw [h]; rfl), fun o ho => by rw [h] at ho; cases ho⟩, ⟨rfl, by kernel_rfl⟩, below_setRow B3.out (by have := Hg.out; omega) _⟩
 have ho : plcB (byU i0 i1 i2) (x.ux.map Ulx.ul) < x.ux.length := by
  obtain ⟨u, hu⟩ := Option.isSome_iff_exists.1 hq
  unfold upL at hu
  obtain ⟨h1, h2⟩ := Option.filter_eq_some_iff.1 hu
  have := (List.getElem?_eq_some_iff.1 h1).1
  simpa using this
 obtain ⟨o, Ho⟩ := nm (x.ux[plcB (byU i0 i1 i2) (x.ux.map Ulx.ul)])
 have EO : Hid (x.ux[plcB (byU i0 i1 i2) (x.ux.map Ulx.ul)]? = some o) := by show _ = _; rw [List.getElem?_eq_getElem ho, Ho.out]
 have L2 : Hid ((lookU (Ctd.mk (X.map Bkx.bk) F) s k i0 i1 i2) = some (Ulx.ul o)) := by
  show _ = _
  unfold lookU
  rw [LB.out]
  show lkU x.bk k i0 i1 i2 = some (Ulx.ul o)
  obtain ⟨u, hu⟩ := Option.isSome_iff_exists.1 hq
  show upL (x.ux.map Ulx.ul) k i0 i1 i2 = some o.ul
  rw [hu]
  unfold upL at hu
  obtain ⟨h1, h2⟩ := Option.filter_eq_some_iff.1 hu
  rw [List.getElem?_map, EO.out] at h1
  exact h1.symm
 obtain ⟨p2, Hp2⟩ := nm (plcB (byU i0 i1 i2) (x.ux.map Ulx.ul))
 rw [Hp2.out] at ho EO
 have io : (p2 : Int) < (x.un : Int) := by have := R2.out.len; omega
 have OO : Hid (UlO K w2 lo w.heap.size o) := O2.out.uu o (List.mem_of_getElem? EO.out)
 go_upto_region 8 with (go_at_call 55; refine (findUpload_n k i0 i1 i2 R2 hoK).mono ?_; rintro e w3 ⟨rfl, H3⟩; rw [hq, Hp2.out])
 have B3 := bt B2 H3
 have kz3 := sh H3 kz2
 obtain ⟨b2, e2, _, _, r2⟩ := (R2.out.below H3.out).at_ ho
 rw [e2]
 have E3 : x.ux[p2] = o := Option.some.inj ((List.getElem?_eq_getElem ho).symm.trans EO.out)
 rw [E3] at r2
 have R1 : Hid (w3.rangeAt b2 (p2 * 5) (EUl.e o)) := r2
 have O3 : Hid (UlO K w3 lo w.heap.size o) := OO.out.keep (fun q _ _ hq => H3.out.block q hq)
 obtain ⟨V, HV⟩ : ∃ V, Hid (V = (EUl.e o).toArray) := ⟨_, rfl⟩
 have v5 : Hid (V = (EUl.e o).toArray) := HV
 go_wp2_with (first
  | (refine wpList_ldE (by rfl) (.tmp 42) (by rfl) b2 (p2 * 5) (by rfl) HV.out R1.out Tryz.underlying77 rfl (by kernel_rfl) ?_)
  | (go_at_call 56; refine (copyUpload_e hK o O3 V HV).mono ?_; rintro e w4 ⟨R, rfl, H4⟩
     have RS : Hid (Arr 5 R) := (by obtain ⟨y, h1, _⟩ := H4.out; rw [h1]; exact ⟨rfl, by kernel_rfl⟩ : Arr 5 R)
     have r5 : (Tryz.prog.info? 77).map (·.size) = some R.size := (by rw [RS.out.1]; exact inzr31)
     have B4 : Hid (Below w3.heap.size w3 w4) := H4.out.choose_spec.2.2.2
     have kz4 := sh B4 kz3)
  | (refine wpList_store_row (by rfl) 77 (.tmp 8) (.tmp 44) (by rfl) (g + 2) R (by rfl) (by rfl) 77 _ kz4.out r5 (by rw [RS.out.1]; rfl) RS.out.2 ?_))
 refine bodyPost_ret (res31 _ _ (g + 2) R true (by rfl) (by rfl) (setRow_heap _ _ _ _ _ _ kz4.out) r5) rfl ⟨_, _, rfl, ?_⟩
 obtain ⟨y, y1, y2, y3, y4⟩ := H4.out
 have gz : g + 2 < w3.heap.size := (gl kz3.out)
 refine ⟨⟨by rw [L2.out]; rfl, fun o2 ho2 => ⟨y, y1, ?_, ?_⟩⟩, RS.out, below_setRow (B3.out.trans (B4.out.mono B3.out.size)) (by have := Hg.out; omega) _⟩
 . rw [L2.out] at ho2
   exact y2.trans (Option.some.inj ho2)
 . have y5 := (y3.1).keep (w' := w4.setRow (g + 2) R) (fun q h1 _ _ => setRow_other _ _ _ _ (by omega))
   exact y5.mono (by have := B3.out.size; omega) (by rw [setRow_size]; exact Nat.le_refl _)
end Go.Proofs.YtfabnnbljkkihaaGreatDoor
