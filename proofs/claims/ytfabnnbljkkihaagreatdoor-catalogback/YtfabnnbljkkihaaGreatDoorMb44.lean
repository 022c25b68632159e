import Derived.Test.YtfabnnbljkkihaaGreatDoorMbp
import Derived.Test.YtfabnnbljkkihaaGreatDoorMb19
import Derived.Test.YtfabnnbljkkihaaGreatDoorMb13
import Derived.Test.YtfabnnbljkkihaaGreatDoorMb30
import Derived.Test.YtfabnnbljkkihaaGreatDoorMb39
import Derived.Test.YtfabnnbljkkihaaGreatDoorMb41
import Derived.Test.YtfabnnbljkkihaaGreatDoorMb42
import Derived.Test.YtfabnnbljkkihaaGreatDoorMb43
namespace Go.Proofs.YtfabnnbljkkihaaGreatDoor
open Go.ChangeShapes Go.WideShapes Go.ChangeAt Go.RowKit
set_option maxRecDepth 20000
set_option linter.unusedVariables false
set_option linter.unusedSimpArgs false
structure AtL (w W : World) (g : Nat) (C : Array Value) (I : World -> Nat -> Array Value -> Prop) (i : Nat) : Prop where
 b : W.heap[g + 1]? = some (.cells C 58 (0, 0))
 z : ∃ C4, W.heap[g]? = some (.cells C4 58 (0, 0)) /\ 2 = C4.size
 i : I W i C
 a : Arr 2 C
 f : Below w.heap.size w W
 g : w.heap.size + 2 <= W.heap.size
theorem wpList_load_rowG {P : Program} {ops : Array Oper} {rest : List Oper} {o : Oper} {a : Act} {w : World} {Q : Exit -> Act -> World -> Prop} (hw : Region.wanted o (yielded ops a.tmps) = true) (ty : TypeId) (x : Operand) (ho : o.op = .load ty x)
  (g : Nat) (hx : a.eval x = .pointer (some ⟨g, 0, none⟩)) (t : TypeId) (cs : Array Value) (fr : Nat × Nat) (d : TypeDesc) (hg : w.heap[g]? = some (.cells cs t fr))
  (hu : P.underlying ty = some d) (hd : (match d with | .struct _ | .array _ _ => true | _ => false) = true) (hi : (P.info? ty).map (·.size) = some cs.size)
  (h : wpList P ops Q rest (a.put o.dst (.agg cs)) w) : wpList P ops Q (o :: rest) a w :=
 wpList_step fun K hK => by rw [if_pos hw]; exact wp_load_row ty x ho g hx t cs fr d hg hu hd hi (hK _ _ h)
structure MkL (w W : World) (gc : Nat) (C : Array Value) (Y : List Cx) (i : Nat) : Prop where
 c : W.heap[gc]? = some (.cells C 58 (0, 0))
 m : Ctm (16 + i) W (gc + 1) C (folC (led (Y.take i)))
 f : Below w.heap.size w W
theorem frm_take {Y : List Cx} (h : ∀ y ∈ Y, Fo.frm y.cm = true) (i : Nat) : ∀ x ∈ led (Y.take i), Fo.frm x = true := fun x hx => by
 obtain ⟨y, hy, rfl⟩ := List.mem_map.1 hx
 exact h y (List.mem_of_mem_take hy)
theorem frm_all {Y : List Cx} (h : ∀ y ∈ Y, Fo.frm y.cm = true) : ∀ x ∈ led Y, Fo.frm x = true := fun x hx => by
 obtain ⟨y, hy, rfl⟩ := List.mem_map.1 hx
 exact h y hy
theorem one_new (W : World) (Z R : Array Value) (t : TypeId) : ∃ w3, Hid ((W.alloc (.cells Z t)).setRow W.heap.size R = w3) /\ Hid ((W.alloc (.cells Z t)).heap[W.heap.size]? = some (.cells Z t (0, 0))) /\ Hid (w3.heap[W.heap.size]? = some (.cells R t (0, 0)) /\ Below W.heap.size W w3) :=
 ⟨_, rfl, heap_alloc_new W _, setRow_heap _ _ _ _ _ _ (heap_alloc_new W _), below_setRow (alloc1 W _) (Nat.le_refl _) _⟩
set_option maxHeartbeats 16000000 in
theorem back_law {w : World} {a : Option Addr} {n c : Nat} {X : List Cx} {A : Array Value} {x : Cx} (hV : Hid (Ev w)) (hA : Hid (Cms w 0 a n X)) (hX : Hid (A = (encX x).toArray)) (hI : Hid (Irow w 0 x.pa x.pn x.cm.ps)) (hT : Hid (x.cm.bu.size <= 281474976710656 /\ x.cm.ke.size <= 281474976710656 /\ x.cm.et.size <= 281474976710656)) :
  Calls Tryz.prog 7 #[.slice a n c, .agg A] w fun e w' => e = .returned (.bool true) /\ Hid (Below w.heap.size w w') := by
 have a18 : A.size = 18 := encX_sz hX.out
 have AA : Hid (A.all (·.oneCell') = true) := encX_all hX.out
 obtain ⟨w1, Hw1⟩ : ∃ w1, Hid (w.alloc (.cells A 29) = w1) := ⟨_, rfl⟩
 obtain ⟨g, Hg⟩ : ∃ g, Hid (w.heap.size = g) := ⟨_, rfl⟩
 have B1 : Hid (Below w.heap.size w w1) := by rw [<- Hw1.out]; exact alloc1 w _
 have k1 : Hid (w1.heap[g]? = some (.cells A 29 (0, 0))) := by rw [<- Hw1.out, <- Hg.out]; exact heap_alloc_new w _
 have V1 : Hid (Ev w1) := hV.out.below B1.out
 go_enter Tryz.func7, Tryz.ntmps7
 go_upto_region 1 with (fail)
 rw [Hw1.out, Hg.out]
 clear Hw1
 go_upto_region 3 with (go_at_call 22; refine (alive11_n V1).mono ?_; rintro e w2 ⟨rfl, H2⟩)
 have B2 : Hid (Below w.heap.size w w2) := B1.out.trans (H2.out.mono B1.out.size)
 have A2 : Hid (Cms w2 0 a n X) := hA.out.below B2.out
 go_upto_region 4 with (go_at_call 23; refine (forms11_n A2).mono ?_; rintro e w3 ⟨a', m, c', rfl, H3⟩)
 obtain ⟨Y, HY⟩ : ∃ Y, Hid (X.filter (fun x => Fo.frm x.cm) = Y) := ⟨_, rfl⟩
 have CY3 : Hid (Cms w3 0 a' m Y) := by rw [<- HY.out]; exact H3.out.cms A2.out
 have HF : Hid (∀ y ∈ Y, Fo.frm y.cm = true) := fun y hy => by rw [<- HY.out] at hy; exact (List.mem_filter.1 hy).2
 have B3 : Hid (Below w.heap.size w w3) := B2.out.trans (H3.out.f.mono B2.out.size)
 have LY : Hid (m = Y.length) := CY3.out.len
 have k3 : Hid (w3.heap[g]? = some (.cells A 29 (0, 0))) := (H3.out.f.block g (Nat.lt_of_lt_of_le (gl k1.out) H2.out.size)).trans ((H2.out.block g (gl k1.out)).trans k1.out)
 clear H3 HY A2 k1 V1 B1 B2 H2
 by_cases hm : (m : Int) <= 600
 rotate_left
 . rw [decide_eq_false hm]
   clear hm
   go_wp2
   go_ret
   exact ⟨rfl, B3.out⟩
 rw [decide_eq_true hm]
 have hm6 : m <= 600 := by omega
 clear hm
 have I3 : Hid (Irow w3 0 x.pa x.pn x.cm.ps) := hI.out.below B3.out
 by_cases hf : Fo.frm x.cm = true
 rotate_left
 . have hf2 : Fo.frm x.cm = false := by simpa using hf
   clear hf
   go_wp2_with (first
    | (refine wpList_load_rowG (by rfl) 29 (.tmp 3) (by rfl) g (by rfl) 29 A (0, 0) _ k3.out Tryz.underlying29 rfl (info29 a18) ?_)
    | (go_at_call 24; refine (inform_x hX I3 hT).mono ?_; rintro e w4 ⟨rfl, H4⟩; rw [hf2]))
   go_ret
   exact ⟨rfl, B3.out.trans (H4.out.mono B3.out.size)⟩
 have HX : Hid (Fo.frm x.cm = true) := hf
 by_cases hk : x.cm.k = 3
 rotate_left
 . have i1 : ¬ x.cm.k = 3 := hk
   clear hk
   go_wp2_with (first
    | (refine wpList_load_rowG (by rfl) 29 (.tmp 3) (by rfl) g (by rfl) 29 A (0, 0) _ k3.out Tryz.underlying29 rfl (info29 a18) ?_)
    | (go_at_call 24; refine (inform_x hX I3 hT).mono ?_; rintro e w4 ⟨rfl, H4⟩; rw [hf]
       have q0 : w4.cell? ⟨g, 0, none⟩ = some (.int .i64 x.cm.k) := cell_arr ((H4.out.block g (gl k3.out)).trans k3.out) (by rw [hX.out]; rfl)))
   go_ret
   exact ⟨rfl, B3.out.trans (H4.out.mono B3.out.size)⟩
 have HK3 : Hid (x.cm.k = 3) := hk
 go_upto_region 6 with (first
  | (refine wpList_load_rowG (by rfl) 29 (.tmp 3) (by rfl) g (by rfl) 29 A (0, 0) _ k3.out Tryz.underlying29 rfl (info29 a18) ?_)
  | (go_at_call 24; refine (inform_x hX I3 hT).mono ?_; rintro e w5 ⟨rfl, H5⟩; rw [hf]
     have q0 : w5.cell? ⟨g, 0, none⟩ = some (.int .i64 3) := (by have h := cell_arr (i := 0) (v := .int .i64 x.cm.k) ((H5.out.block g (gl k3.out)).trans k3.out) (by rw [hX.out]; rfl); rw [hk] at h; exact h)))
 clear q0 hk hf
 have B5 : Hid (Below w.heap.size w w5) := B3.out.trans (H5.out.mono B3.out.size)
 have k5 : Hid (w5.heap[g]? = some (.cells A 29 (0, 0))) := (H5.out.block g (gl k3.out)).trans k3.out
 have CY : Hid (Cms w5 0 a' m Y) := CY3.out.below H5.out
 have V5 : Hid (Ev w5) := hV.out.below B5.out
 have OX : Hid (Okc w5 x) := okc_of HX.out (hI.out.below B5.out) hT.out
 clear H5 k3 CY3 I3
 obtain ⟨gc, Hgc⟩ : ∃ g, Hid (w5.heap.size = g) := ⟨_, rfl⟩
 obtain ⟨w6, Hw6⟩ : ∃ W, Hid (w5.alloc (.cells #[.slice none 0 0,.slice none 0 0] 58) = W) := ⟨_, rfl⟩
 have L5 : Hid (MkL w5 w6 gc #[.slice none 0 0,.slice none 0 0] Y 0) := by
  refine ⟨?_, Ctm.zero _ _ _, ?_⟩
  . rw [<- Hw6.out, <- Hgc.out]; exact heap_alloc_new w5 _
  . rw [<- Hw6.out]; exact alloc1 w5 _
 go_upto_region 7 with (fail)
 rw [Hw6.out, Hgc.out]
 clear Hw6
 go_wp2
 go_loopw [37] (fun ti wr => ∃ (i : Nat) (C : Array Value), i <= m /\ ti = .int .i64 i /\ Hid (MkL w5 wr gc C Y i)) (fun ti _ => m - (intOf ti).toNat)
 case atStart => exact ⟨0, _, by omega, rfl, L5⟩
 case round =>
  clear L5
  obtain ⟨i, C, hi, rfl, HL⟩ := hrel
  have c2 : (Tryz.prog.info? 58).map (·.size) = some C.size := by rw [HL.out.m.arr.1]; exact inz58
  by_cases hlt : i < m
  . have i3 : (i : Int) < (m : Int) := by omega
    have kx : i < Y.length := by rw [<- LY.out]; omega
    have HB : Hid (Below w5.heap.size w5 wr) := HL.out.f
    have CW : Hid (Cms wr 0 a' m Y) := CY.out.below HB.out
    obtain ⟨b1, o1, rfl, e1⟩ := CW.out.at_ kx
    obtain ⟨y, Hy⟩ : ∃ y, Hid (Y[i] = y) := ⟨Y[i], (rfl : Y[i] = Y[i])⟩
    rw [Hy.out] at e1
    have EY : Hid (Y[i]? = some y) := by show _ = _; rw [<- Hy.out]; exact List.getElem?_eq_getElem kx
    have MY : y ∈ Y := List.mem_of_getElem? EY.out
    have FY : Hid (Fo.frm y.cm = true) := HF.out y MY
    have OY : Hid (Okc wr y) := okc_of FY.out (CW.out.ps y MY).1 (CW.out.st y MY)
    clear MY Hy
    obtain ⟨B, HBy⟩ : ∃ A, Hid (A = (encX y).toArray) := ⟨_, rfl⟩
    have b18 : B.size = 18 := encX_sz HBy.out
    have BA : Hid (B.all (·.oneCell') = true) := encX_all HBy.out
    have E1 : Hid (wr.rangeAt b1 (o1 + i * 18) (encX y)) := e1
    clear e1
    obtain ⟨v2, Hv2, K2⟩ := box_new wr B
    obtain ⟨g1, Hg1⟩ : ∃ g, Hid (wr.heap.size = g) := ⟨_, rfl⟩
    go_upto_region 10 with first
     | (refine wpList_ldA (by rfl) (.tmp 39) (by rfl) b1 (o1 + i * 18) (by rfl) HBy.out E1.out ?_)
     | (refine wpList_store_row (by rfl) 29 (.tmp 8) (.tmp 40) (by rfl) wr.heap.size B (by rfl) (by rfl) 29 _ (heap_alloc_new wr _) (info29 b18) b18.symm BA.out ?_)
    rw [Hv2.out, Hg1.out]
    have k1b : Hid (v2.heap[g1]? = some (.cells B 29 (0, 0))) := by rw [<- Hg1.out]; exact K2.out.1
    have Bv2 : Hid (Below wr.heap.size wr v2) := K2.out.2.1
    have kc2 : Hid (v2.heap[gc]? = some (.cells C 58 (0, 0))) := (Bv2.out.block _ (gl HL.out.c)).trans HL.out.c
    have CM2 : Hid (Ctm (16 + i) v2 (gc + 1) C (folC (led (Y.take i)))) := HL.out.m.below Bv2.out
    have BW2 : Hid (Below w5.heap.size w5 v2) := HB.out.trans (Bv2.out.mono HB.out.size)
    have OY2 : Hid (Okc v2 y) := OY.out.below Bv2.out
    have V2 : Hid (Ev v2) := V5.out.below BW2.out
    have ET : Hid (EtB (folC (led (Y.take i)))) := (folC_ok _ (frm_take HF.out i)).2
    clear K2 Hv2 Hg1 E1
    go_wp2_with (first
     | (refine wpList_load_row (by rfl) 58 (.tmp 6) (by rfl) gc (by rfl) 58 C (0, 0) _ kc2.out Tryz.underlying58 rfl c2 ?_)
     | (refine wpList_load_row (by rfl) 29 (.tmp 8) (by rfl) g1 (by rfl) 29 B (0, 0) _ k1b.out Tryz.underlying29 rfl (info29 b18) ?_)
     | (go_at_call 25; refine (apply_n (K := 16 + i) (by omega) (by omega) HBy OY2 CM2 ET V2).mono ?_; rintro e v3 ⟨C', R, rfl, H3⟩
        have c3 : (Tryz.prog.info? 58).map (·.size) = some C'.size := (by rw [H3.out.1.arr.1]; exact inz58)
        have C3S : Hid (C'.size = 2) := H3.out.1.arr.1
        have C3A : Hid (C'.all (·.oneCell') = true) := H3.out.1.arr.2
        have CA : Hid (C.size = 2) := HL.out.m.arr.1
        have kc3 : Hid (v3.heap[gc]? = some (.cells C 58 (0, 0))) := (H3.out.2.2.block _ (gl kc2.out)).trans kc2.out)
     | (refine wpList_store_row (by rfl) 58 (.tmp 6) (.tmp 45) (by rfl) gc C' (by rfl) (by rfl) 58 _ kc3.out c3 (by rw [C3S.out, CA.out]) C3A.out ?_))
    have FIN : Hid (MkL w5 (v3.setRow gc C') gc C' Y (i + 1)) := by
     have lg := Hgc.out
     have z2 : gc + 1 <= v2.heap.size := (gl kc2.out)
     refine ⟨setRow_heap _ _ _ _ _ _ kc3.out, ?_, below_setRow (BW2.out.trans (H3.out.2.2.mono BW2.out.size)) (by omega) _⟩
     have e : folC (led (Y.take (i + 1))) = (app sumO (folC (led (Y.take i))) y.cm).1 := by rw [led_snoc EY.out, folC_snoc]
     rw [e]
     exact ((H3.out.1.dn z2).keep (fun q h1 _ => setRow_other _ _ _ _ (by omega)) (by rw [setRow_size]; exact Nat.le_refl _))
    go_roundw
    case rel => exact ⟨i + 1, C', by omega, by go_num, FIN⟩
    case measure => simp [intOf]; omega
  . have ein : i = m := by omega
    subst ein
    have HC : Hid (Ctm (16 + i) wr (gc + 1) C (folC (led Y))) := by
     have h := HL.out.m
     rw [List.take_of_length_le (by rw [<- LY.out]; exact Nat.le_refl _)] at h
     exact h
    have kc : Hid (wr.heap[gc]? = some (.cells C 58 (0, 0))) := HL.out.c
    have BW : Hid (Below w5.heap.size w5 wr) := HL.out.f
    have OK : Hid (Okk (folC (led Y)) /\ EtB (folC (led Y))) := folC_ok _ (frm_all HF.out)
    obtain ⟨P, HP⟩ : ∃ P, Hid (folC (led Y) = P) := ⟨_, rfl⟩
    rw [HP.out] at HC OK
    clear HL
    have kx : Hid (wr.heap[g]? = some (.cells A 29 (0, 0))) := (BW.out.block g (gl k5.out)).trans k5.out
    have q2 : wr.cell? ⟨g, 4, none⟩ = some (.string x.cm.bu) := cell_arr kx.out (by rw [hX.out]; rfl)
    have q3 : wr.cell? ⟨g, 5, none⟩ = some (.string x.cm.ke) := cell_arr kx.out (by rw [hX.out]; rfl)
    go_upto_region 13 with (first
     | (refine wpList_load_row (by rfl) 58 (.tmp 6) (by rfl) gc (by rfl) 58 C (0, 0) _ kc.out Tryz.underlying58 rfl c2 ?_)
     | (go_at_call 29; refine (object_n (s := x.cm.bu) (k := x.cm.ke) (by omega) HC).mono ?_; rintro e v1 ⟨R1, th, rfl, H1⟩
        have R1S : Hid (Arr 5 R1) := H1.out.2.1
        have r1 : (Tryz.prog.info? 71).map (·.size) = some R1.size := (by rw [R1S.out.1]; exact inzr29)
        obtain ⟨v2, Hv2, Z1, K2⟩ := one_new v1 #[.string ⟨#[]⟩,.int .i64 0,.string ⟨#[]⟩,.int .i64 0,.slice none 0 0] R1 71)
     | (refine wpList_store_row (by rfl) 71 (.tmp 9) (.tmp 55) (by rfl) v1.heap.size R1 (by rfl) (by rfl) 71 _ Z1.out r1 (by rw [R1S.out.1]; rfl) R1S.out.2 ?_))
    rw [Hv2.out]
    clear q2 q3
    have HTH : Hid (th = (lookO P x.cm.bu x.cm.ke).isSome) := H1.out.1.b
    have BV2 : Hid (Below wr.heap.size wr v2) := H1.out.2.2.trans (K2.out.2.mono H1.out.2.2.size)
    clear K2 Hv2 Z1 H1 R1S r1
    have kx2 : Hid (v2.heap[g]? = some (.cells A 29 (0, 0))) := (BV2.out.block g (gl kx.out)).trans kx.out
    have kc2 : Hid (v2.heap[gc]? = some (.cells C 58 (0, 0))) := (BV2.out.block gc (gl kc.out)).trans kc.out
    have C2 : Hid (Ctm (16 + i) v2 (gc + 1) C P) := HC.out.below BV2.out
    have BB2 : Hid (Below w5.heap.size w5 v2) := BW.out.trans (BV2.out.mono BW.out.size)
    have V2 : Hid (Ev v2) := V5.out.below BB2.out
    have O2 : Hid (Okc v2 x) := OX.out.below BB2.out
    have ET : Hid (EtB P) := OK.out.2
    go_upto_region 14 with (first
     | (refine wpList_load_row (by rfl) 58 (.tmp 6) (by rfl) gc (by rfl) 58 C (0, 0) _ kc2.out Tryz.underlying58 rfl c2 ?_)
     | (refine wpList_load_row (by rfl) 29 (.tmp 3) (by rfl) g (by rfl) 29 A (0, 0) _ kx2.out Tryz.underlying29 rfl (info29 a18) ?_)
     | (go_at_call 25; refine (apply_n (K := 16 + i) (by omega) (by omega) hX O2 C2 ET V2).mono ?_; rintro e v3 ⟨CD, RD, rfl, H3⟩
        have DS : Hid (CD.size = 2) := H3.out.1.arr.1
        have DA : Hid (CD.all (·.oneCell') = true) := H3.out.1.arr.2
        have RR : Hid (Arr 2 RD) := (by rw [H3.out.2.1]; exact outR_arr _ : Arr 2 RD)
        have d2 : (Tryz.prog.info? 58).map (·.size) = some CD.size := (by rw [DS.out]; exact inz58)
        have r2 : (Tryz.prog.info? 51).map (·.size) = some RD.size := (by rw [RR.out.1]; exact outZ)
        obtain ⟨v4, Hv4, Z1, Z2, K4⟩ := two_new v3 CD RD DS.out RR.out.1)
     | (refine wpList_store_row (by rfl) 58 (.tmp 11) (.tmp 61) (by rfl) v3.heap.size CD (by rfl) (by rfl) 58 _ Z1.out d2 (by rw [DS.out]; rfl) DA.out ?_)
     | (refine wpList_store_row (by rfl) 51 (.tmp 12) (.tmp 62) (by rfl) (v3.heap.size + 1) RD (by rfl) (by rfl) 51 _ Z2.out r2 (by rw [RR.out.1]; rfl) RR.out.2 ?_))
    obtain ⟨gd, Hgd⟩ : ∃ g, Hid (v3.heap.size = g) := ⟨_, rfl⟩
    rw [Hv4.out, Hgd.out]
    have B34 : Hid (Below v3.heap.size v3 v4) := K4.out.2.2.1
    have B24 : Hid (Below v2.heap.size v2 v4) := H3.out.2.2.trans (B34.out.mono H3.out.2.2.size)
    have kd : Hid (v4.heap[gd]? = some (.cells CD 58 (0, 0))) := by rw [<- Hgd.out]; exact K4.out.1
    have ko : Hid (v4.heap[gd + 1]? = some (.cells RD 51 (0, 0))) := by rw [<- Hgd.out]; exact K4.out.2.1
    obtain ⟨ro, Hro⟩ : ∃ r, Hid (app sumO P x.cm = r) := ⟨_, rfl⟩
    have D4 : Hid (Ctm (16 + i + 1) v4 v2.heap.size CD ro.1) := by rw [<- Hro.out]; exact H3.out.1.below B34.out
    have ERD : Hid (RD = outR ro.2) := by rw [<- Hro.out]; exact H3.out.2.1
    have ET1 : Hid (EtB ro.1) := by rw [<- Hro.out]; exact app_et OK.out.2 (by have := (frm_ok HX.out).2.2; omega)
    clear K4 Hv4 Z1 Z2 H3
    have kx4 : Hid (v4.heap[g]? = some (.cells A 29 (0, 0))) := (B24.out.block g (gl kx2.out)).trans kx2.out
    have kc4 : Hid (v4.heap[gc]? = some (.cells C 58 (0, 0))) := (B24.out.block gc (gl kc2.out)).trans kc2.out
    have BB4 : Hid (Below w5.heap.size w5 v4) := BB2.out.trans (B24.out.mono BB2.out.size)
    have V4 : Hid (Ev v4) := V5.out.below BB4.out
    obtain ⟨xd, Hxd⟩ : ∃ z : Cx, Hid (z = ⟨⟨4, x.cm.i0, x.cm.i1, x.cm.i2, x.cm.bu, x.cm.ke, 0, 0, 0, 0, 0, 0, 0, ⟨#[]⟩, 0, [], 0, 0⟩, none, 0, 0⟩) := ⟨_, rfl⟩
    obtain ⟨AD, HAD⟩ : ∃ A, Hid (A = (encX xd).toArray) := ⟨_, rfl⟩
    have HLD : Hid (#[.int .i64 4,.int .i64 x.cm.i0,.int .i64 x.cm.i1,.int .i64 x.cm.i2,.string x.cm.bu,.string x.cm.ke,.int .i64 0,.int .i64 0,.int .i64 0,.int .i64 0,.int .i64 0,.int .i64 0,.int .i64 0,.string ⟨#[]⟩,.int .i64 0,.slice none 0 0,.int .i64 0,.int .i64 0] = AD) := (by rw [HAD.out, Hxd.out]; rfl : #[.int .i64 4,.int .i64 x.cm.i0,.int .i64 x.cm.i1,.int .i64 x.cm.i2,.string x.cm.bu,.string x.cm.ke,.int .i64 0,.int .i64 0,.int .i64 0,.int .i64 0,.int .i64 0,.int .i64 0,.int .i64 0,.string ⟨#[]⟩,.int .i64 0,.slice none 0 0,.int .i64 0,.int .i64 0] = AD)
    have O4 : Hid (Okc v4 xd) := by
     rw [Hxd.out]
     exact ⟨⟨hT.out.1, hT.out.2.1, by show (0 : Nat) <= _; omega⟩, by show (0 : Nat) <= _; omega, ⟨rfl, by show 0 <= _; omega, .inl rfl⟩, by show (0 : Nat) <= _; omega⟩
    have q1 : v4.cell? ⟨g, 1, none⟩ = some (.int .i64 x.cm.i0) := cell_arr kx4.out (by rw [hX.out]; rfl)
    have q2 : v4.cell? ⟨g, 2, none⟩ = some (.int .i64 x.cm.i1) := cell_arr kx4.out (by rw [hX.out]; rfl)
    have q3 : v4.cell? ⟨g, 3, none⟩ = some (.int .i64 x.cm.i2) := cell_arr kx4.out (by rw [hX.out]; rfl)
    have q4 : v4.cell? ⟨g, 4, none⟩ = some (.string x.cm.bu) := cell_arr kx4.out (by rw [hX.out]; rfl)
    have q5 : v4.cell? ⟨g, 5, none⟩ = some (.string x.cm.ke) := cell_arr kx4.out (by rw [hX.out]; rfl)
    go_upto_region 15 with (first
     | (refine wpList_load_row (by rfl) 58 (.tmp 11) (by rfl) gd (by rfl) 58 CD (0, 0) _ kd.out Tryz.underlying58 rfl d2 ?_)
     | (go_at_call 25; rw [HLD.out]; refine (apply_n (K := 16 + i + 1) (by omega) (by omega) HAD O4 D4 ET1 V4).mono ?_; rintro e v5 ⟨CE, RE, rfl, H5⟩
        have ES : Hid (CE.size = 2) := H5.out.1.arr.1
        have EA : Hid (CE.all (·.oneCell') = true) := H5.out.1.arr.2
        have RRE : Hid (Arr 2 RE) := (by rw [H5.out.2.1]; exact outR_arr _ : Arr 2 RE)
        have e2 : (Tryz.prog.info? 58).map (·.size) = some CE.size := (by rw [ES.out]; exact inz58)
        have r4 : (Tryz.prog.info? 51).map (·.size) = some RE.size := (by rw [RRE.out.1]; exact outZ)
        obtain ⟨v6, Hv6, Z1, Z2, K6⟩ := two_new v5 CE RE ES.out RRE.out.1)
     | (refine wpList_store_row (by rfl) 58 (.tmp 13) (.tmp 73) (by rfl) v5.heap.size CE (by rfl) (by rfl) 58 _ Z1.out e2 (by rw [ES.out]; rfl) EA.out ?_)
     | (refine wpList_store_row (by rfl) 51 (.tmp 14) (.tmp 74) (by rfl) (v5.heap.size + 1) RE (by rfl) (by rfl) 51 _ Z2.out r4 (by rw [RRE.out.1]; rfl) RRE.out.2 ?_))
    clear q1 q2 q3 q4 q5
    obtain ⟨ge, Hge⟩ : ∃ g, Hid (v5.heap.size = g) := ⟨_, rfl⟩
    rw [Hv6.out, Hge.out]
    have B56 : Hid (Below v5.heap.size v5 v6) := K6.out.2.2.1
    have B46 : Hid (Below v4.heap.size v4 v6) := H5.out.2.2.trans (B56.out.mono H5.out.2.2.size)
    have ke : Hid (v6.heap[ge]? = some (.cells CE 58 (0, 0))) := by rw [<- Hge.out]; exact K6.out.1
    have kp : Hid (v6.heap[ge + 1]? = some (.cells RE 51 (0, 0))) := by rw [<- Hge.out]; exact K6.out.2.1
    obtain ⟨rp, Hrp⟩ : ∃ r, Hid (app sumO ro.1 xd.cm = r) := ⟨_, rfl⟩
    have E6 : Hid (Ctm (16 + i + 1 + 1) v6 v4.heap.size CE rp.1) := by rw [<- Hrp.out]; exact H5.out.1.below B56.out
    have ERE : Hid (RE = outR rp.2) := by rw [<- Hrp.out]; exact H5.out.2.1
    clear K6 Hv6 Z1 Z2 H5
    have kx6 : Hid (v6.heap[g]? = some (.cells A 29 (0, 0))) := (B46.out.block g (gl kx4.out)).trans kx4.out
    have kc6 : Hid (v6.heap[gc]? = some (.cells C 58 (0, 0))) := (B46.out.block gc (gl kc4.out)).trans kc4.out
    have kd6 : Hid (v6.heap[gd]? = some (.cells CD 58 (0, 0))) := (B46.out.block gd (gl kd.out)).trans kd.out
    have ko6 : Hid (v6.heap[gd + 1]? = some (.cells RD 51 (0, 0))) := (B46.out.block _ (gl ko.out)).trans ko.out
    have CM : Hid (Ctm (16 + i) v6 (gc + 1) C P) := (C2.out.below B24.out).below B46.out
    have DM : Hid (Ctm (16 + i + 1) v6 v2.heap.size CD ro.1) := D4.out.below B46.out
    have BB6 : Hid (Below w.heap.size w v6) := B5.out.trans ((BB4.out.trans (B46.out.mono BB4.out.size)).mono B5.out.size)
    have qo : v6.cell? ⟨gd + 1, 0, none⟩ = some (.int .i64 ro.2.code) := cell_arr ko6.out (by rw [ERD.out]; rfl)
    have qp : v6.cell? ⟨ge + 1, 0, none⟩ = some (.int .i64 rp.2.code) := cell_arr kp.out (by rw [ERE.out]; rfl)
    have K3x : Hid (x.cm.k = 3) := HK3
    have XD : Hid (xd.cm.k = 4 /\ xd.cm.bu = x.cm.bu /\ xd.cm.ke = x.cm.ke) := by rw [Hxd.out]; exact ⟨rfl, rfl, rfl⟩
    by_cases h1 : ro.2.code = 1
    . have bk : rp = (P, noO 1) := by
       rw [<- Hrp.out, <- Hro.out]
       exact back_no sumO K3x.out XD.out.1 XD.out.2.1 (by rw [Hro.out]; exact h1)
      rw [h1] at qo
      have e1 : rp.2.code = 1 := by rw [bk]; rfl
      rw [e1] at qp
      have EQ : Hid (eqb P rp.1 = true) := eqb_yes (by rw [bk])
      clear bk e1 h1
      have hK6 : 16 + i <= 1048576 := by omega
      go_wp2_with (first
       | (refine wpList_load_rowG (by rfl) 58 (.tmp 6) (by rfl) gc (by rfl) 58 C (0, 0) _ kc6.out Tryz.underlying58 rfl c2 ?_)
       | (refine wpList_load_rowG (by rfl) 58 (.tmp 13) (by rfl) ge (by rfl) 58 CE (0, 0) _ ke.out Tryz.underlying58 rfl e2 ?_)
       | (go_at_call 26; refine (sameCt_n hK6 CM E6).mono ?_; rintro e v7 ⟨rfl, H7⟩; rw [EQ.out]))
      go_ret
      exact ⟨rfl, BB6.out.trans (H7.out.mono BB6.out.size)⟩
    . have NE1 : ¬ ro.2.code = 1 := h1
      clear h1
      cases th with
      | true =>
        go_wp2
        go_ret
        exact ⟨rfl, BB6.out⟩
      | false =>
        by_cases h0 : ro.2.code = 0
        rotate_left
        . go_wp2
          go_ret
          exact ⟨rfl, BB6.out⟩
        . have LN : lookO P x.cm.bu x.cm.ke = none := by
           have h := HTH.out
           cases hl : lookO P x.cm.bu x.cm.ke with
           | none => rfl
           | some o => rw [hl] at h; cases h
          have bk := back_yes sumO (x := x.cm) (y := xd.cm) OK.out.1 K3x.out XD.out.1 XD.out.2.1 XD.out.2.2 LN (by rw [Hro.out]; exact h0)
          rw [Hro.out, Hrp.out] at bk
          rw [h0] at qo
          have e1 : rp.2.code = 0 := by rw [bk.1]; rfl
          rw [e1] at qp
          have EQ : Hid (eqb P rp.1 = true) := eqb_yes (by rw [bk.1])
          have EQ2 : Hid (eqb P ro.1 = false) := eqb_no (fun e => bk.2.2 e.symm)
          have qo1 : v6.cell? ⟨gd + 1, 1, none⟩ = some (.string x.cm.et) := cell_arr ko6.out (by rw [ERD.out, <- bk.2.1]; rfl)
          have qx : v6.cell? ⟨g, 13, none⟩ = some (.string x.cm.et) := cell_arr kx6.out (by rw [hX.out]; rfl)
          clear bk e1 h0 LN NE1
          have hK6 : 16 + i <= 1048576 := by omega
          have XM : Hid (Ctm (16 + i + 1 + 1) v6 v4.heap.size CE rp.1) := E6
          have BV : Hid (Below w.heap.size w v6) := BB6
          have kcc : Hid (v6.heap[gc]? = some (.cells C 58 (0, 0))) := kc6
          have kdd : Hid (v6.heap[gd]? = some (.cells CD 58 (0, 0))) := kd6
          go_wp2_with (first
           | (refine wpList_load_rowG (by rfl) 58 (.tmp 6) (by rfl) gc (by rfl) 58 C (0, 0) _ kcc.out Tryz.underlying58 rfl c2 ?_)
           | (refine wpList_load_rowG (by rfl) 58 (.tmp 13) (by rfl) ge (by rfl) 58 CE (0, 0) _ ke.out Tryz.underlying58 rfl e2 ?_)
           | (refine wpList_load_rowG (by rfl) 58 (.tmp 11) (by rfl) gd (by rfl) 58 CD (0, 0) _ kdd.out Tryz.underlying58 rfl d2 ?_)
           | (go_at_call 26; refine (sameCt_n hK6 CM XM).mono ?_; rintro e v7 ⟨rfl, H7⟩; rw [EQ.out]
              have BV := (show Hid (Below w.heap.size w v7) from BV.out.trans (H7.out.mono BV.out.size))
              have CM := (show Hid (Ctm (16 + i) v7 (gc + 1) C P) from CM.out.below H7.out)
              have DM := (show Hid (Ctm (16 + i + 1) v7 v2.heap.size CD ro.1) from DM.out.below H7.out)
              have XM := DM
              have EQ := EQ2
              have kcc := (show Hid (v7.heap[gc]? = some (.cells C 58 (0, 0))) from (H7.out.block gc (gl kcc.out)).trans kcc.out)
              have kdd := (show Hid (v7.heap[gd]? = some (.cells CD 58 (0, 0))) from (H7.out.block gd (gl kdd.out)).trans kdd.out)))
          go_ret
          exact ⟨rfl, BV.out⟩
end Go.Proofs.YtfabnnbljkkihaaGreatDoor
