import Derived.Test.YtfabnnbljkkihaaGreatDoorMxp
import Derived.Test.YtfabnnbljkkihaaGreatDoorMx44
namespace Go.Proofs.YtfabnnbljkkihaaGreatDoor
open Go.ChangeShapes Go.WideShapes Go.ChangeAt Go.RowKit
set_option maxRecDepth 20000
set_option linter.unusedVariables false
set_option linter.unusedSimpArgs false
theorem stay_h {w w' : World} {g : Nat} {o : Obj} (H : Hid (Below w.heap.size w w')) (k : Hid (w.heap[g]? = some o)) : Hid (w'.heap[g]? = some o) := (H.out.block g (gl k.out)).trans k.out
theorem cellH {W : World} {g : Nat} (i : Nat) {A : Array Value} {t : TypeId} {fr : Nat × Nat} {v : Value} (h : Hid (W.heap[g]? = some (.cells A t fr))) (hv : A[i]? = some v) : W.cell? ⟨g, i, none⟩ = some v := cell_arr h.out hv
theorem enc_at {α : Type} {E : Enc α} {V : Array Value} {x : α} (h : Hid (V = (E.e x).toArray)) {i : Nat} {v : Value} (hv : (E.e x)[i]? = some v) : V[i]? = some v := by rw [h.out]; simpa using hv
theorem enc_arr {α : Type} {E : Enc α} {V : Array Value} {x : α} (h : Hid (V = (E.e x).toArray)) : Hid (Arr E.z V) := by
 rw [h.out]
 exact ⟨by simp [E.len], by simpa using E.one x⟩
theorem apart_no {P : Ctd} {x : Cm} (h : Okk P) (hc : (app sumO P x).2.code ≠ 0) : (app sumO P x).1 = P /\ (app sumO P x).2.etag = ⟨#[]⟩ := by
 by_cases hk : x.k = 10
 . exfalso
   apply hc
   unfold app
   rw [if_neg (by omega), if_neg (by omega), if_neg (by omega), if_neg (by omega), if_neg (by omega), if_neg (by omega), if_neg (by omega), if_neg (by omega), if_neg (by omega), if_pos hk]
   rfl
 . rcases apart_app sumO h hk with h1 | h1
   . exact absurd h1.1 hc
   . exact ⟨h1.2.1, h1.2.2⟩
theorem apart_yes {P : Ctd} {x : Cm} (h : Okk P) (hk : x.k ≠ 10) (hc : (app sumO P x).2.code = 0) : Apt P x (app sumO P x).1 := by
 rcases apart_app sumO h hk with h1 | h1
 . exact h1.2
 . exact absurd hc h1.1
set_option maxHeartbeats 16000000 in
theorem apart_law {w : World} {a : Option Addr} {n c : Nat} {X : List Cx} {A : Array Value} {x : Cx} (hV : Hid (Ev w)) (hA : Hid (Cms w 0 a n X)) (hX : Hid (A = (encX x).toArray)) (hI : Hid (Irow w 0 x.pa x.pn x.cm.ps)) (hT : Hid (x.cm.bu.size <= 281474976710656 /\ x.cm.ke.size <= 281474976710656 /\ x.cm.et.size <= 281474976710656)) :
  Calls Tryz.prog 6 #[.slice a n c, .agg A] w fun e w' => e = .returned (.bool true) /\ Hid (Below w.heap.size w w') := by
 have a18 : A.size = 18 := encX_sz hX.out
 have AA : Hid (A.all (·.oneCell') = true) := encX_all hX.out
 obtain ⟨w1, Hw1⟩ := nm (w.alloc (.cells A 29))
 obtain ⟨g, Hg⟩ := nm (w.heap.size)
 have B1 : Hid (Below w.heap.size w w1) := by rw [<- Hw1.out]; exact alloc1 w _
 have k1 : Hid (w1.heap[g]? = some (.cells A 29 (0, 0))) := by rw [<- Hw1.out, <- Hg.out]; exact heap_alloc_new w _
 have V1 : Hid (Ev w1) := hV.out.below B1.out
 go_enter Tryz.func6, Tryz.ntmps6
 go_upto_region 1 with (fail)
 rw [Hw1.out, Hg.out]
 clear Hw1
 go_upto_region 3 with (go_at_call 22; refine (alive11_n V1).mono ?_; rintro e w2 ⟨rfl, H2⟩)
 have B2 := bt B1 H2
 have A2 : Hid (Cms w2 0 a n X) := hA.out.below B2.out
 go_upto_region 4 with (go_at_call 23; refine (forms11_n A2).mono ?_; rintro e w3 ⟨a', m, c', rfl, H3⟩)
 obtain ⟨Y, HY⟩ := nm (X.filter (fun x => Fo.frm x.cm))
 have CY3 : Hid (Cms w3 0 a' m Y) := by rw [<- HY.out]; exact H3.out.cms A2.out
 have HF : Hid (∀ y ∈ Y, Fo.frm y.cm = true) := fun y hy => by rw [<- HY.out] at hy; exact (List.mem_filter.1 hy).2
 have B3 : Hid (Below w.heap.size w w3) := B2.out.trans (H3.out.f.mono B2.out.size)
 have LY : Hid (m = Y.length) := CY3.out.len
 have k3 : Hid (w3.heap[g]? = some (.cells A 29 (0, 0))) := (H3.out.f.block g (Nat.lt_of_lt_of_le (gl k1.out) H2.out.size)).trans ((H2.out.block g (gl k1.out)).trans k1.out)
 clear H3 HY A2 k1 V1 B1 B2 H2
 by_cases hm : (m : Int) <= 600
 rotate_left
 . rw [decide_eq_false hm]
   clear hm
   go_wp2
   go_ret
   exact ⟨rfl, B3.out⟩
 rw [decide_eq_true hm]
 have hm6 : m <= 600 := by omega
 clear hm
 have I3 : Hid (Irow w3 0 x.pa x.pn x.cm.ps) := hI.out.below B3.out
 by_cases hf : Fo.frm x.cm = true
 rotate_left
 . have hf2 : Fo.frm x.cm = false := by simpa using hf
   clear hf
   go_wp2_with (first
    | (refine wpList_load_rowG (by rfl) 29 (.tmp 3) (by rfl) g (by rfl) 29 A (0, 0) _ k3.out Tryz.underlying29 rfl (info29 a18) ?_)
    | (go_at_call 24; refine (inform_x hX I3 hT).mono ?_; rintro e w4 ⟨rfl, H4⟩; rw [hf2]))
   go_ret
   exact ⟨rfl, B3.out.trans (H4.out.mono B3.out.size)⟩
 have HX : Hid (Fo.frm x.cm = true) := hf
 go_upto_region 6 with (first
  | (refine wpList_load_rowG (by rfl) 29 (.tmp 3) (by rfl) g (by rfl) 29 A (0, 0) _ k3.out Tryz.underlying29 rfl (info29 a18) ?_)
  | (go_at_call 24; refine (inform_x hX I3 hT).mono ?_; rintro e w5 ⟨rfl, H5⟩; rw [hf]))
 clear hf
 have B5 := bt B3 H5
 have k5 := sh H5 k3
 have CY : Hid (Cms w5 0 a' m Y) := CY3.out.below H5.out
 have V5 : Hid (Ev w5) := hV.out.below B5.out
 have OX : Hid (Okc w5 x) := okc_of HX.out (hI.out.below B5.out) hT.out
 clear H5 k3 CY3 I3
 obtain ⟨gc, Hgc⟩ := nm (w5.heap.size)
 obtain ⟨w6, Hw6⟩ := nm (w5.alloc (.cells #[.slice none 0 0,.slice none 0 0] 58))
 have L5 : Hid (MkL w5 w6 gc #[.slice none 0 0,.slice none 0 0] Y 0) := by
  refine ⟨?_, Ctm.zero _ _ _, ?_⟩
  . rw [<- Hw6.out, <- Hgc.out]; exact heap_alloc_new w5 _
  . rw [<- Hw6.out]; exact alloc1 w5 _
 go_upto_region 7 with (fail)
 rw [Hw6.out, Hgc.out]
 clear Hw6
 go_wp2
 go_loopw [40] (fun ti wr => ∃ (i : Nat) (C : Array Value), i <= m /\ ti = .int .i64 i /\ Hid (MkL w5 wr gc C Y i)) (fun ti _ => m - (intOf ti).toNat)
 case atStart => exact ⟨0, _, by omega, rfl, L5⟩
 case round =>
  clear L5
  obtain ⟨i, C, hi, rfl, HL⟩ := hrel
  have c2 : (Tryz.prog.info? 58).map (·.size) = some C.size := by rw [HL.out.m.arr.1]; exact inz58
  by_cases hlt : i < m
  . have i3 : (i : Int) < (m : Int) := by omega
    have kx : i < Y.length := by rw [<- LY.out]; omega
    have HB : Hid (Below w5.heap.size w5 wr) := HL.out.f
    have CW : Hid (Cms wr 0 a' m Y) := CY.out.below HB.out
    obtain ⟨b1, o1, rfl, e1⟩ := CW.out.at_ kx
    obtain ⟨y, Hy⟩ := nm (Y[i])
    rw [Hy.out] at e1
    have EY : Hid (Y[i]? = some y) := by show _ = _; rw [<- Hy.out]; exact List.getElem?_eq_getElem kx
    have MY : y ∈ Y := List.mem_of_getElem? EY.out
    have FY : Hid (Fo.frm y.cm = true) := HF.out y MY
    have OY : Hid (Okc wr y) := okc_of FY.out (CW.out.ps y MY).1 (CW.out.st y MY)
    clear MY Hy
    obtain ⟨B, HBy⟩ : ∃ A, Hid (A = (encX y).toArray) := ⟨_, rfl⟩
    have b18 : B.size = 18 := encX_sz HBy.out
    have BA : Hid (B.all (·.oneCell') = true) := encX_all HBy.out
    have E1 : Hid (wr.rangeAt b1 (o1 + i * 18) (encX y)) := e1
    clear e1
    obtain ⟨v2, Hv2, K2⟩ := box_new wr B
    obtain ⟨g1, Hg1⟩ := nm (wr.heap.size)
    go_upto_region 10 with first
     | (refine wpList_ldA (by rfl) (.tmp 42) (by rfl) b1 (o1 + i * 18) (by rfl) HBy.out E1.out ?_)
     | (refine wpList_store_row (by rfl) 29 (.tmp 8) (.tmp 43) (by rfl) wr.heap.size B (by rfl) (by rfl) 29 _ (heap_alloc_new wr _) (info29 b18) b18.symm BA.out ?_)
    rw [Hv2.out, Hg1.out]
    have k1b : Hid (v2.heap[g1]? = some (.cells B 29 (0, 0))) := by rw [<- Hg1.out]; exact K2.out.1
    have Bv2 : Hid (Below wr.heap.size wr v2) := K2.out.2.1
    have kc2 : Hid (v2.heap[gc]? = some (.cells C 58 (0, 0))) := (Bv2.out.block _ (gl HL.out.c)).trans HL.out.c
    have CM2 : Hid (Ctm (16 + i) v2 (gc + 1) C (folC (led (Y.take i)))) := HL.out.m.below Bv2.out
    have BW2 := bt HB Bv2
    have OY2 : Hid (Okc v2 y) := OY.out.below Bv2.out
    have V2 : Hid (Ev v2) := V5.out.below BW2.out
    have ET : Hid (EtB (folC (led (Y.take i)))) := (folC_ok _ (frm_take HF.out i)).2
    clear K2 Hv2 Hg1 E1
    go_wp2_with (first
     | (refine wpList_load_row (by rfl) 58 (.tmp 6) (by rfl) gc (by rfl) 58 C (0, 0) _ kc2.out Tryz.underlying58 rfl c2 ?_)
     | (refine wpList_load_row (by rfl) 29 (.tmp 8) (by rfl) g1 (by rfl) 29 B (0, 0) _ k1b.out Tryz.underlying29 rfl (info29 b18) ?_)
     | (go_at_call 25; refine (apply_n (K := 16 + i) (by omega) (by omega) HBy OY2 CM2 ET V2).mono ?_; rintro e v3 ⟨C', R, rfl, H3⟩
        have c3 : (Tryz.prog.info? 58).map (·.size) = some C'.size := (by rw [H3.out.1.arr.1]; exact inz58)
        have C3S : Hid (C'.size = 2) := H3.out.1.arr.1
        have C3A : Hid (C'.all (·.oneCell') = true) := H3.out.1.arr.2
        have CA : Hid (C.size = 2) := HL.out.m.arr.1
        have kc3 : Hid (v3.heap[gc]? = some (.cells C 58 (0, 0))) := (H3.out.2.2.block _ (gl kc2.out)).trans kc2.out)
     | (refine wpList_store_row (by rfl) 58 (.tmp 6) (.tmp 48) (by rfl) gc C' (by rfl) (by rfl) 58 _ kc3.out c3 (by rw [C3S.out, CA.out]) C3A.out ?_))
    have FIN : Hid (MkL w5 (v3.setRow gc C') gc C' Y (i + 1)) := by
     have lg := Hgc.out
     have z2 : gc + 1 <= v2.heap.size := (gl kc2.out)
     refine ⟨setRow_heap _ _ _ _ _ _ kc3.out, ?_, below_setRow (BW2.out.trans (H3.out.2.2.mono BW2.out.size)) (by omega) _⟩
     have e : folC (led (Y.take (i + 1))) = (app sumO (folC (led (Y.take i))) y.cm).1 := by rw [led_snoc EY.out, folC_snoc]
     rw [e]
     exact ((H3.out.1.dn z2).keep (fun q h1 _ => setRow_other _ _ _ _ (by omega)) (by rw [setRow_size]; exact Nat.le_refl _))
    go_roundw
    case rel => exact ⟨i + 1, C', by omega, by go_num, FIN⟩
    case measure => simp [intOf]; omega
  . have ein : i = m := by omega
    subst ein
    have HC : Hid (Ctm (16 + i) wr (gc + 1) C (folC (led Y))) := by
     have h := HL.out.m
     rw [List.take_of_length_le (by rw [<- LY.out]; exact Nat.le_refl _)] at h
     exact h
    have kc : Hid (wr.heap[gc]? = some (.cells C 58 (0, 0))) := HL.out.c
    have BW : Hid (Below w5.heap.size w5 wr) := HL.out.f
    have OK : Hid (Okk (folC (led Y)) /\ EtB (folC (led Y))) := folC_ok _ (frm_all HF.out)
    obtain ⟨P, HP⟩ := nm (folC (led Y))
    rw [HP.out] at HC OK
    clear HL
    have kx := stay_h BW k5
    have V2 : Hid (Ev wr) := V5.out.below BW.out
    have O2 : Hid (Okc wr x) := OX.out.below BW.out
    have ET : Hid (EtB P) := OK.out.2
    go_upto_region 13 with (first
     | (refine wpList_load_row (by rfl) 58 (.tmp 6) (by rfl) gc (by rfl) 58 C (0, 0) _ kc.out Tryz.underlying58 rfl c2 ?_)
     | (refine wpList_load_row (by rfl) 29 (.tmp 3) (by rfl) g (by rfl) 29 A (0, 0) _ kx.out Tryz.underlying29 rfl (info29 a18) ?_)
     | (go_at_call 25; refine (apply_n (K := 16 + i) (by omega) (by omega) hX O2 HC ET V2).mono ?_; rintro e v3 ⟨CD, RD, rfl, H3⟩
        have DS : Hid (CD.size = 2) := H3.out.1.arr.1
        have DA : Hid (CD.all (·.oneCell') = true) := H3.out.1.arr.2
        have RR : Hid (Arr 2 RD) := (by rw [H3.out.2.1]; exact outR_arr _ : Arr 2 RD)
        have d2 : (Tryz.prog.info? 58).map (·.size) = some CD.size := (by rw [DS.out]; exact inz58)
        have r2 : (Tryz.prog.info? 51).map (·.size) = some RD.size := (by rw [RR.out.1]; exact outZ)
        obtain ⟨v4, Hv4, Z1, Z2, K4⟩ := two_new v3 CD RD DS.out RR.out.1)
     | (refine wpList_store_row (by rfl) 58 (.tmp 9) (.tmp 55) (by rfl) v3.heap.size CD (by rfl) (by rfl) 58 _ Z1.out d2 (by rw [DS.out]; rfl) DA.out ?_)
     | (refine wpList_store_row (by rfl) 51 (.tmp 10) (.tmp 56) (by rfl) (v3.heap.size + 1) RD (by rfl) (by rfl) 51 _ Z2.out r2 (by rw [RR.out.1]; rfl) RR.out.2 ?_))
    obtain ⟨gd, Hgd⟩ := nm (v3.heap.size)
    rw [Hv4.out, Hgd.out]
    have B34 : Hid (Below v3.heap.size v3 v4) := K4.out.2.2.1
    have B24 : Hid (Below wr.heap.size wr v4) := H3.out.2.2.trans (B34.out.mono H3.out.2.2.size)
    have kd : Hid (v4.heap[gd]? = some (.cells CD 58 (0, 0))) := by rw [<- Hgd.out]; exact K4.out.1
    have ko : Hid (v4.heap[gd + 1]? = some (.cells RD 51 (0, 0))) := by rw [<- Hgd.out]; exact K4.out.2.1
    obtain ⟨ro, Hro⟩ := nm (app sumO P x.cm)
    obtain ⟨lod, Hlod⟩ := nm (wr.heap.size)
    have D4 : Hid (Ctm (16 + i + 1) v4 lod CD ro.1) := by rw [<- Hro.out, <- Hlod.out]; exact H3.out.1.below B34.out
    have ERD : Hid (RD = outR ro.2) := by rw [<- Hro.out]; exact H3.out.2.1
    clear K4 Hv4 Z1 Z2 H3
    have kx4 := stay_h B24 kx
    have kc4 := stay_h B24 kc
    have C4 : Hid (Ctm (16 + i) v4 (gc + 1) C P) := HC.out.below B24.out
    have BB4 : Hid (Below w.heap.size w v4) := B5.out.trans ((BW.out.trans (B24.out.mono BW.out.size)).mono B5.out.size)
    clear kx kc V2 O2 ET HC B24 B34 BW
    have qo : v4.cell? ⟨gd + 1, 0, none⟩ = some (.int .i64 ro.2.code) := cellH 0 ko (by rw [ERD.out]; rfl)
    have hK6 : 16 + i <= 1048576 := by omega
    have hK7 : 16 + i + 1 <= 1048576 := by omega
    by_cases h0 : ro.2.code = 0
    rotate_left
    . have AN := apart_no (x := x.cm) OK.out.1 (by rw [Hro.out]; exact h0)
      rw [Hro.out] at AN
      have EQ : Hid (eqb P ro.1 = true) := eqb_yes AN.1.symm
      have qe : Hid (v4.heap[gd + 1]? = some (.cells #[.int .i64 ro.2.code,.string ⟨#[]⟩] 51 (0, 0))) := by
       have h := ko.out
       rw [ERD.out] at h
       unfold outR at h
       rw [AN.2] at h
       exact h
      clear AN
      go_wp2_with (first
       | (refine wpList_load_row (by rfl) 58 (.tmp 6) (by rfl) gc (by rfl) 58 C (0, 0) _ kc4.out Tryz.underlying58 rfl c2 ?_)
       | (refine wpList_load_row (by rfl) 58 (.tmp 9) (by rfl) gd (by rfl) 58 CD (0, 0) _ kd.out Tryz.underlying58 rfl d2 ?_)
       | (go_at_call 26; refine (sameCt_n hK6 C4 D4).mono ?_; rintro e v7 ⟨rfl, H7⟩; rw [EQ.out]
          have qe1 : v7.cell? ⟨gd + 1, 1, none⟩ = some (.string ⟨#[]⟩) := cellH 1 (stay_h H7 qe) rfl))
      go_ret
      exact ⟨rfl, BB4.out.trans (H7.out.mono BB4.out.size)⟩
    rw [h0] at qo
    have HC0 : Hid (ro.2.code = 0) := h0
    clear h0
    have q0 : v4.cell? ⟨g, 0, none⟩ = some (.int .i64 x.cm.k) := cellH 0 kx4 (by rw [hX.out]; rfl)
    by_cases hk : x.cm.k = 10
    . rw [hk] at q0
      go_wp2
      go_ret
      exact ⟨rfl, BB4.out⟩
    have AP : Hid (Apt P x.cm ro.1) := by
     have h := apart_yes (x := x.cm) OK.out.1 hk (by rw [Hro.out]; exact HC0.out)
     rw [Hro.out] at h
     exact h
    have OKD : Hid (Okk ro.1) := by rw [<- Hro.out]; exact okk_app sumO OK.out.1 (frm_ok HX.out).1
    have k10 : (x.cm.k == 10) = false := by simpa using hk
    clear hk
    go_upto_region 17 with (fail)
    clear q0 qo k10
    obtain ⟨a1, n1, c1, XB, fa, fn, fc, F, EA, CA, PA⟩ := C4.out
    obtain ⟨lo, Hlo⟩ := nm (gc + 1)
    obtain ⟨hi, Hhi⟩ := nm (v4.heap.size)
    have HEA : Hid (C = #[.slice a1 n1 c1,.slice fa fn fc]) := EA
    have HCA : Hid (CtO (16 + i) v4 lo hi a1 n1 c1 XB fa fn fc F) := by rw [<- Hlo.out, <- Hhi.out]; exact CA
    have HPA : Hid (P = ⟨XB.map Bkx.bk, F⟩) := PA
    clear EA CA PA C4
    have n1K : n1 <= 1048576 := Nat.le_trans HCA.out.k.1 hK6
    have qc : v4.cell? ⟨gc, 0, none⟩ = some (.slice a1 n1 c1) := cellH 0 kc4 (by rw [HEA.out]; rfl)
    go_upto_region 18 with (fail)
    clear qc
    go_loopw [74] (fun ti wr => ∃ (j : Nat), j <= n1 /\ ti = .int .i64 j /\ Hid (Below v4.heap.size v4 wr)) (fun ti _ => n1 - (intOf ti).toNat)
    case atStart => exact ⟨0, by omega, rfl, Below.refl _ _⟩
    case round =>
     obtain ⟨j, hj, rfl, HW⟩ := hrel
     by_cases hlt : j < n1
     rotate_left
     . have ein : j = n1 := by omega
       subst ein
       go_wp2
       go_ret
       exact ⟨rfl, BB4.out.trans (HW.out.mono BB4.out.size)⟩
     have i3 : (j : Int) < (n1 : Int) := by omega
     have RB : Hid (Rw wr lo hi 65 EBk a1 n1 c1 XB) := HCA.out.b.keep (fun q _ _ hq => HW.out.block q hq)
     have kx : j < XB.length := by rw [<- RB.out.len]; omega
     obtain ⟨b1, e1, _, _, r1⟩ := RB.out.at_ kx
     rw [e1]
     obtain ⟨b, Hb⟩ := nm (XB[j])
     rw [Hb.out] at r1
     have MX : b ∈ XB := List.mem_of_getElem? (by rw [<- Hb.out]; exact List.getElem?_eq_getElem kx)
     have MB : Hid (b.bk ∈ P.bks) := by rw [HPA.out]; exact List.mem_map_of_mem MX
     have R1 : Hid (wr.rangeAt b1 (j * 5) (EBk.e b)) := r1
     have BO0 : Hid (BkO (16 + i) v4 lo hi b) := HCA.out.bb b MX
     clear r1 RB kx Hb MX e1
     obtain ⟨Vb, HVb⟩ : ∃ V, Hid (V = (EBk.e b).toArray) := ⟨_, rfl⟩
     have VS : Hid (Arr 5 Vb) := enc_arr HVb
     have v5 : (Tryz.prog.info? 65).map (·.size) = some Vb.size := by rw [VS.out.1]; kernel_rfl
     obtain ⟨t1, Ht1, Z1, K1⟩ := one_new wr #[.string ⟨#[]⟩,.int .i64 0,.int .i64 0,.slice none 0 0,.slice none 0 0] Vb 65
     go_upto_region 20 with (first
      | (refine wpList_ldE (by rfl) (.tmp 76) (by rfl) b1 (j * 5) (by rfl) HVb.out R1.out Tryz.underlying65 rfl (by kernel_rfl) ?_)
      | (refine wpList_store_row (by rfl) 65 (.tmp 12) (.tmp 77) (by rfl) wr.heap.size Vb (by rfl) (by rfl) 65 _ Z1.out v5 (by rw [VS.out.1]; rfl) VS.out.2 ?_))
     obtain ⟨gb, Hgb⟩ := nm (wr.heap.size)
     rw [Ht1.out, Hgb.out]
     have kb : Hid (t1.heap[gb]? = some (.cells Vb 65 (0, 0))) := by rw [<- Hgb.out]; exact K1.out.1
     have BT1 : Hid (Below wr.heap.size wr t1) := K1.out.2
     have BT := bt HW BT1
     clear K1 Ht1 Z1 Hgb BT1 R1
     have kd1 := stay_h BT kd
     have D1 : Hid (Ctm (16 + i + 1) t1 lod CD ro.1) := D4.out.below BT.out
     have q1 : t1.cell? ⟨gb, 0, none⟩ = some (.string b.nm) := cellH 0 kb (enc_at (E := EBk) HVb rfl)
     go_upto_region 21 with (first
      | (refine wpList_load_row (by rfl) 58 (.tmp 9) (by rfl) gd (by rfl) 58 CD (0, 0) _ kd1.out Tryz.underlying58 rfl d2 ?_)
      | (go_at_call 27; refine (bucket_n (s := b.nm) hK7 D1).mono ?_; rintro e t2 ⟨R2, th, rfl, H2⟩
         have RS : Hid (Arr 5 R2) := H2.out.2.1
         have r5 : (Tryz.prog.info? 65).map (·.size) = some R2.size := (by rw [RS.out.1]; kernel_rfl)
         obtain ⟨t3, Ht3, Z3, K3⟩ := one_new t2 #[.string ⟨#[]⟩,.int .i64 0,.int .i64 0,.slice none 0 0,.slice none 0 0] R2 65)
      | (refine wpList_store_row (by rfl) 65 (.tmp 13) (.tmp 83) (by rfl) t2.heap.size R2 (by rfl) (by rfl) 65 _ Z3.out r5 (by rw [RS.out.1]; rfl) RS.out.2 ?_))
     obtain ⟨ge, Hge⟩ := nm (t2.heap.size)
     rw [Ht3.out, Hge.out]
     clear q1
     have ke : Hid (t3.heap[ge]? = some (.cells R2 65 (0, 0))) := by rw [<- Hge.out]; exact K3.out.1
     have B12 : Hid (Below t1.heap.size t1 t2) := H2.out.2.2
     have B23 : Hid (Below t2.heap.size t2 t3) := K3.out.2
     have B13 := bt B12 B23
     have G2 : Hid (Got65 (16 + i + 1) t1 t2 (lookB ro.1 b.nm) R2 th) := H2.out.1
     have BT3 := bt BT B13
     have BO : Hid (BkO (16 + i) t3 lo hi b) := BO0.out.keep (fun q _ _ hq => BT3.out.block q hq)
     have kb0 := stay_h B13 kb
     have kx0 := stay_h BT3 kx4
     have kd0 := stay_h BT3 kd
     have D0 : Hid (Ctm (16 + i + 1) t3 lod CD ro.1) := D4.out.below BT3.out
     clear K3 Ht3 Z3 Hge H2 BO0 kd1 D1 kb B12 B13 BT
     have q1 : t3.cell? ⟨gb, 0, none⟩ = some (.string b.nm) := cellH 0 kb0 (enc_at (E := EBk) HVb rfl)
     have q2 : t3.cell? ⟨g, 4, none⟩ = some (.string x.cm.bu) := cellH 4 kx0 (by rw [hX.out]; rfl)
     by_cases hnm : b.nm = x.cm.bu
     rotate_left
     . have sb : (b.nm.toList == x.cm.bu.toList) = false := by rw [strBx, decide_eq_false hnm]
       have LK : lookB ro.1 b.nm = some b.bk := apt_bk (b := b.bk) OKD.out AP.out MB.out hnm
       have TH : th = true := by rw [G2.out.b, LK]; rfl
       obtain ⟨oy, oy1, oy2, oy3⟩ := G2.out.y _ LK
       have HOY : Hid (R2 = (EBk.e oy).toArray) := oy1
       have OY3 : Hid (BkO (16 + i + 1) t3 t1.heap.size t2.heap.size oy) := oy3.keep (fun q _ _ hq => B23.out.block q hq)
       have EQ : Hid (eqb b.bk oy.bk = true) := eqb_yes oy2.symm
       subst TH
       clear hnm LK oy1 oy2 oy3 G2
       go_upto_region 38 with (first
        | (refine wpList_load_rowG (by rfl) 65 (.tmp 12) (by rfl) gb (by rfl) 65 Vb (0, 0) _ kb0.out Tryz.underlying65 rfl v5 ?_)
        | (refine wpList_load_rowG (by rfl) 65 (.tmp 13) (by rfl) ge (by rfl) 65 R2 (0, 0) _ ke.out Tryz.underlying65 rfl r5 ?_)
        | (go_at_call 28; refine (sameBk_n hK6 HVb HOY BO OY3).mono ?_; rintro e t4 ⟨rfl, H4⟩; rw [EQ.out]))
       clear q1 q2 sb
       have BT4 := bt BT3 H4
       go_wp2
       go_roundw
       case rel => exact ⟨j + 1, by omega, by go_num, BT4⟩
       case measure => simp [intOf]; omega
     have HNM : Hid (b.bk.name = x.cm.bu) := hnm
     rw [hnm] at q1
     go_upto_region 24 with (fail)
     clear q1 q2 G2 ke r5 hnm
     obtain ⟨u0, Hu0⟩ := nm (t3)
     rw [Hu0.out] at BO kb0 kx0 kd0 D0 BT3
     rw [Hu0.out]
     have onK : b.on <= 1048576 := Nat.le_trans BO.out.k.1 hK6
     have unK : b.un <= 1048576 := Nat.le_trans BO.out.k.2 hK6
     have qb : u0.cell? ⟨gb, 3, none⟩ = some (.slice b.oa b.on b.oc) := cellH 3 kb0 (enc_at (E := EBk) HVb rfl)
     go_upto_region 25 with (fail)
     clear qb
     go_loopw [101] (fun ti wr => ∃ (k : Nat), k <= b.on /\ ti = .int .i64 k /\ Hid (Below u0.heap.size u0 wr)) (fun ti _ => b.on - (intOf ti).toNat)
     case atStart => exact ⟨0, by omega, rfl, Below.refl _ _⟩
     case round =>
      obtain ⟨k, hk', rfl, HW⟩ := hrel
      by_cases hlt : k < b.on
      . have i3 : (k : Int) < (b.on : Int) := by omega
        have RY : Hid (Rw wr lo hi 71 EOb b.oa b.on b.oc b.ox) := BO.out.o.keep (fun q _ _ hq => HW.out.block q hq)
        have kx : k < b.ox.length := by rw [<- RY.out.len]; omega
        obtain ⟨b1, e1, _, _, r1⟩ := RY.out.at_ kx
        rw [e1]
        obtain ⟨y, Hy⟩ := nm (b.ox[k])
        rw [Hy.out] at r1
        have MY : Hid (y ∈ b.ox) := List.mem_of_getElem? (by rw [<- Hy.out]; exact List.getElem?_eq_getElem kx)
        have R1 : Hid (wr.rangeAt b1 (k * 5) (EOb.e y)) := r1
        have YO : Hid (ObO (16 + i) wr lo hi y) := (BO.out.oo y MY.out).keep (fun q _ _ hq => HW.out.block q hq)
        clear r1 RY kx Hy e1
        obtain ⟨V, HV⟩ : ∃ V, Hid (V = (EOb.e y).toArray) := ⟨_, rfl⟩
        have VS : Hid (Arr 5 V) := enc_arr HV
        have v5 : (Tryz.prog.info? 71).map (·.size) = some V.size := by rw [VS.out.1]; kernel_rfl
        obtain ⟨u1, Hu1, Z1, K1⟩ := one_new wr #[.string ⟨#[]⟩,.int .i64 0,.string ⟨#[]⟩,.int .i64 0,.slice none 0 0] V 71
        go_upto_region 27 with (first
         | (refine wpList_ldE (by rfl) (.tmp 103) (by rfl) b1 (k * 5) (by rfl) HV.out R1.out Tryz.underlying71 rfl (by kernel_rfl) ?_)
         | (refine wpList_store_row (by rfl) 71 (.tmp 16) (.tmp 104) (by rfl) wr.heap.size V (by rfl) (by rfl) 71 _ Z1.out v5 (by rw [VS.out.1]; rfl) VS.out.2 ?_))
        obtain ⟨gy, Hgy⟩ := nm (wr.heap.size)
        rw [Hu1.out, Hgy.out]
        have ky : Hid (u1.heap[gy]? = some (.cells V 71 (0, 0))) := by rw [<- Hgy.out]; exact K1.out.1
        have BU1 : Hid (Below wr.heap.size wr u1) := K1.out.2
        have BU := bt HW BU1
        have YO1 : Hid (ObO (16 + i) u1 lo hi y) := YO.out.keep (fun q _ _ hq => BU1.out.block q hq)
        clear K1 Hu1 Z1 Hgy BU1 YO
        have kd1 := stay_h BU kd0
        have kb1 := stay_h BU kb0
        have kx1 := stay_h BU kx0
        have D1 : Hid (Ctm (16 + i + 1) u1 lod CD ro.1) := D0.out.below BU.out
        have q1 : u1.cell? ⟨gb, 0, none⟩ = some (.string b.nm) := cellH 0 kb1 (enc_at (E := EBk) HVb rfl)
        have q2 : u1.cell? ⟨gy, 0, none⟩ = some (.string y.ob.key) := cellH 0 ky (enc_at (E := EOb) HV rfl)
        go_upto_region 28 with (first
         | (refine wpList_load_row (by rfl) 58 (.tmp 9) (by rfl) gd (by rfl) 58 CD (0, 0) _ kd1.out Tryz.underlying58 rfl d2 ?_)
         | (go_at_call 29; refine (object_n (s := b.nm) (k := y.ob.key) hK7 D1).mono ?_; rintro e u2 ⟨R2, th, rfl, H2⟩
            have RS : Hid (Arr 5 R2) := H2.out.2.1
            have r5 : (Tryz.prog.info? 71).map (·.size) = some R2.size := (by rw [RS.out.1]; kernel_rfl)
            obtain ⟨u3, Hu3, Z3, K3⟩ := one_new u2 #[.string ⟨#[]⟩,.int .i64 0,.string ⟨#[]⟩,.int .i64 0,.slice none 0 0] R2 71)
         | (refine wpList_store_row (by rfl) 71 (.tmp 17) (.tmp 112) (by rfl) u2.heap.size R2 (by rfl) (by rfl) 71 _ Z3.out r5 (by rw [RS.out.1]; rfl) RS.out.2 ?_))
        obtain ⟨gz, Hgz⟩ := nm (u2.heap.size)
        rw [Hu3.out, Hgz.out]
        clear q1 q2
        have kz : Hid (u3.heap[gz]? = some (.cells R2 71 (0, 0))) := by rw [<- Hgz.out]; exact K3.out.1
        have B12 : Hid (Below u1.heap.size u1 u2) := H2.out.2.2
        have B23 : Hid (Below u2.heap.size u2 u3) := K3.out.2
        have B13 := bt B12 B23
        have G2 : Hid (Got71 (16 + i + 1) u1 u2 (lookO ro.1 b.nm y.ob.key) R2 th) := H2.out.1
        have BU3 := bt BU B13
        have YO3 : Hid (ObO (16 + i) u3 lo hi y) := YO1.out.keep (fun q _ _ hq => B13.out.block q hq)
        have ky3 := stay_h B13 ky
        have kx3 := stay_h B13 kx1
        clear K3 Hu3 Z3 Hgz H2 YO1 kd1 kb1 kx1 ky D1 B12 BU B13
        have q1 : u3.cell? ⟨gy, 0, none⟩ = some (.string y.ob.key) := cellH 0 ky3 (enc_at (E := EOb) HV rfl)
        have q2 : u3.cell? ⟨g, 5, none⟩ = some (.string x.cm.ke) := cellH 5 kx3 (by rw [hX.out]; rfl)
        by_cases hke : y.ob.key = x.cm.ke
        . rw [hke] at q1
          go_upto_region 30 with (fail)
          clear q1 q2
          go_wp2
          go_roundw
          case rel => exact ⟨k + 1, by omega, by go_num, BU3⟩
          case measure => simp [intOf]; omega
        . have sb : (y.ob.key.toList == x.cm.ke.toList) = false := by rw [strBx, decide_eq_false hke]
          have LK : lookO ro.1 b.nm y.ob.key = some y.ob := apt_ob (b := b.bk) OKD.out AP.out MB.out HNM.out (List.mem_map_of_mem MY.out) hke
          have TH : th = true := by rw [G2.out.b, LK]; rfl
          obtain ⟨oy, oy1, oy2, oy3⟩ := G2.out.y _ LK
          have HOY : Hid (R2 = (EOb.e oy).toArray) := oy1
          have OY3 : Hid (ObO (16 + i + 1) u3 u1.heap.size u2.heap.size oy) := oy3.keep (fun q _ _ hq => B23.out.block q hq)
          have EQ : Hid (eqb y.ob oy.ob = true) := eqb_yes oy2.symm
          subst TH
          clear hke LK oy1 oy2 oy3 G2
          go_upto_region 30 with (first
           | (refine wpList_load_rowG (by rfl) 71 (.tmp 16) (by rfl) gy (by rfl) 71 V (0, 0) _ ky3.out Tryz.underlying71 rfl v5 ?_)
           | (refine wpList_load_rowG (by rfl) 71 (.tmp 17) (by rfl) gz (by rfl) 71 R2 (0, 0) _ kz.out Tryz.underlying71 rfl r5 ?_)
           | (go_at_call 30; refine (sameOb_n hK6 HV HOY YO3 OY3).mono ?_; rintro e u4 ⟨rfl, H4⟩; rw [EQ.out]))
          clear q1 q2 sb
          have BU4 := bt BU3 H4
          go_wp2
          go_roundw
          case rel => exact ⟨k + 1, by omega, by go_num, BU4⟩
          case measure => simp [intOf]; omega
      . have HWo : Hid (Below u0.heap.size u0 wr) := HW
        obtain ⟨up, Hup⟩ := nm (wr)
        rw [Hup.out] at HWo
        rw [Hup.out]
        have kbr := stay_h HWo kb0
        have qb : up.cell? ⟨gb, 4, none⟩ = some (.slice b.ua b.un b.uc) := cellH 4 kbr (enc_at (E := EBk) HVb rfl)
        have ein : k = b.on := by omega
        subst ein
        go_upto_region 32 with (fail)
        clear qb
        have BO9 : Hid (BkO (16 + i) up lo hi b) := BO.out.keep (fun q _ _ hq => HWo.out.block q hq)
        have kx9 := stay_h HWo kx0
        have kd9 := stay_h HWo kd0
        have D9 : Hid (Ctm (16 + i + 1) up lod CD ro.1) := D0.out.below HWo.out
        have BT9 := bt BT3 HWo
        clear Hup HW
        go_loopw [133] (fun ti wr => ∃ (k : Nat), k <= b.un /\ ti = .int .i64 k /\ Hid (Below up.heap.size up wr)) (fun ti _ => b.un - (intOf ti).toNat)
        case atStart => exact ⟨0, by omega, rfl, Below.refl _ _⟩
        case round =>
         obtain ⟨k, hk', rfl, HW⟩ := hrel
         by_cases hlt : k < b.un
         . have i3 : (k : Int) < (b.un : Int) := by omega
           have RY : Hid (Rw wr lo hi 77 EUl b.ua b.un b.uc b.ux) := BO9.out.u.keep (fun q _ _ hq => HW.out.block q hq)
           have kx : k < b.ux.length := by rw [<- RY.out.len]; omega
           obtain ⟨b1, e1, _, _, r1⟩ := RY.out.at_ kx
           rw [e1]
           obtain ⟨y, Hy⟩ := nm (b.ux[k])
           rw [Hy.out] at r1
           have MY : Hid (y ∈ b.ux) := List.mem_of_getElem? (by rw [<- Hy.out]; exact List.getElem?_eq_getElem kx)
           have R1 : Hid (wr.rangeAt b1 (k * 5) (EUl.e y)) := r1
           have YO : Hid (UlO (16 + i) wr lo hi y) := (BO9.out.uu y MY.out).keep (fun q _ _ hq => HW.out.block q hq)
           clear r1 RY kx Hy e1
           obtain ⟨V, HV⟩ : ∃ V, Hid (V = (EUl.e y).toArray) := ⟨_, rfl⟩
           have VS : Hid (Arr 5 V) := enc_arr HV
           have v5 : (Tryz.prog.info? 77).map (·.size) = some V.size := by rw [VS.out.1]; kernel_rfl
           obtain ⟨u1, Hu1, Z1, K1⟩ := one_new wr #[.int .i64 0,.int .i64 0,.int .i64 0,.string ⟨#[]⟩,.slice none 0 0] V 77
           go_upto_region 34 with (first
            | (refine wpList_ldE (by rfl) (.tmp 135) (by rfl) b1 (k * 5) (by rfl) HV.out R1.out Tryz.underlying77 rfl (by kernel_rfl) ?_)
            | (refine wpList_store_row (by rfl) 77 (.tmp 20) (.tmp 136) (by rfl) wr.heap.size V (by rfl) (by rfl) 77 _ Z1.out v5 (by rw [VS.out.1]; rfl) VS.out.2 ?_))
           obtain ⟨gy, Hgy⟩ := nm (wr.heap.size)
           rw [Hu1.out, Hgy.out]
           have ky : Hid (u1.heap[gy]? = some (.cells V 77 (0, 0))) := by rw [<- Hgy.out]; exact K1.out.1
           have BU1 : Hid (Below wr.heap.size wr u1) := K1.out.2
           have BU := bt HW BU1
           have YO1 : Hid (UlO (16 + i) u1 lo hi y) := YO.out.keep (fun q _ _ hq => BU1.out.block q hq)
           clear K1 Hu1 Z1 Hgy BU1 YO
           have kd1 := stay_h BU kd9
           have kb1 := stay_h BU kbr
           have kx1 := stay_h BU kx9
           have D1 : Hid (Ctm (16 + i + 1) u1 lod CD ro.1) := D9.out.below BU.out
           have q1 : u1.cell? ⟨gb, 0, none⟩ = some (.string b.nm) := cellH 0 kb1 (enc_at (E := EBk) HVb rfl)
           have q2 : u1.cell? ⟨gy, 3, none⟩ = some (.string y.ul.key) := cellH 3 ky (enc_at (E := EUl) HV rfl)
           have q4 : u1.cell? ⟨gy, 0, none⟩ = some (.int .i64 y.ul.i0) := cellH 0 ky (enc_at (E := EUl) HV rfl)
           have q5 : u1.cell? ⟨gy, 1, none⟩ = some (.int .i64 y.ul.i1) := cellH 1 ky (enc_at (E := EUl) HV rfl)
           have q6 : u1.cell? ⟨gy, 2, none⟩ = some (.int .i64 y.ul.i2) := cellH 2 ky (enc_at (E := EUl) HV rfl)
           go_upto_region 35 with (first
            | (refine wpList_load_row (by rfl) 58 (.tmp 9) (by rfl) gd (by rfl) 58 CD (0, 0) _ kd1.out Tryz.underlying58 rfl d2 ?_)
            | (go_at_call 31; refine (upload_n (s := b.nm) (k := y.ul.key) (i0 := y.ul.i0) (i1 := y.ul.i1) (i2 := y.ul.i2) hK7 D1).mono ?_; rintro e u2 ⟨R2, th, rfl, H2⟩
               have RS : Hid (Arr 5 R2) := H2.out.2.1
               have r5 : (Tryz.prog.info? 77).map (·.size) = some R2.size := (by rw [RS.out.1]; kernel_rfl)
               obtain ⟨u3, Hu3, Z3, K3⟩ := one_new u2 #[.int .i64 0,.int .i64 0,.int .i64 0,.string ⟨#[]⟩,.slice none 0 0] R2 77)
            | (refine wpList_store_row (by rfl) 77 (.tmp 21) (.tmp 146) (by rfl) u2.heap.size R2 (by rfl) (by rfl) 77 _ Z3.out r5 (by rw [RS.out.1]; rfl) RS.out.2 ?_))
           obtain ⟨gz, Hgz⟩ := nm (u2.heap.size)
           rw [Hu3.out, Hgz.out]
           clear q1 q2 q4 q5 q6
           have kz : Hid (u3.heap[gz]? = some (.cells R2 77 (0, 0))) := by rw [<- Hgz.out]; exact K3.out.1
           have B12 : Hid (Below u1.heap.size u1 u2) := H2.out.2.2
           have B23 : Hid (Below u2.heap.size u2 u3) := K3.out.2
           have B13 := bt B12 B23
           have G2 : Hid (Got77 (16 + i + 1) u1 u2 (lookU ro.1 b.nm y.ul.key y.ul.i0 y.ul.i1 y.ul.i2) R2 th) := H2.out.1
           have BU3 := bt BU B13
           have YO3 : Hid (UlO (16 + i) u3 lo hi y) := YO1.out.keep (fun q _ _ hq => B13.out.block q hq)
           have ky3 := stay_h B13 ky
           have kx3 := stay_h B13 kx1
           clear K3 Hu3 Z3 Hgz H2 YO1 kd1 kb1 kx1 ky D1 B12 BU B13
           have q1 : u3.cell? ⟨gy, 0, none⟩ = some (.int .i64 y.ul.i0) := cellH 0 ky3 (enc_at (E := EUl) HV rfl)
           have q2 : u3.cell? ⟨gy, 1, none⟩ = some (.int .i64 y.ul.i1) := cellH 1 ky3 (enc_at (E := EUl) HV rfl)
           have q3 : u3.cell? ⟨gy, 2, none⟩ = some (.int .i64 y.ul.i2) := cellH 2 ky3 (enc_at (E := EUl) HV rfl)
           have q4 : u3.cell? ⟨g, 6, none⟩ = some (.int .i64 x.cm.u0) := cellH 6 kx3 (by rw [hX.out]; rfl)
           have q5 : u3.cell? ⟨g, 7, none⟩ = some (.int .i64 x.cm.u1) := cellH 7 kx3 (by rw [hX.out]; rfl)
           have q6 : u3.cell? ⟨g, 8, none⟩ = some (.int .i64 x.cm.u2) := cellH 8 kx3 (by rw [hX.out]; rfl)
           have q7 : u3.cell? ⟨g, 1, none⟩ = some (.int .i64 x.cm.i0) := cellH 1 kx3 (by rw [hX.out]; rfl)
           have q8 : u3.cell? ⟨g, 2, none⟩ = some (.int .i64 x.cm.i1) := cellH 2 kx3 (by rw [hX.out]; rfl)
           have q9 : u3.cell? ⟨g, 3, none⟩ = some (.int .i64 x.cm.i2) := cellH 3 kx3 (by rw [hX.out]; rfl)
           by_cases hke : y.ul.i0 = x.cm.u0 /\ y.ul.i1 = x.cm.u1 /\ y.ul.i2 = x.cm.u2
           . have E1 : ∀ w, (Op.equalIn 10000 24 (.agg #[.int .i64 y.ul.i0,.int .i64 y.ul.i1,.int .i64 y.ul.i2]) (.agg #[.int .i64 x.cm.u0,.int .i64 x.cm.u1,.int .i64 x.cm.u2])).run Tryz.prog w = .ok true w := fun w => by rw [eqId _ _ _ _ _ _ 9998 w, decide_eq_true hke]
             clear hke
             go_upto_region 37 with (fail)
             clear q1 q2 q3 q4 q5 q6 q7 q8 q9 E1
             go_wp2
             go_roundw
             case rel => exact ⟨k + 1, by omega, by go_num, BU3⟩
             case measure => simp [intOf]; omega
           have E1 : ∀ w, (Op.equalIn 10000 24 (.agg #[.int .i64 y.ul.i0,.int .i64 y.ul.i1,.int .i64 y.ul.i2]) (.agg #[.int .i64 x.cm.u0,.int .i64 x.cm.u1,.int .i64 x.cm.u2])).run Tryz.prog w = .ok false w := fun w => by rw [eqId _ _ _ _ _ _ 9998 w, decide_eq_false hke]
           by_cases hki : y.ul.i0 = x.cm.i0 /\ y.ul.i1 = x.cm.i1 /\ y.ul.i2 = x.cm.i2
           . have E2 : ∀ w, (Op.equalIn 10000 24 (.agg #[.int .i64 y.ul.i0,.int .i64 y.ul.i1,.int .i64 y.ul.i2]) (.agg #[.int .i64 x.cm.i0,.int .i64 x.cm.i1,.int .i64 x.cm.i2])).run Tryz.prog w = .ok true w := fun w => by rw [eqId _ _ _ _ _ _ 9998 w, decide_eq_true hki]
             clear hke hki
             go_upto_region 37 with (fail)
             clear q1 q2 q3 q4 q5 q6 q7 q8 q9 E1 E2
             go_wp2
             go_roundw
             case rel => exact ⟨k + 1, by omega, by go_num, BU3⟩
             case measure => simp [intOf]; omega
           . have E2 : ∀ w, (Op.equalIn 10000 24 (.agg #[.int .i64 y.ul.i0,.int .i64 y.ul.i1,.int .i64 y.ul.i2]) (.agg #[.int .i64 x.cm.i0,.int .i64 x.cm.i1,.int .i64 x.cm.i2])).run Tryz.prog w = .ok false w := fun w => by rw [eqId _ _ _ _ _ _ 9998 w, decide_eq_false hki]
             have LK : lookU ro.1 b.nm y.ul.key y.ul.i0 y.ul.i1 y.ul.i2 = some y.ul := apt_ul (b := b.bk) OKD.out AP.out MB.out HNM.out (List.mem_map_of_mem MY.out) (fun e => hke (by unfold Uld.id3 at e; simpa using e)) (fun e => hki (by unfold Uld.id3 at e; simpa using e))
             have TH : th = true := by rw [G2.out.b, LK]; rfl
             obtain ⟨oy, oy1, oy2, oy3⟩ := G2.out.y _ LK
             have HOY : Hid (R2 = (EUl.e oy).toArray) := oy1
             have OY3 : Hid (UlO (16 + i + 1) u3 u1.heap.size u2.heap.size oy) := oy3.keep (fun q _ _ hq => B23.out.block q hq)
             have EQ : Hid (eqb y.ul oy.ul = true) := eqb_yes oy2.symm
             subst TH
             clear hke hki LK oy1 oy2 oy3 G2
             go_upto_region 37 with (first
              | (refine wpList_load_rowG (by rfl) 77 (.tmp 20) (by rfl) gy (by rfl) 77 V (0, 0) _ ky3.out Tryz.underlying77 rfl v5 ?_)
              | (refine wpList_load_rowG (by rfl) 77 (.tmp 21) (by rfl) gz (by rfl) 77 R2 (0, 0) _ kz.out Tryz.underlying77 rfl r5 ?_)
              | (go_at_call 32; refine (sameUl_n hK6 HV HOY YO3 OY3).mono ?_; rintro e u4 ⟨rfl, H4⟩; rw [EQ.out]))
             clear q1 q2 q3 q4 q5 q6 q7 q8 q9 E1 E2
             have BU4 := bt BU3 H4
             go_wp2
             go_roundw
             case rel => exact ⟨k + 1, by omega, by go_num, BU4⟩
             case measure => simp [intOf]; omega
         . have ein : k = b.un := by omega
           subst ein
           have BE := bt BT9 HW
           go_upto_region 38 with (fail)
           go_wp2
           go_roundw
           case rel => exact ⟨j + 1, by omega, by go_num, BE⟩
           case measure => simp [intOf]; omega
end Go.Proofs.YtfabnnbljkkihaaGreatDoor
