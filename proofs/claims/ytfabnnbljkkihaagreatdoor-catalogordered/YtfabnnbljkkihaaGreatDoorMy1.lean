/- What commands make stands in order, within the limits (f8). -/
import Derived.Test.YtfabnnbljkkihaaGreatDoorMy0
import Derived.Test.YtfabnnbljkkihaaGreatDoorMx42
import Derived.Test.YtfabnnbljkkihaaGreatDoorMx39
import Derived.Test.YtfabnnbljkkihaaGreatDoorMx30
namespace Go.Proofs.YtfabnnbljkkihaaGreatDoor
open Go.ChangeShapes Go.WideShapes Go.ChangeAt Go.RowKit
set_option maxRecDepth 20000
set_option linter.unusedVariables false
set_option linter.unusedSimpArgs false
structure MkL (w W : World) (gc : Nat) (C : Array Value) (Y : List Cx) (i : Nat) : Prop where
  c : W.heap[gc]? = some (.cells C 58 (0, 0))
  m : Ctm (16 + i) W (gc + 1) C (folC (led (Y.take i)))
  f : Below w.heap.size w W
theorem frm_take {Y : List Cx} (h : ∀ y ∈ Y, Fo.frm y.cm = true) (i : Nat) : ∀ x ∈ led (Y.take i), Fo.frm x = true := fun x hx => by
  obtain ⟨y, hy, rfl⟩ := List.mem_map.1 hx
  exact h y (List.mem_of_mem_take hy)
set_option maxHeartbeats 16000000 in
theorem ordered_law {w : World} {a : Option Addr} {n c : Nat} {X : List Cx} (hV : Hid (Ev w)) (hA : Hid (Cms w 0 a n X)) :
    Calls Tryz.prog 8 #[.slice a n c] w fun e w' => e = .returned (.bool true) ∧ Hid (Below w.heap.size w w') := by
  go_enter Tryz.func8, Tryz.ntmps8
  go_upto_region 3 with (go_at_call 22; refine (alive11_n hV).mono ?_; rintro e w2 ⟨rfl, H2⟩)
  have A2 : Hid (Cms w2 0 a n X) := hA.out.below H2.out
  go_upto_region 4 with (go_at_call 23; refine (forms11_n A2).mono ?_; rintro e w5 ⟨a', m, c', rfl, H3⟩)
  obtain ⟨Y, HY⟩ : ∃ Y, Hid (X.filter (fun x => Fo.frm x.cm) = Y) := ⟨_, rfl⟩
  have CY : Hid (Cms w5 0 a' m Y) := by rw [← HY.out]; exact H3.out.cms A2.out
  have HF : Hid (∀ y ∈ Y, Fo.frm y.cm = true) := fun y hy => by rw [← HY.out] at hy; exact (List.mem_filter.1 hy).2
  have B5 : Hid (Below w.heap.size w w5) := H2.out.trans (H3.out.f.mono H2.out.size)
  have LY : Hid (m = Y.length) := CY.out.len
  have V5 : Hid (Ev w5) := hV.out.below B5.out
  clear H3 HY A2 H2
  by_cases hm : (m : Int) ≤ 600
  rotate_left
  · rw [decide_eq_false hm]
    clear hm
    go_wp2
    go_ret
    exact ⟨rfl, B5.out⟩
  rw [decide_eq_true hm]
  have hm6 : m ≤ 600 := by omega
  clear hm
  go_upto_region 6 with (fail)
  obtain ⟨gc, Hgc⟩ : ∃ g, Hid (w5.heap.size = g) := ⟨_, rfl⟩
  obtain ⟨w6, Hw6⟩ : ∃ W, Hid (w5.alloc (.cells #[.slice none 0 0, .slice none 0 0] 58) = W) := ⟨_, rfl⟩
  have L5 : Hid (MkL w5 w6 gc #[.slice none 0 0, .slice none 0 0] Y 0) := by
    refine ⟨?_, Ctm.zero _ _ _, ?_⟩
    · rw [← Hw6.out, ← Hgc.out]; exact heap_alloc_new w5 _
    · rw [← Hw6.out]; exact alloc1 w5 _
  go_upto_region 7 with (fail)
  rw [Hw6.out, Hgc.out]
  clear Hw6
  go_wp2
  go_loopw [19] (fun ti wr => ∃ (i : Nat) (C : Array Value), i ≤ m ∧ ti = .int .i64 i ∧ Hid (MkL w5 wr gc C Y i)) (fun ti _ => m - (intOf ti).toNat)
  case atStart => exact ⟨0, _, by omega, rfl, L5⟩
  case round =>
    clear L5
    obtain ⟨i, C, hi, rfl, HL⟩ := hrel
    have c2 : (Tryz.prog.info? 58).map (·.size) = some C.size := by rw [HL.out.m.arr.1]; exact inz58
    by_cases hlt : i < m
    · have i3 : (i : Int) < (m : Int) := by omega
      have kx : i < Y.length := by rw [← LY.out]; omega
      have HB : Hid (Below w5.heap.size w5 wr) := HL.out.f
      have CW : Hid (Cms wr 0 a' m Y) := CY.out.below HB.out
      obtain ⟨b1, o1, rfl, e1⟩ := CW.out.at_ kx
      obtain ⟨y, Hy⟩ : ∃ y, Hid (Y[i] = y) := ⟨Y[i], (rfl : Y[i] = Y[i])⟩
      rw [Hy.out] at e1
      have EY : Hid (Y[i]? = some y) := by show _ = _; rw [← Hy.out]; exact List.getElem?_eq_getElem kx
      have MY : y ∈ Y := List.mem_of_getElem? EY.out
      have FY : Hid (Fo.frm y.cm = true) := HF.out y MY
      have OY : Hid (Okc wr y) := okc_of FY.out (CW.out.ps y MY).1 (CW.out.st y MY)
      clear MY Hy
      obtain ⟨B, HBy⟩ : ∃ A, Hid (A = (encX y).toArray) := ⟨_, rfl⟩
      have b18 : B.size = 18 := encX_sz HBy.out
      have BA : Hid (B.all (·.oneCell') = true) := encX_all HBy.out
      have E1 : Hid (wr.rangeAt b1 (o1 + i * 18) (encX y)) := e1
      clear e1
      obtain ⟨v2, Hv2, K2⟩ := box_new wr B
      obtain ⟨g1, Hg1⟩ : ∃ g, Hid (wr.heap.size = g) := ⟨_, rfl⟩
      go_upto_region 10 with first
        | (refine wpList_ldA (by rfl) (.tmp 21) (by rfl) b1 (o1 + i * 18) (by rfl) HBy.out E1.out ?_)
        | (refine wpList_store_row (by rfl) 29 (.tmp 6) (.tmp 22) (by rfl) wr.heap.size B (by rfl) (by rfl) 29 _ (heap_alloc_new wr _) (info29 b18) b18.symm BA.out ?_)
      rw [Hv2.out, Hg1.out]
      have k1b : Hid (v2.heap[g1]? = some (.cells B 29 (0, 0))) := by rw [← Hg1.out]; exact K2.out.1
      have Bv2 : Hid (Below wr.heap.size wr v2) := K2.out.2.1
      have kc2 : Hid (v2.heap[gc]? = some (.cells C 58 (0, 0))) := (Bv2.out.block _ (Array.getElem?_eq_some_iff.1 HL.out.c).1).trans HL.out.c
      have CM2 : Hid (Ctm (16 + i) v2 (gc + 1) C (folC (led (Y.take i)))) := HL.out.m.below Bv2.out
      have BW2 : Hid (Below w5.heap.size w5 v2) := HB.out.trans (Bv2.out.mono HB.out.size)
      have OY2 : Hid (Okc v2 y) := OY.out.below Bv2.out
      have V2 : Hid (Ev v2) := V5.out.below BW2.out
      have ET : Hid (EtB (folC (led (Y.take i)))) := (folC_ok _ (frm_take HF.out i)).2
      clear K2 Hv2 Hg1 E1
      go_upto_region 11 with (first
        | (refine wpList_load_row (by rfl) 58 (.tmp 4) (by rfl) gc (by rfl) 58 C (0, 0) _ kc2.out Tryz.underlying58 rfl c2 ?_)
        | (refine wpList_load_row (by rfl) 29 (.tmp 6) (by rfl) g1 (by rfl) 29 B (0, 0) _ k1b.out Tryz.underlying29 rfl (info29 b18) ?_)
        | (go_at_call 25; refine (apply_n (K := 16 + i) (by omega) (by omega) HBy OY2 CM2 ET V2).mono ?_; rintro e v3 ⟨C', R, rfl, H3⟩
           have c3 : (Tryz.prog.info? 58).map (·.size) = some C'.size := (by rw [H3.out.1.arr.1]; exact inz58)
           have C3S : Hid (C'.size = 2) := H3.out.1.arr.1
           have C3A : Hid (C'.all (·.oneCell') = true) := H3.out.1.arr.2
           have CA : Hid (C.size = 2) := HL.out.m.arr.1
           have kc3 : Hid (v3.heap[gc]? = some (.cells C 58 (0, 0))) := (H3.out.2.2.block _ (Array.getElem?_eq_some_iff.1 kc2.out).1).trans kc2.out)
        | (refine wpList_store_row (by rfl) 58 (.tmp 4) (.tmp 27) (by rfl) gc C' (by rfl) (by rfl) 58 _ kc3.out c3 (by rw [C3S.out, CA.out]) C3A.out ?_))
      have FIN : Hid (MkL w5 (v3.setRow gc C') gc C' Y (i + 1)) := by
        have lg := Hgc.out
        have z2 : gc + 1 ≤ v2.heap.size := (Array.getElem?_eq_some_iff.1 kc2.out).1
        refine ⟨setRow_heap _ _ _ _ _ _ kc3.out, ?_, below_setRow (BW2.out.trans (H3.out.2.2.mono BW2.out.size)) (by omega) _⟩
        have e : folC (led (Y.take (i + 1))) = (app sumO (folC (led (Y.take i))) y.cm).1 := by rw [led_snoc EY.out, folC_snoc]
        rw [e]
        exact ((H3.out.1.dn z2).keep (fun q h1 _ => setRow_other _ _ _ _ (by omega)) (by rw [setRow_size]; exact Nat.le_refl _))
      obtain ⟨v5, Hv5⟩ : ∃ u, Hid (v3.setRow gc C' = u) := ⟨_, rfl⟩
      rw [Hv5.out] at FIN
      rw [Hv5.out]
      clear Hv5
      have kc5 : Hid (v5.heap[gc]? = some (.cells C' 58 (0, 0))) := FIN.out.c
      have OK5 : Hid (Okk (folC (led (Y.take (i + 1))))) := (folC_ok _ (frm_take HF.out (i + 1))).1
      have M5 : Hid (Ctm (16 + (i + 1)) v5 (gc + 1) C' (folC (led (Y.take (i + 1))))) := FIN.out.m
      have hK5 : 16 + (i + 1) ≤ 1048576 := by omega
      go_wp2_with (first
        | (refine wpList_load_row (by rfl) 58 (.tmp 4) (by rfl) gc (by rfl) 58 C' (0, 0) _ kc5.out Tryz.underlying58 rfl c3 ?_)
        | (go_at_call 33; refine (ordered_n hK5 M5 OK5).mono ?_; rintro e v6 ⟨rfl, H6⟩))
      have FIN : Hid (MkL w5 v6 gc C' Y (i + 1)) := ⟨(H6.out.block gc (Array.getElem?_eq_some_iff.1 kc5.out).1).trans kc5.out, M5.out.below H6.out, FIN.out.f.trans (H6.out.mono FIN.out.f.size)⟩
      go_roundw
      case rel => exact ⟨i + 1, C', by omega, by go_num, FIN⟩
      case measure => simp [intOf]; omega
    · have ein : i = m := by omega
      subst ein
      go_wp2
      go_ret
      exact ⟨rfl, B5.out.trans (HL.out.f.mono B5.out.size)⟩
end Go.Proofs.YtfabnnbljkkihaaGreatDoor
