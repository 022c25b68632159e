/- LedgerPuts' walk (f3). -/
import Derived.Test.YtfabnnbljkkihaaGreatDoorLm
namespace Go.Proofs.YtfabnnbljkkihaaGreatDoor
open Go.ChangeShapes Go.WideShapes Go.ChangeAt Go.RowKit
set_option maxRecDepth 20000
set_option linter.unusedVariables false
set_option linter.unusedSimpArgs false
/- what is left of a ledger while it is written over -/
structure Spo (w wr : World) (a : Option Addr) (X : List Cx) : Prop where
  ch : Ch w wr (fp a X)
  row : ∀ j (hj : j < X.length), ∃ q cs, a = some ⟨q, 0, none⟩ ∧ wr.heap[q]? = some (.cells cs 29 (0, 0)) ∧ cs[j * 18 + 15]? = some (.slice X[j].pa X[j].pn X[j].pc) ∧ ∃ z, cs[j * 18]? = some (.int .i64 z)
  ps : ∀ x ∈ X, 0 < x.pn → ∃ p cs, x.pa = some ⟨p, 0, none⟩ ∧ wr.heap[p]? = some (.cells cs 3 (0, 0)) ∧ x.pn ≤ cs.size
theorem Spo.of {w : World} {lo n c : Nat} {a : Option Addr} {X : List Cx} (h : Oc w lo a n c X) : Spo w w a X := by
  refine ⟨Ch.refl _ _, fun j hj => ?_, fun x hx h0 => ?_⟩
  · have hn := h.len
    rcases h.row.2 with ⟨h1, _⟩ | ⟨g, cap, cur, h1, h2, h3, h4, h5, h6, h7⟩
    · simp at h1
      omega
    · cases h1
      have e : ∀ k v, k < 18 → (encX X[j])[k]? = some v → cur[j * 18 + k]? = some v := fun k v hk hv => by
        have h8 := flat_at X hj hk
        rw [hv, ← h7, List.getElem?_take_of_lt (by omega)] at h8
        simpa using h8
      exact ⟨g, cur, rfl, h3, e 15 _ (by omega) rfl, _, e 0 _ (by omega) rfl⟩
  · obtain ⟨p, h1, _, _, cs, h2, h3⟩ := rown_at (h.ps x hx).1 h0
    exact ⟨p, cs, h1, h2, by omega⟩
theorem Spo.part {w wr : World} {a : Option Addr} {X : List Cx} (h : Spo w wr a X) {x : Cx} (hx : x ∈ X) {p : Nat} (hp : x.pa = some ⟨p, 0, none⟩) {cs : Array Value} (hc : wr.heap[p]? = some (.cells cs 3 (0, 0))) (j : Nat) (v : Value) : Spo w (wr.setCell ⟨p, j, none⟩ v) a X := by
  have hk := set_blk hc j v
  refine ⟨h.ch.trans ((Ch.set wr p j v).weak (fun k _ e => .inr ⟨x, hx, by rw [hp, e]; rfl⟩)), fun i hi => ?_, fun y hy h0 => ?_⟩
  · obtain ⟨q, rs, h0, h1, h2⟩ := h.row i hi
    have hne : q ≠ p := fun e => by rw [e, hc] at h1; cases h1
    exact ⟨q, rs, h0, (Below.heap_setCell _ _ _ _ hne).trans h1, h2⟩
  · obtain ⟨p', cs', h1, h2, h3⟩ := h.ps y hy h0
    by_cases e : p' = p
    · subst e
      rw [hc] at h2
      cases h2
      exact ⟨p', _, h1, hk, by rw [Array.size_setIfInBounds]; exact h3⟩
    · exact ⟨p', cs', h1, (Below.heap_setCell _ _ _ _ e).trans h2, h3⟩
theorem Spo.kind {w wr : World} {q : Nat} {X : List Cx} (h : Spo w wr (some ⟨q, 0, none⟩) X) (i : Nat) (hi : i < X.length) (z : Int) : Spo w (wr.setCell ⟨q, i * 18, none⟩ (.int .i64 z)) (some ⟨q, 0, none⟩) X := by
  obtain ⟨q', rs, h0, h1, _⟩ := h.row i hi
  cases h0
  have hk := set_blk h1 (i * 18) (.int .i64 z)
  refine ⟨h.ch.trans ((Ch.set wr q (i * 18) _).weak (fun k _ e => .inl (by rw [e]; rfl))), fun j hj => ?_, fun y hy h0 => ?_⟩
  · obtain ⟨q', rs', g0, g1, h3, z', h4⟩ := h.row j hj
    cases g0
    rw [h1] at g1
    cases g1
    refine ⟨q, _, rfl, hk, by rw [Array.getElem?_setIfInBounds_ne (by omega)]; exact h3, ?_⟩
    by_cases e : i = j
    · subst e
      exact ⟨z, by rw [Array.getElem?_setIfInBounds_self_of_lt (Array.getElem?_eq_some_iff.1 h4).1]⟩
    · exact ⟨z', by rw [Array.getElem?_setIfInBounds_ne (by omega)]; exact h4⟩
  · obtain ⟨p', cs', h5, h6, h7⟩ := h.ps y hy h0
    have hne : p' ≠ q := fun e => by rw [e, h1] at h6; cases h6
    exact ⟨p', cs', h5, (Below.heap_setCell _ _ _ _ hne).trans h6, h7⟩
theorem num_any {w : World} {E : Nat → Addr} {k : Int} {v : Value} (hE : Hid (Sent w 18 E)) (h : Hid (erN E k v)) : Calls Tryz.prog 14 #[v] w fun e w' => e = .returned (.int .i64 k) ∧ Hid (Below w.heap.size w w') := by
  rcases h.out with ⟨rfl, rfl⟩ | ⟨rfl, rfl⟩
  · refine (bnum_nil w).mono ?_
    rintro e w' ⟨rfl, rfl⟩
    exact ⟨rfl, Below.refl _ _⟩
  · exact bnum_err 1 9 E w (by omega) (by decide) (by decide) hE
set_option maxHeartbeats 16000000 in
theorem puts_law {w : World} {a : Option Addr} {n c : Nat} {X : List Cx} {A : Array Value} {x : Cx} {E : Nat → Addr} (hE : Hid (Sent w 18 E)) (hA : Hid (Cms w 0 a n X)) (zA : Hid (a = none → c = 0)) (hX : Hid (A = (encX x).toArray)) (hIX : Hid (Irow w 0 x.pa x.pn x.cm.ps)) (zX : Hid (x.pa = none → x.pc = 0)) (hT : Hid (x.cm.bu.size ≤ 281474976710656 ∧ x.cm.ke.size ≤ 281474976710656 ∧ x.cm.et.size ≤ 281474976710656)) :
    Calls Tryz.prog 3 #[.slice a n c, .agg A] w fun e w' => e = .returned (.bool true) ∧ Hid (Below w.heap.size w w') := by
  have hsz := hA.out.sz
  have LX : Hid (n = X.length) := hA.out.len
  have a18 : A.size = 18 := encX_sz hX.out
  obtain ⟨w1, Hw1⟩ : ∃ w1, Hid (w.alloc (.cells A 29) = w1) := ⟨_, rfl⟩
  obtain ⟨g, Hg⟩ : ∃ g, Hid (w.heap.size = g) := ⟨_, rfl⟩
  have B1 : Hid (Below w.heap.size w w1) := by rw [← Hw1.out]; exact alloc1 w _
  have k1 : Hid (w1.heap[g]? = some (.cells A 29 (0, 0))) := by rw [← Hw1.out, ← Hg.out]; exact heap_alloc_new w _
  go_enter Tryz.func3, Tryz.ntmps3
  go_upto_region 1 with (fail)
  rw [Hw1.out, Hg.out]
  clear Hw1
  go_upto_region 3 with (go_at_call 9; refine (alive_n _).mono ?_; rintro e w2 ⟨rfl, H2⟩)
  have BW2 : Hid (Below w.heap.size w w2) := B1.out.trans (H2.out.mono B1.out.size)
  have KG2 : Hid (w2.heap[g]? = some (.cells A 29 (0, 0))) := (H2.out.block g (Array.getElem?_eq_some_iff.1 k1.out).1).trans k1.out
  have CA2 : Hid (Cms w2 0 a n X) := hA.out.below BW2.out
  clear H2 k1 B1
  go_upto_region 4 with (go_at_call 10; refine (copy_n CA2 zA).mono ?_; rintro e w3 ⟨ai, ci, rfl, H3⟩)
  obtain ⟨XI, HX3⟩ : ∃ XI, Hid (led XI = led X ∧ Oc w3 w2.heap.size ai n ci XI ∧ Below w2.heap.size w2 w3) := by
    obtain ⟨Y, h1, h2, h3⟩ := H3.out
    exact ⟨Y, h1, h2, h3⟩
  have HXI : Hid (led XI = led X) := HX3.out.1
  have CI3 : Hid (Cms w3 w2.heap.size ai n XI) := HX3.out.2.1.cms
  have BW3 : Hid (Below w.heap.size w w3) := BW2.out.trans (HX3.out.2.2.mono BW2.out.size)
  have CA3 : Hid (Cms w3 0 a n X) := hA.out.below BW3.out
  have KG3 : Hid (w3.heap[g]? = some (.cells A 29 (0, 0))) := (HX3.out.2.2.block g (Array.getElem?_eq_some_iff.1 KG2.out).1).trans KG2.out
  have E3 : Hid (Sent w3 18 E) := hE.out.below BW3.out
  have I3 : Hid (Irow w3 0 x.pa x.pn x.cm.ps) := hIX.out.below BW3.out
  clear HX3 H3 CA2 KG2 BW2
  obtain ⟨kk, Hkk⟩ : ∃ k, Hid (ptK (led X) x.cm = k) := ⟨_, rfl⟩
  obtain ⟨ee, Hee⟩ : ∃ k, Hid (ptE (led X) x.cm = k) := ⟨_, rfl⟩
  go_upto_region 5 with (first
    | (refine wpList_load_row (by rfl) 29 (.tmp 3) (by rfl) g (by rfl) 29 A (0, 0) _ KG3.out Tryz.underlying29 rfl (info29 a18) ?_)
    | (go_at_call 11; refine (put_any E3 (by omega) CI3 hX I3 zX hT).mono ?_; rintro e w4 ⟨a6, n6, c6, k6, v6, rfl, H4⟩
       obtain ⟨rfl, h2, h3⟩ := H4.out
       rw [HXI.out, Hkk.out]
       have V6 : Hid (erN E ee v6) := (by rw [HXI.out, Hee.out] at h2; exact h2)
       clear h2 h3))
  obtain ⟨Y6, HY6⟩ : ∃ Y, Hid (led Y = ptL (led X) x.cm ∧ Oc w4 w3.heap.size a6 n6 c6 Y ∧ Below w3.heap.size w3 w4) := by
    obtain ⟨_, _, Y, h1, h2, h3⟩ := H4.out
    rw [HXI.out] at h1
    exact ⟨Y, h1, h2, h3⟩
  clear H4
  have BI4 : Hid (Below w3.heap.size w3 w4) := HY6.out.2.2
  have BW4 : Hid (Below w.heap.size w w4) := BW3.out.trans (BI4.out.mono BW3.out.size)
  have CA4 : Hid (Cms w4 0 a n X) := hA.out.below BW4.out
  have KG4 : Hid (w4.heap[g]? = some (.cells A 29 (0, 0))) := (BI4.out.block g (Array.getElem?_eq_some_iff.1 KG3.out).1).trans KG3.out
  have I4 : Hid (Irow w4 0 x.pa x.pn x.cm.ps) := hIX.out.below BW4.out
  go_upto_region 6 with (first
    | (refine wpList_load_row (by rfl) 29 (.tmp 3) (by rfl) g (by rfl) 29 A (0, 0) _ KG4.out Tryz.underlying29 rfl (info29 a18) ?_)
    | (go_at_call 12; refine (rput_any CA4 zA hX I4 zX hT).mono ?_; rintro e w5 ⟨a9, n9, c9, k9, e9, rfl, H5⟩
       obtain ⟨rfl, rfl, h3⟩ := H5.out
       rw [Hkk.out, Hee.out]
       clear h3))
  obtain ⟨Y9, HY9⟩ : ∃ Y, Hid (led Y = ptL (led X) x.cm ∧ Cms w5 0 a9 n9 Y ∧ Below w4.heap.size w4 w5) := by
    obtain ⟨_, _, Y, h1, h2, h3⟩ := H5.out
    exact ⟨Y, h1, h2, h3⟩
  clear H5
  have BI5 : Hid (Below w3.heap.size w3 w5) := BI4.out.trans (HY9.out.2.2.mono BI4.out.size)
  have OU5 : Hid (Oc w5 w3.heap.size a6 n6 c6 Y6) := HY6.out.2.1.below HY9.out.2.2
  have CM5 : Hid (Cms w5 w3.heap.size a6 n6 Y6) := OU5.out.cms
  have CN5 : Hid (Cms w5 0 a9 n9 Y9) := HY9.out.2.1
  have SA : Hid (decide (led Y6 = led Y9) = true) := decide_eq_true (HY6.out.1.trans HY9.out.1.symm)
  clear HY6 HY9 CA4 KG4 I4 I3
  go_upto_region 8 with (first
    | (go_at_call 13; refine (same_n CM5 CN5).mono ?_; rintro e w6 ⟨rfl, H6⟩; rw [SA.out]
       have E6 : Hid (Sent w6 18 E) := E3.out.below (BI5.out.trans (H6.out.mono BI5.out.size)))
    | (go_at_call 14; refine (num_any E6 V6).mono ?_; rintro e w7 ⟨rfl, H7⟩))
  have BI7 : Hid (Below w3.heap.size w3 w7) := (BI5.out.trans (H6.out.mono BI5.out.size)).trans (H7.out.mono (Nat.le_trans BI5.out.size H6.out.size))
  have OU7 : Hid (Oc w7 w3.heap.size a6 n6 c6 Y6) := (OU5.out.below H6.out).below H7.out
  have KG7 : Hid (w7.heap[g]? = some (.cells A 29 (0, 0))) := (BI7.out.block g (Array.getElem?_eq_some_iff.1 KG3.out).1).trans KG3.out
  have CI7 : Hid (Cms w7 w2.heap.size ai n XI) := CI3.out.below BI7.out
  have CA7 : Hid (Cms w7 0 a n X) := CA3.out.below BI7.out
  have E7 : Hid (Sent w7 18 E) := E3.out.below BI7.out
  clear H6 H7 E6 V6 OU5 CM5 CN5 BI5 BI4 SA
  have c1 : w7.cell? ⟨g, 1, none⟩ = some (.int .i64 x.cm.i0) := cell_arr KG7.out (by rw [hX.out]; rfl)
  have c2 : w7.cell? ⟨g, 2, none⟩ = some (.int .i64 x.cm.i1) := cell_arr KG7.out (by rw [hX.out]; rfl)
  have c3 : w7.cell? ⟨g, 3, none⟩ = some (.int .i64 x.cm.i2) := cell_arr KG7.out (by rw [hX.out]; rfl)
  have ln : n = (led X).length := by rw [led_len]; exact LX.out
  have LN : Hid (n = (led X).length) := ln
  by_cases h1 : plc (led X) x.cm.i0 x.cm.i1 x.cm.i2 < (led X).length
  · obtain ⟨p, Hp⟩ : ∃ p, Hid (plc (led X) x.cm.i0 x.cm.i1 x.cm.i2 = p) := ⟨_, rfl⟩
    have PI : Hid (plc (led XI) x.cm.i0 x.cm.i1 x.cm.i2 = p) := by rw [HXI.out]; exact Hp.out
    have PR : Hid (plr (led X) x.cm.i0 x.cm.i1 x.cm.i2 = (p : Int) + 1) := by show _ = _; unfold plr; rw [if_pos h1, Hp.out]
    have hpn : p < n := by rw [ln, ← Hp.out]; exact h1
    have i1 : (0 : Int) < (p : Int) + 1 := by omega
    clear h1 ln
    go_upto_region 9 with (go_at_call 15; refine (place_there CI7 PI hpn).mono ?_; rintro e w8 ⟨rfl, H8⟩)
    have CA8 : Hid (Cms w8 0 a n X) := CA7.out.below H8.out
    have KG8 : Hid (w8.heap[g]? = some (.cells A 29 (0, 0))) := (H8.out.block g (Array.getElem?_eq_some_iff.1 KG7.out).1).trans KG7.out
    clear c1 c2 c3
    have c1 : w8.cell? ⟨g, 1, none⟩ = some (.int .i64 x.cm.i0) := cell_arr KG8.out (by rw [hX.out]; rfl)
    have c2 : w8.cell? ⟨g, 2, none⟩ = some (.int .i64 x.cm.i1) := cell_arr KG8.out (by rw [hX.out]; rfl)
    have c3 : w8.cell? ⟨g, 3, none⟩ = some (.int .i64 x.cm.i2) := cell_arr KG8.out (by rw [hX.out]; rfl)
    go_upto_region 12 with (go_at_call 16; refine (refplace_n CA8).mono ?_; rintro e w9 ⟨rfl, H9⟩; rw [PR.out])
    clear c1 c2 c3
    have BI9 : Hid (Below w3.heap.size w3 w9) := (BI7.out.trans (H8.out.mono BI7.out.size)).trans (H9.out.mono (Nat.le_trans BI7.out.size H8.out.size))
    have BW9 : Hid (Below w.heap.size w w9) := BW3.out.trans (BI9.out.mono BW3.out.size)
    have CA9 : Hid (Cms w9 0 a n X) := CA8.out.below H9.out
    have KG9 : Hid (w9.heap[g]? = some (.cells A 29 (0, 0))) := (H9.out.block g (Array.getElem?_eq_some_iff.1 KG8.out).1).trans KG8.out
    have OU9 : Hid (Oc w9 w3.heap.size a6 n6 c6 Y6) := (OU7.out.below H8.out).below H9.out
    clear H8 H9 CA8 KG8 BI7 OU7 KG7 CI7 CA7 E7 PI PR
    go_upto_region 13 with (fail)
    obtain ⟨i0, Hi0⟩ : ∃ v, Hid (x.cm.i0 = v) := ⟨_, rfl⟩
    obtain ⟨i1, Hi1⟩ : ∃ v, Hid (x.cm.i1 = v) := ⟨_, rfl⟩
    have KC : Hid (∀ W : World, W.heap[g]? = some (.cells A 29 (0, 0)) → W.cell? ⟨g, 1, none⟩ = some (.int .i64 i0) ∧ W.cell? ⟨g, 2, none⟩ = some (.int .i64 i1)) := fun W h => ⟨cell_arr h (by rw [hX.out, ← Hi0.out]; rfl), cell_arr h (by rw [hX.out, ← Hi1.out]; rfl)⟩
    obtain ⟨W9, HW9⟩ : ∃ W, Hid (w9 = W) := ⟨_, rfl⟩
    go_wp2
    go_loopw [14, 84] (fun tb ti wr => ∃ (t : Nat) (b : Int), t ≤ n ∧ ti = .int .i64 t ∧ tb = .int .i64 b ∧ Hid (nwst (led (X.take t)) i0 i1 = b) ∧ Hid (Below W9.heap.size W9 wr)) (fun _ ti _ => n - (intOf ti).toNat)
    case atStart => exact ⟨0, -1, by omega, rfl, rfl, rfl, by rw [← HW9.out]; exact Below.refl _ _⟩
    case round =>
      obtain ⟨t, b, ht, rfl, rfl, HK, HB⟩ := hrel
      by_cases hlt : t < n
      · have i3 : (t : Int) < (n : Int) := by omega
        have kx : t < X.length := by rw [← LX.out]; exact hlt
        obtain ⟨b1, o1, rfl, e1⟩ := (CA9.out.below (by rw [HW9.out]; exact HB.out)).at_ kx
        obtain ⟨y, Hx⟩ : ∃ x, Hid (X[t] = x) := ⟨X[t], (rfl : X[t] = X[t])⟩
        rw [Hx.out] at e1
        have EX : Hid (X[t]? = some y) := by show _ = _; rw [← Hx.out]; exact List.getElem?_eq_getElem kx
        obtain ⟨A', HA⟩ : ∃ A, Hid (A = (encX y).toArray) := ⟨_, rfl⟩
        have a18' : A'.size = 18 := encX_sz HA.out
        have AA' : Hid (A'.all (·.oneCell') = true) := encX_all HA.out
        have E1 : Hid (wr.rangeAt b1 (o1 + t * 18) (encX y)) := e1
        clear e1
        obtain ⟨w2', Hw2, K2⟩ := box_new wr A'
        obtain ⟨g1, Hg1⟩ : ∃ g, Hid (wr.heap.size = g) := ⟨_, rfl⟩
        go_upto_region 16 with first
          | (refine wpList_ldA (by rfl) (.tmp 86) (by rfl) b1 (o1 + t * 18) (by rfl) HA.out E1.out ?_)
          | (refine wpList_store_row (by rfl) 29 (.tmp 16) (.tmp 87) (by rfl) wr.heap.size A' (by rfl) (by rfl) 29 _ (heap_alloc_new wr _) (info29 a18') a18'.symm AA'.out ?_)
        rw [Hw2.out, Hg1.out]
        have k1' : Hid (w2'.heap[g1]? = some (.cells A' 29 (0, 0))) := by rw [← Hg1.out]; exact K2.out.1
        have B2' : Hid (Below wr.heap.size wr w2') := K2.out.2.1
        have BF : Hid (Below W9.heap.size W9 w2') := HB.out.trans (B2'.out.mono HB.out.size)
        have kg' : w2'.heap[g]? = some (.cells A 29 (0, 0)) := (BF.out.block g (by rw [← HW9.out]; exact (Array.getElem?_eq_some_iff.1 KG9.out).1)).trans (by rw [← HW9.out]; exact KG9.out)
        obtain ⟨d1, d2⟩ := KC.out _ kg'
        clear kg' K2 Hw2 Hg1 E1
        obtain ⟨x0, Hx0⟩ : ∃ v, Hid (y.cm.i0 = v) := ⟨_, rfl⟩
        obtain ⟨x1, Hx1⟩ : ∃ v, Hid (y.cm.i1 = v) := ⟨_, rfl⟩
        obtain ⟨x2, Hx2⟩ : ∃ v, Hid (y.cm.i2 = v) := ⟨_, rfl⟩
        have f1 : w2'.cell? ⟨g1, 1, none⟩ = some (.int .i64 x0) := cell_arr k1'.out (by rw [HA.out, ← Hx0.out]; rfl)
        have f2 : w2'.cell? ⟨g1, 2, none⟩ = some (.int .i64 x1) := cell_arr k1'.out (by rw [HA.out, ← Hx1.out]; rfl)
        have f3 : w2'.cell? ⟨g1, 3, none⟩ = some (.int .i64 x2) := cell_arr k1'.out (by rw [HA.out, ← Hx2.out]; rfl)
        by_cases h0 : x0 = i0
        · by_cases h1 : x1 = i1
          · by_cases h2 : b < x2
            · have NX : Hid (nwst (led (X.take (t + 1))) i0 i1 = x2) := by
                show _ = _
                rw [nwst_snoc EX.out, HK.out]
                unfold nst
                rw [Hx0.out, Hx1.out, Hx2.out, if_pos ⟨h0, h1⟩]
                omega
              go_wp2
              go_roundw
              case rel => exact ⟨t + 1, x2, by omega, by go_num, by first | rfl | (simp; omega), NX.out, BF.out⟩
              case measure => simp [intOf]; omega
            · have NX : Hid (nwst (led (X.take (t + 1))) i0 i1 = b) := by
                show _ = _
                rw [nwst_snoc EX.out, HK.out]
                unfold nst
                rw [Hx0.out, Hx1.out, Hx2.out, if_pos ⟨h0, h1⟩]
                omega
              have h3 : x2 ≤ b := by omega
              go_wp2
              go_roundw
              case rel => exact ⟨t + 1, b, by omega, by go_num, by first | rfl | (simp; omega), NX.out, BF.out⟩
              case measure => simp [intOf]; omega
          · have NX : Hid (nwst (led (X.take (t + 1))) i0 i1 = b) := by
              show _ = _
              rw [nwst_snoc EX.out, HK.out]
              unfold nst
              rw [Hx0.out, Hx1.out, if_neg (fun h => h1 h.2)]
            go_wp2
            go_roundw
            case rel => exact ⟨t + 1, b, by omega, by go_num, rfl, NX.out, BF.out⟩
            case measure => simp [intOf]; omega
        · have NX : Hid (nwst (led (X.take (t + 1))) i0 i1 = b) := by
            show _ = _
            rw [nwst_snoc EX.out, HK.out]
            unfold nst
            rw [Hx0.out, if_neg (fun h => h0 h.1)]
          go_wp2
          go_roundw
          case rel => exact ⟨t + 1, b, by omega, by go_num, rfl, NX.out, BF.out⟩
          case measure => simp [intOf]; omega
      · have HF : Hid (nwst (led X) i0 i1 = b) := by
          show _ = _
          rw [← HK.out, List.take_of_length_le (by have := LX.out; omega)]
        have OU : Hid (Oc wr w3.heap.size a6 n6 c6 Y6) := OU9.out.below (by rw [HW9.out]; exact HB.out)
        have LY : Hid (n6 = Y6.length) := OU.out.len
        have hn6 : n6 ≤ 764877654082 := OU.out.sz
        have S0 : Hid (Spo wr wr a6 Y6) := Spo.of OU.out
        have B9r : Hid (Below w3.heap.size w3 wr) := BI9.out.trans ((by rw [HW9.out]; exact HB.out : Below w9.heap.size w9 wr).mono BI9.out.size)
        have KGr : Hid (wr.heap[g]? = some (.cells A 29 (0, 0))) := ((by rw [HW9.out]; exact HB.out : Below w9.heap.size w9 wr).block g (Array.getElem?_eq_some_iff.1 KG9.out).1).trans KG9.out
        have CAr : Hid (Cms wr 0 a n X) := CA9.out.below (by rw [HW9.out]; exact HB.out)
        have BWr : Hid (Below w.heap.size w wr) := BW9.out.trans ((by rw [HW9.out]; exact HB.out : Below w9.heap.size w9 wr).mono BW9.out.size)
        clear HB HK
        obtain ⟨Wr, HWr⟩ : ∃ W, Hid (wr = W) := ⟨_, rfl⟩
        go_wp2
        go_loopw [117] (fun ti W => ∃ i : Nat, i ≤ n6 ∧ ti = .int .i64 i ∧ Hid (Spo Wr W a6 Y6)) (fun ti _ => n6 - (intOf ti).toNat)
        case atStart => exact ⟨0, by omega, rfl, by rw [← HWr.out]; exact S0.out⟩
        case round =>
          obtain ⟨i, hi, rfl, HS⟩ := hrel
          by_cases hlt2 : i < n6
          · have i3 : (i : Int) < (n6 : Int) := by omega
            have iX : i < Y6.length := by rw [← LY.out]; exact hlt2
            obtain ⟨q, rfl⟩ : ∃ q, a6 = some ⟨q, 0, none⟩ := by obtain ⟨q, _, h, _⟩ := HS.out.row i iX; exact ⟨q, h⟩
            obtain ⟨z, Hx⟩ : ∃ x, Hid (Y6[i] = x) := ⟨Y6[i], (rfl : Y6[i] = Y6[i])⟩
            have MX : Hid (z ∈ Y6) := by show z ∈ Y6; rw [← Hx.out]; exact List.getElem_mem iX
            have PN : z.pn ≤ 17592186043904 := (OU.out.ps z MX.out).2
            have RD : Hid (∀ W, Spo Wr W (some ⟨q, 0, none⟩) Y6 → W.cell? ⟨q, i * 18 + 15, none⟩ = some (.slice z.pa z.pn z.pc) ∧ (∃ z, W.cell? ⟨q, i * 18, none⟩ = some (.int .i64 z)) ∧ W.frozen? ⟨q, i * 18, none⟩ = false) := fun W hW => by
              obtain ⟨q', rs, h0, h1, h3, z, h4⟩ := hW.row i iX
              cases h0
              rw [Hx.out] at h3
              exact ⟨by simp [World.cell?, h1, h3], ⟨z, by simp [World.cell?, h1, h4]⟩, by simp [World.frozen?, h1]⟩
            have r15 := (RD.out _ HS.out).1
            have IX : Hid (i < Y6.length) := iX
            clear Hx iX
            go_wp2
            clear r15
            go_loopw [126] (fun tj wr2 => ∃ j : Nat, j ≤ z.pn ∧ tj = .int .i64 j ∧ Hid (Spo Wr wr2 (some ⟨q, 0, none⟩) Y6)) (fun tj _ => z.pn - (intOf tj).toNat)
            case atStart => exact ⟨0, by omega, rfl, HS.out⟩
            case round =>
              obtain ⟨j, hj, rfl, HS2⟩ := hrel
              by_cases hjl : j < z.pn
              · have j3 : (j : Int) < (z.pn : Int) := by omega
                have r15 := (RD.out _ HS2.out).1
                obtain ⟨p, cs, hpa, hk, hsz⟩ := HS2.out.ps z MX.out (by omega)
                have hj2 : j < cs.size := by omega
                obtain ⟨v, hv⟩ : ∃ v, cs[j]? = some v := ⟨cs[j], Array.getElem?_eq_getElem hj2⟩
                have cj : wr.cell? ⟨p, j, none⟩ = some v := by simp [World.cell?, hk, hv]
                have fj : wr.frozen? ⟨p, j, none⟩ = false := by simp [World.frozen?, hk]
                have NX : Hid (Spo Wr (wr.setCell ⟨p, j, none⟩ (.int .i64 (-7))) (some ⟨q, 0, none⟩) Y6) := HS2.out.part MX.out hpa hk j _
                rw [hpa] at r15
                clear hpa hk hsz hj2 hv
                go_wp2
                go_roundw
                case rel => exact ⟨j + 1, by omega, by go_num, NX.out⟩
                case measure => simp [intOf]; omega
              · obtain ⟨r1, ⟨zz, r2⟩, r3⟩ := RD.out _ HS2.out
                have NX : Hid (Spo Wr (wr.setCell ⟨q, i * 18, none⟩ (.int .i64 (-7))) (some ⟨q, 0, none⟩) Y6) := HS2.out.kind i IX.out (-7)
                clear r1
                go_wp2
                go_roundw
                case rel => exact ⟨i + 1, by omega, by go_num, NX.out⟩
                case measure => simp [intOf]; omega
          · have CH : Hid (Ch Wr wr (fp a6 Y6)) := HS.out.ch
            have BE : Hid (Below w3.heap.size Wr wr) := CH.out.toBelow (by rw [← HWr.out]; exact B9r.out.size) (fun q hq hf => by
              have := (OU.out.fp_lt hf).1
              omega)
            have B9e : Hid (Below w3.heap.size w3 wr) := B9r.out.trans (by rw [HWr.out]; exact BE.out)
            have CIe : Hid (Cms wr w2.heap.size ai n XI) := CI3.out.below B9e.out
            have CAe : Hid (Cms wr 0 a n X) := CA3.out.below B9e.out
            have KGe : wr.heap[g]? = some (.cells A 29 (0, 0)) := (B9e.out.block g (Array.getElem?_eq_some_iff.1 KG3.out).1).trans KG3.out
            obtain ⟨d1, d2⟩ := KC.out _ KGe
            have SM : Hid (decide (led XI = led X) = true) := decide_eq_true HXI.out
            have HF2 : Hid (nwst (led XI) i0 i1 = b) := by show _ = _; rw [HXI.out]; exact HF.out
            clear KGe
            go_wp2_with (first
              | (go_at_call 17; refine (newest_n CIe).mono ?_; rintro e u1 ⟨rfl, G1⟩; rw [HF2.out]
                 have CI5 : Hid (Cms u1 w2.heap.size ai n XI) := CIe.out.below G1.out
                 have CA5 : Hid (Cms u1 0 a n X) := CAe.out.below G1.out)
              | (go_at_call 13; refine (same_n CI5 CA5).mono ?_; rintro e u2 ⟨rfl, G2⟩; rw [SM.out]))
            go_ret
            exact ⟨rfl, ((BW3.out.trans (B9e.out.mono BW3.out.size)).trans (G1.out.mono (Nat.le_trans BW3.out.size B9e.out.size))).trans (G2.out.mono (Nat.le_trans (Nat.le_trans BW3.out.size B9e.out.size) G1.out.size))⟩
  · have PI : Hid (plc (led XI) x.cm.i0 x.cm.i1 x.cm.i2 = n) := by rw [HXI.out]; have := plc_le (led X) x.cm.i0 x.cm.i1 x.cm.i2; show _ = _; omega
    have PR : Hid (plr (led X) x.cm.i0 x.cm.i1 x.cm.i2 = 0) := by show _ = _; unfold plr; rw [if_neg h1]
    clear h1 ln
    go_upto_region 9 with (go_at_call 15; refine (place_gone E7 (by omega) CI7 PI).mono ?_; rintro e w8 ⟨rfl, H8⟩)
    have CA8 : Hid (Cms w8 0 a n X) := CA7.out.below H8.out
    have KG8 : Hid (w8.heap[g]? = some (.cells A 29 (0, 0))) := (H8.out.block g (Array.getElem?_eq_some_iff.1 KG7.out).1).trans KG7.out
    clear c1 c2 c3
    have c1 : w8.cell? ⟨g, 1, none⟩ = some (.int .i64 x.cm.i0) := cell_arr KG8.out (by rw [hX.out]; rfl)
    have c2 : w8.cell? ⟨g, 2, none⟩ = some (.int .i64 x.cm.i1) := cell_arr KG8.out (by rw [hX.out]; rfl)
    have c3 : w8.cell? ⟨g, 3, none⟩ = some (.int .i64 x.cm.i2) := cell_arr KG8.out (by rw [hX.out]; rfl)
    unfold er
    go_upto_region 10 with (go_at_call 16; refine (refplace_n CA8).mono ?_; rintro e w9 ⟨rfl, H9⟩; rw [PR.out])
    clear c1 c2 c3
    have q0 : w9.cell? ⟨0, 0, none⟩ = some (er (E 0)) := ((E7.out.below H8.out).below H9.out).c 0 (by omega)
    unfold er at q0
    have nq := neq_same w9 (E 0)
    go_upto_region 12 with (fail)
    clear q0 nq
    have BI9 : Hid (Below w3.heap.size w3 w9) := (BI7.out.trans (H8.out.mono BI7.out.size)).trans (H9.out.mono (Nat.le_trans BI7.out.size H8.out.size))
    have BW9 : Hid (Below w.heap.size w w9) := BW3.out.trans (BI9.out.mono BW3.out.size)
    have CA9 : Hid (Cms w9 0 a n X) := CA8.out.below H9.out
    have KG9 : Hid (w9.heap[g]? = some (.cells A 29 (0, 0))) := (H9.out.block g (Array.getElem?_eq_some_iff.1 KG8.out).1).trans KG8.out
    have OU9 : Hid (Oc w9 w3.heap.size a6 n6 c6 Y6) := (OU7.out.below H8.out).below H9.out
    clear H8 H9 CA8 KG8 BI7 OU7 KG7 CI7 CA7 E7 PI PR
    go_upto_region 13 with (fail)
    obtain ⟨i0, Hi0⟩ : ∃ v, Hid (x.cm.i0 = v) := ⟨_, rfl⟩
    obtain ⟨i1, Hi1⟩ : ∃ v, Hid (x.cm.i1 = v) := ⟨_, rfl⟩
    have KC : Hid (∀ W : World, W.heap[g]? = some (.cells A 29 (0, 0)) → W.cell? ⟨g, 1, none⟩ = some (.int .i64 i0) ∧ W.cell? ⟨g, 2, none⟩ = some (.int .i64 i1)) := fun W h => ⟨cell_arr h (by rw [hX.out, ← Hi0.out]; rfl), cell_arr h (by rw [hX.out, ← Hi1.out]; rfl)⟩
    obtain ⟨W9, HW9⟩ : ∃ W, Hid (w9 = W) := ⟨_, rfl⟩
    go_wp2
    go_loopw [14, 84] (fun tb ti wr => ∃ (t : Nat) (b : Int), t ≤ n ∧ ti = .int .i64 t ∧ tb = .int .i64 b ∧ Hid (nwst (led (X.take t)) i0 i1 = b) ∧ Hid (Below W9.heap.size W9 wr)) (fun _ ti _ => n - (intOf ti).toNat)
    case atStart => exact ⟨0, -1, by omega, rfl, rfl, rfl, by rw [← HW9.out]; exact Below.refl _ _⟩
    case round =>
      obtain ⟨t, b, ht, rfl, rfl, HK, HB⟩ := hrel
      by_cases hlt : t < n
      · have i3 : (t : Int) < (n : Int) := by omega
        have kx : t < X.length := by rw [← LX.out]; exact hlt
        obtain ⟨b1, o1, rfl, e1⟩ := (CA9.out.below (by rw [HW9.out]; exact HB.out)).at_ kx
        obtain ⟨y, Hx⟩ : ∃ x, Hid (X[t] = x) := ⟨X[t], (rfl : X[t] = X[t])⟩
        rw [Hx.out] at e1
        have EX : Hid (X[t]? = some y) := by show _ = _; rw [← Hx.out]; exact List.getElem?_eq_getElem kx
        obtain ⟨A', HA⟩ : ∃ A, Hid (A = (encX y).toArray) := ⟨_, rfl⟩
        have a18' : A'.size = 18 := encX_sz HA.out
        have AA' : Hid (A'.all (·.oneCell') = true) := encX_all HA.out
        have E1 : Hid (wr.rangeAt b1 (o1 + t * 18) (encX y)) := e1
        clear e1
        obtain ⟨w2', Hw2, K2⟩ := box_new wr A'
        obtain ⟨g1, Hg1⟩ : ∃ g, Hid (wr.heap.size = g) := ⟨_, rfl⟩
        go_upto_region 16 with first
          | (refine wpList_ldA (by rfl) (.tmp 86) (by rfl) b1 (o1 + t * 18) (by rfl) HA.out E1.out ?_)
          | (refine wpList_store_row (by rfl) 29 (.tmp 16) (.tmp 87) (by rfl) wr.heap.size A' (by rfl) (by rfl) 29 _ (heap_alloc_new wr _) (info29 a18') a18'.symm AA'.out ?_)
        rw [Hw2.out, Hg1.out]
        have k1' : Hid (w2'.heap[g1]? = some (.cells A' 29 (0, 0))) := by rw [← Hg1.out]; exact K2.out.1
        have B2' : Hid (Below wr.heap.size wr w2') := K2.out.2.1
        have BF : Hid (Below W9.heap.size W9 w2') := HB.out.trans (B2'.out.mono HB.out.size)
        have kg' : w2'.heap[g]? = some (.cells A 29 (0, 0)) := (BF.out.block g (by rw [← HW9.out]; exact (Array.getElem?_eq_some_iff.1 KG9.out).1)).trans (by rw [← HW9.out]; exact KG9.out)
        obtain ⟨d1, d2⟩ := KC.out _ kg'
        clear kg' K2 Hw2 Hg1 E1
        obtain ⟨x0, Hx0⟩ : ∃ v, Hid (y.cm.i0 = v) := ⟨_, rfl⟩
        obtain ⟨x1, Hx1⟩ : ∃ v, Hid (y.cm.i1 = v) := ⟨_, rfl⟩
        obtain ⟨x2, Hx2⟩ : ∃ v, Hid (y.cm.i2 = v) := ⟨_, rfl⟩
        have f1 : w2'.cell? ⟨g1, 1, none⟩ = some (.int .i64 x0) := cell_arr k1'.out (by rw [HA.out, ← Hx0.out]; rfl)
        have f2 : w2'.cell? ⟨g1, 2, none⟩ = some (.int .i64 x1) := cell_arr k1'.out (by rw [HA.out, ← Hx1.out]; rfl)
        have f3 : w2'.cell? ⟨g1, 3, none⟩ = some (.int .i64 x2) := cell_arr k1'.out (by rw [HA.out, ← Hx2.out]; rfl)
        by_cases h0 : x0 = i0
        · by_cases h1 : x1 = i1
          · by_cases h2 : b < x2
            · have NX : Hid (nwst (led (X.take (t + 1))) i0 i1 = x2) := by
                show _ = _
                rw [nwst_snoc EX.out, HK.out]
                unfold nst
                rw [Hx0.out, Hx1.out, Hx2.out, if_pos ⟨h0, h1⟩]
                omega
              go_wp2
              go_roundw
              case rel => exact ⟨t + 1, x2, by omega, by go_num, by first | rfl | (simp; omega), NX.out, BF.out⟩
              case measure => simp [intOf]; omega
            · have NX : Hid (nwst (led (X.take (t + 1))) i0 i1 = b) := by
                show _ = _
                rw [nwst_snoc EX.out, HK.out]
                unfold nst
                rw [Hx0.out, Hx1.out, Hx2.out, if_pos ⟨h0, h1⟩]
                omega
              have h3 : x2 ≤ b := by omega
              go_wp2
              go_roundw
              case rel => exact ⟨t + 1, b, by omega, by go_num, by first | rfl | (simp; omega), NX.out, BF.out⟩
              case measure => simp [intOf]; omega
          · have NX : Hid (nwst (led (X.take (t + 1))) i0 i1 = b) := by
              show _ = _
              rw [nwst_snoc EX.out, HK.out]
              unfold nst
              rw [Hx0.out, Hx1.out, if_neg (fun h => h1 h.2)]
            go_wp2
            go_roundw
            case rel => exact ⟨t + 1, b, by omega, by go_num, rfl, NX.out, BF.out⟩
            case measure => simp [intOf]; omega
        · have NX : Hid (nwst (led (X.take (t + 1))) i0 i1 = b) := by
            show _ = _
            rw [nwst_snoc EX.out, HK.out]
            unfold nst
            rw [Hx0.out, if_neg (fun h => h0 h.1)]
          go_wp2
          go_roundw
          case rel => exact ⟨t + 1, b, by omega, by go_num, rfl, NX.out, BF.out⟩
          case measure => simp [intOf]; omega
      · have HF : Hid (nwst (led X) i0 i1 = b) := by
          show _ = _
          rw [← HK.out, List.take_of_length_le (by have := LX.out; omega)]
        have OU : Hid (Oc wr w3.heap.size a6 n6 c6 Y6) := OU9.out.below (by rw [HW9.out]; exact HB.out)
        have LY : Hid (n6 = Y6.length) := OU.out.len
        have hn6 : n6 ≤ 764877654082 := OU.out.sz
        have S0 : Hid (Spo wr wr a6 Y6) := Spo.of OU.out
        have B9r : Hid (Below w3.heap.size w3 wr) := BI9.out.trans ((by rw [HW9.out]; exact HB.out : Below w9.heap.size w9 wr).mono BI9.out.size)
        have KGr : Hid (wr.heap[g]? = some (.cells A 29 (0, 0))) := ((by rw [HW9.out]; exact HB.out : Below w9.heap.size w9 wr).block g (Array.getElem?_eq_some_iff.1 KG9.out).1).trans KG9.out
        have CAr : Hid (Cms wr 0 a n X) := CA9.out.below (by rw [HW9.out]; exact HB.out)
        have BWr : Hid (Below w.heap.size w wr) := BW9.out.trans ((by rw [HW9.out]; exact HB.out : Below w9.heap.size w9 wr).mono BW9.out.size)
        clear HB HK
        obtain ⟨Wr, HWr⟩ : ∃ W, Hid (wr = W) := ⟨_, rfl⟩
        go_wp2
        go_loopw [117] (fun ti W => ∃ i : Nat, i ≤ n6 ∧ ti = .int .i64 i ∧ Hid (Spo Wr W a6 Y6)) (fun ti _ => n6 - (intOf ti).toNat)
        case atStart => exact ⟨0, by omega, rfl, by rw [← HWr.out]; exact S0.out⟩
        case round =>
          obtain ⟨i, hi, rfl, HS⟩ := hrel
          by_cases hlt2 : i < n6
          · have i3 : (i : Int) < (n6 : Int) := by omega
            have iX : i < Y6.length := by rw [← LY.out]; exact hlt2
            obtain ⟨q, rfl⟩ : ∃ q, a6 = some ⟨q, 0, none⟩ := by obtain ⟨q, _, h, _⟩ := HS.out.row i iX; exact ⟨q, h⟩
            obtain ⟨z, Hx⟩ : ∃ x, Hid (Y6[i] = x) := ⟨Y6[i], (rfl : Y6[i] = Y6[i])⟩
            have MX : Hid (z ∈ Y6) := by show z ∈ Y6; rw [← Hx.out]; exact List.getElem_mem iX
            have PN : z.pn ≤ 17592186043904 := (OU.out.ps z MX.out).2
            have RD : Hid (∀ W, Spo Wr W (some ⟨q, 0, none⟩) Y6 → W.cell? ⟨q, i * 18 + 15, none⟩ = some (.slice z.pa z.pn z.pc) ∧ (∃ z, W.cell? ⟨q, i * 18, none⟩ = some (.int .i64 z)) ∧ W.frozen? ⟨q, i * 18, none⟩ = false) := fun W hW => by
              obtain ⟨q', rs, h0, h1, h3, z, h4⟩ := hW.row i iX
              cases h0
              rw [Hx.out] at h3
              exact ⟨by simp [World.cell?, h1, h3], ⟨z, by simp [World.cell?, h1, h4]⟩, by simp [World.frozen?, h1]⟩
            have r15 := (RD.out _ HS.out).1
            have IX : Hid (i < Y6.length) := iX
            clear Hx iX
            go_wp2
            clear r15
            go_loopw [126] (fun tj wr2 => ∃ j : Nat, j ≤ z.pn ∧ tj = .int .i64 j ∧ Hid (Spo Wr wr2 (some ⟨q, 0, none⟩) Y6)) (fun tj _ => z.pn - (intOf tj).toNat)
            case atStart => exact ⟨0, by omega, rfl, HS.out⟩
            case round =>
              obtain ⟨j, hj, rfl, HS2⟩ := hrel
              by_cases hjl : j < z.pn
              · have j3 : (j : Int) < (z.pn : Int) := by omega
                have r15 := (RD.out _ HS2.out).1
                obtain ⟨p, cs, hpa, hk, hsz⟩ := HS2.out.ps z MX.out (by omega)
                have hj2 : j < cs.size := by omega
                obtain ⟨v, hv⟩ : ∃ v, cs[j]? = some v := ⟨cs[j], Array.getElem?_eq_getElem hj2⟩
                have cj : wr.cell? ⟨p, j, none⟩ = some v := by simp [World.cell?, hk, hv]
                have fj : wr.frozen? ⟨p, j, none⟩ = false := by simp [World.frozen?, hk]
                have NX : Hid (Spo Wr (wr.setCell ⟨p, j, none⟩ (.int .i64 (-7))) (some ⟨q, 0, none⟩) Y6) := HS2.out.part MX.out hpa hk j _
                rw [hpa] at r15
                clear hpa hk hsz hj2 hv
                go_wp2
                go_roundw
                case rel => exact ⟨j + 1, by omega, by go_num, NX.out⟩
                case measure => simp [intOf]; omega
              · obtain ⟨r1, ⟨zz, r2⟩, r3⟩ := RD.out _ HS2.out
                have NX : Hid (Spo Wr (wr.setCell ⟨q, i * 18, none⟩ (.int .i64 (-7))) (some ⟨q, 0, none⟩) Y6) := HS2.out.kind i IX.out (-7)
                clear r1
                go_wp2
                go_roundw
                case rel => exact ⟨i + 1, by omega, by go_num, NX.out⟩
                case measure => simp [intOf]; omega
          · have CH : Hid (Ch Wr wr (fp a6 Y6)) := HS.out.ch
            have BE : Hid (Below w3.heap.size Wr wr) := CH.out.toBelow (by rw [← HWr.out]; exact B9r.out.size) (fun q hq hf => by
              have := (OU.out.fp_lt hf).1
              omega)
            have B9e : Hid (Below w3.heap.size w3 wr) := B9r.out.trans (by rw [HWr.out]; exact BE.out)
            have CIe : Hid (Cms wr w2.heap.size ai n XI) := CI3.out.below B9e.out
            have CAe : Hid (Cms wr 0 a n X) := CA3.out.below B9e.out
            have KGe : wr.heap[g]? = some (.cells A 29 (0, 0)) := (B9e.out.block g (Array.getElem?_eq_some_iff.1 KG3.out).1).trans KG3.out
            obtain ⟨d1, d2⟩ := KC.out _ KGe
            have SM : Hid (decide (led XI = led X) = true) := decide_eq_true HXI.out
            have HF2 : Hid (nwst (led XI) i0 i1 = b) := by show _ = _; rw [HXI.out]; exact HF.out
            clear KGe
            go_wp2_with (first
              | (go_at_call 17; refine (newest_n CIe).mono ?_; rintro e u1 ⟨rfl, G1⟩; rw [HF2.out]
                 have CI5 : Hid (Cms u1 w2.heap.size ai n XI) := CIe.out.below G1.out
                 have CA5 : Hid (Cms u1 0 a n X) := CAe.out.below G1.out)
              | (go_at_call 13; refine (same_n CI5 CA5).mono ?_; rintro e u2 ⟨rfl, G2⟩; rw [SM.out]))
            go_ret
            exact ⟨rfl, ((BW3.out.trans (B9e.out.mono BW3.out.size)).trans (G1.out.mono (Nat.le_trans BW3.out.size B9e.out.size))).trans (G2.out.mono (Nat.le_trans (Nat.le_trans BW3.out.size B9e.out.size) G1.out.size))⟩
end Go.Proofs.YtfabnnbljkkihaaGreatDoor
