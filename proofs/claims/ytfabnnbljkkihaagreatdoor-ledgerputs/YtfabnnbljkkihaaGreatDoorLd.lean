/- Where an id stands: find (f35) with IndexFunc (f58) and its closure (f59). -/
import Derived.Test.YtfabnnbljkkihaaGreatDoorLc
namespace Go.Proofs.YtfabnnbljkkihaaGreatDoor
open Go.ChangeShapes Go.WideShapes Go.ChangeAt Go.RowKit
set_option maxRecDepth 20000
set_option linter.unusedVariables false
set_option linter.unusedSimpArgs false
/- has a command this id? how many stand ahead of the first that has it? -/
def hasI (i j k : Int) (x : Cm) : Bool := decide (x.i0 = i ∧ x.i1 = j ∧ x.i2 = k)
def plc (l : List Cm) (i j k : Int) : Nat := l.findIdx (hasI i j k)
theorem plc_le (l : List Cm) (i j k : Int) : plc l i j k ≤ l.length := List.findIdx_le_length
theorem plc_at {l : List Cm} {i j k : Int} {t : Nat} {x : Cm} (hx : l[t]? = some x) (hh : hasI i j k x = true) (hb : ∀ s y, s < t → l[s]? = some y → hasI i j k y = false) : plc l i j k = t := by
  obtain ⟨h1, h2⟩ := List.getElem?_eq_some_iff.1 hx
  unfold plc
  rw [List.findIdx_eq h1]
  refine ⟨by rw [h2]; exact hh, fun s hs => ?_⟩
  have := hb s l[s] hs (List.getElem?_eq_getElem (by omega))
  simpa using this
theorem plc_none {l : List Cm} {i j k : Int} (hb : ∀ (s : Nat) y, l[s]? = some y → hasI i j k y = false) : plc l i j k = l.length := by
  unfold plc
  rw [List.findIdx_eq_length]
  intro x hx
  obtain ⟨s, h1, h2⟩ := List.getElem_of_mem hx
  exact hb s x (by rw [List.getElem?_eq_getElem h1, h2])
set_option maxHeartbeats 1000000 in
theorem pred59 {w : World} (x : Cx) {g : Nat} {i j k : Int} (hG : Hid (w.heap[g]? = some (.cells #[.int .i64 i, .int .i64 j, .int .i64 k] 24 (0, 0)))) :
    Calls Tryz.prog 59 #[.agg (encX x).toArray, .pointer (some ⟨g, 0, none⟩)] w fun e w' => e = .returned (.bool (hasI i j k x.cm)) ∧ Hid (Below w.heap.size w w') := by
  have hg : g < w.heap.size := (Array.getElem?_eq_some_iff.1 hG.out).1
  have hne : g ≠ w.heap.size := by omega
  have c0 : w.cell? ⟨g, 0, none⟩ = some (.int .i64 i) := by simp [World.cell?, hG.out]
  have c1 : w.cell? ⟨g, 1, none⟩ = some (.int .i64 j) := by simp [World.cell?, hG.out]
  have c2 : w.cell? ⟨g, 2, none⟩ = some (.int .i64 k) := by simp [World.cell?, hG.out]
  obtain ⟨⟨kk, i0, i1, i2, bu, ke, u0, u1, u2, b0, b1, b2, sz, et, pt, ps, tm, dy⟩, pa, pn, pc⟩ := x
  simp only [encX] at *
  have EQ : ∀ w, (Op.equalIn 10000 24 (.agg #[.int .i64 i0, .int .i64 i1, .int .i64 i2]) (.agg #[.int .i64 i, .int .i64 j, .int .i64 k])).run Tryz.prog w = .ok (decide (i0 = i ∧ i1 = j ∧ i2 = k)) w := fun w => eqId i0 i1 i2 i j k 9998 w
  have HR : Hid (decide (i0 = i ∧ i1 = j ∧ i2 = k) = hasI i j k ⟨kk, i0, i1, i2, bu, ke, u0, u1, u2, b0, b1, b2, sz, et, pt, ps, tm, dy⟩) := rfl
  rw [← HR.out]
  clear HR
  obtain ⟨r, Hr⟩ : ∃ r, Hid (decide (i0 = i ∧ i1 = j ∧ i2 = k) = r) := ⟨_, rfl⟩
  rw [Hr.out] at EQ ⊢
  clear Hr hG
  go_enter Tryz.func59, Tryz.ntmps59
  go_wp2
  go_ret
  exact ⟨rfl, alloc1 _ _⟩
theorem pred_x {w : World} {A : Array Value} {x : Cx} {g : Nat} {i j k : Int} (hA : Hid (A = (encX x).toArray)) (hG : Hid (w.heap[g]? = some (.cells #[.int .i64 i, .int .i64 j, .int .i64 k] 24 (0, 0)))) :
    Calls Tryz.prog 59 #[.agg A, .pointer (some ⟨g, 0, none⟩)] w fun e w' => e = .returned (.bool (hasI i j k x.cm)) ∧ Hid (Below w.heap.size w w') := by
  rw [hA.out]
  exact pred59 x hG
def idx (l : List Cm) (i j k : Int) : Int := if plc l i j k < l.length then (plc l i j k : Int) else -1
set_option maxHeartbeats 2000000 in
theorem index_n {w : World} {lo : Nat} {a : Option Addr} {n c : Nat} {X : List Cx} {g : Nat} {i j k : Int} (hA : Hid (Cms w lo a n X)) (hG : Hid (w.heap[g]? = some (.cells #[.int .i64 i, .int .i64 j, .int .i64 k] 24 (0, 0)))) :
    Calls Tryz.prog 58 #[.slice a n c, .func (.func 59) #[] #[.pointer (some ⟨g, 0, none⟩)]] w fun e w' => e = .returned (.int .i64 (idx (led X) i j k)) ∧ Hid (Below w.heap.size w w') := by
  have hsz := hA.out.sz
  have LX : Hid (n = X.length) := hA.out.len
  have hg : Hid (g < w.heap.size) := (Array.getElem?_eq_some_iff.1 hG.out).1
  go_enter Tryz.func58, Tryz.ntmps58
  go_wp2
  go_loopw [8] (fun ti wr => ∃ t : Nat, t ≤ n ∧ ti = .int .i64 t ∧ Hid (∀ s y, s < t → (led X)[s]? = some y → hasI i j k y = false) ∧ Hid (Below w.heap.size w wr)) (fun ti _ => n - (intOf ti).toNat)
  case atStart => exact ⟨0, by omega, rfl, fun s y hs => by omega, Below.refl _ _⟩
  case round =>
    obtain ⟨t, ht, rfl, HK, HB⟩ := hrel
    by_cases hlt : t < n
    · have i3 : (t : Int) < (n : Int) := by omega
      have kx : t < X.length := by rw [← LX.out]; exact hlt
      obtain ⟨b1, o1, rfl, e1⟩ := (hA.out.below HB.out).at_ kx
      obtain ⟨x, Hx⟩ : ∃ x, Hid (X[t] = x) := ⟨X[t], (rfl : X[t] = X[t])⟩
      rw [Hx.out] at e1
      have EX : Hid ((led X)[t]? = some x.cm) := by show _ = _; rw [← Hx.out]; simp [led, kx]
      obtain ⟨A, HA⟩ : ∃ A, Hid (A = (encX x).toArray) := ⟨_, rfl⟩
      have E1 : Hid (wr.rangeAt b1 (o1 + t * 18) (encX x)) := e1
      clear e1
      have G1 : Hid (wr.heap[g]? = some (.cells #[.int .i64 i, .int .i64 j, .int .i64 k] 24 (0, 0))) := (HB.out.block g hg.out).trans hG.out
      by_cases hh : hasI i j k x.cm = true
      · have Hr : Hid (hasI i j k x.cm = true) := hh
        have HF : Hid (idx (led X) i j k = (t : Int)) := by
          have h1 := plc_at EX.out hh HK.out
          show idx (led X) i j k = _
          unfold idx
          rw [h1, if_pos (by rw [led_len]; exact kx)]
        clear hh
        go_wp2_with (first
          | (refine wpList_ldA (by rfl) (.tmp 14) (by rfl) b1 (o1 + t * 18) (by rfl) HA.out E1.out ?_)
          | (go_at_call 59; refine (pred_x HA G1).mono ?_; rintro e w4 ⟨rfl, H4⟩; rw [Hr.out]))
        go_ret
        exact ⟨by rw [HF.out]; rfl, HB.out.trans (H4.out.mono HB.out.size)⟩
      · have Hr : Hid (hasI i j k x.cm = false) := (show hasI i j k x.cm = false by simpa using hh)
        have NX : Hid (∀ s y, s < t + 1 → (led X)[s]? = some y → hasI i j k y = false) := fun s y hs hy => by
          by_cases hst : s = t
          · subst hst
            rw [EX.out] at hy
            cases hy
            exact Hr.out
          · exact HK.out s y (by omega) hy
        clear hh
        go_wp2_with (first
          | (refine wpList_ldA (by rfl) (.tmp 14) (by rfl) b1 (o1 + t * 18) (by rfl) HA.out E1.out ?_)
          | (go_at_call 59; refine (pred_x HA G1).mono ?_; rintro e w4 ⟨rfl, H4⟩; rw [Hr.out]))
        go_roundw
        case rel => exact ⟨t + 1, by omega, by go_num, NX.out, HB.out.trans (H4.out.mono HB.out.size)⟩
        case measure => simp [intOf]; omega
    · have ein : t = n := by omega
      subst ein
      have HF : Hid (idx (led X) i j k = -1) := by
        have h1 : plc (led X) i j k = (led X).length := plc_none (fun s y hy => HK.out s y (by have h2 := (List.getElem?_eq_some_iff.1 hy).1; rw [led_len] at h2; have := LX.out; omega) hy)
        show idx (led X) i j k = _
        unfold idx
        rw [h1, if_neg (Nat.lt_irrefl _)]
      go_wp2
      go_ret
      exact ⟨by rw [HF.out]; rfl, HB.out⟩
theorem find_yes {w : World} {lo : Nat} {a : Option Addr} {n c : Nat} {X : List Cx} {i j k : Int} {p : Nat} (hA : Hid (Cms w lo a n X)) (hp : Hid (plc (led X) i j k = p)) (hn : p < n) :
    Calls Tryz.prog 35 #[.slice a n c, .agg #[.int .i64 i, .int .i64 j, .int .i64 k]] w fun e w' => e = .returned (.tuple #[.int .i64 (p : Int), .bool true]) ∧ Hid (Below w.heap.size w w') := by
  have hsz := hA.out.sz
  have HI : Hid (idx (led X) i j k = (p : Int)) := by
    show idx (led X) i j k = _
    unfold idx
    rw [hp.out, if_pos (by rw [led_len, ← hA.out.len]; exact hn)]
  obtain ⟨w1, Hw1⟩ : ∃ w1, Hid (w.alloc (.cells #[.int .i64 i, .int .i64 j, .int .i64 k] 24) = w1) := ⟨_, rfl⟩
  obtain ⟨g, Hg⟩ : ∃ g, Hid (w.heap.size = g) := ⟨_, rfl⟩
  have B1 : Hid (Below w.heap.size w w1) := by rw [← Hw1.out]; exact alloc1 w _
  have G1 : Hid (w1.heap[g]? = some (.cells #[.int .i64 i, .int .i64 j, .int .i64 k] 24 (0, 0))) := by rw [← Hw1.out, ← Hg.out]; exact heap_alloc_new w _
  have A1 : Hid (Cms w1 lo a n X) := hA.out.below B1.out
  go_enter Tryz.func35, Tryz.ntmps35
  go_upto_region 1 with (fail)
  rw [Hw1.out, Hg.out]
  go_wp2_with (go_at_call 58; refine (index_n A1 G1).mono ?_; rintro e w2 ⟨rfl, H2⟩; rw [HI.out])
  go_ret2
  exact ⟨rfl, B1.out.trans (H2.out.mono B1.out.size)⟩
theorem find_no {w : World} {lo : Nat} {a : Option Addr} {n c : Nat} {X : List Cx} {i j k : Int} (hA : Hid (Cms w lo a n X)) (hp : Hid (plc (led X) i j k = n)) :
    Calls Tryz.prog 35 #[.slice a n c, .agg #[.int .i64 i, .int .i64 j, .int .i64 k]] w fun e w' => e = .returned (.tuple #[.int .i64 (-1), .bool false]) ∧ Hid (Below w.heap.size w w') := by
  have hsz := hA.out.sz
  have HI : Hid (idx (led X) i j k = -1) := by
    show idx (led X) i j k = _
    unfold idx
    rw [hp.out, if_neg (by rw [led_len, ← hA.out.len]; exact Nat.lt_irrefl _)]
  obtain ⟨w1, Hw1⟩ : ∃ w1, Hid (w.alloc (.cells #[.int .i64 i, .int .i64 j, .int .i64 k] 24) = w1) := ⟨_, rfl⟩
  obtain ⟨g, Hg⟩ : ∃ g, Hid (w.heap.size = g) := ⟨_, rfl⟩
  have B1 : Hid (Below w.heap.size w w1) := by rw [← Hw1.out]; exact alloc1 w _
  have G1 : Hid (w1.heap[g]? = some (.cells #[.int .i64 i, .int .i64 j, .int .i64 k] 24 (0, 0))) := by rw [← Hw1.out, ← Hg.out]; exact heap_alloc_new w _
  have A1 : Hid (Cms w1 lo a n X) := hA.out.below B1.out
  go_enter Tryz.func35, Tryz.ntmps35
  go_upto_region 1 with (fail)
  rw [Hw1.out, Hg.out]
  go_wp2_with (go_at_call 58; refine (index_n A1 G1).mono ?_; rintro e w2 ⟨rfl, H2⟩; rw [HI.out])
  go_ret2
  exact ⟨rfl, B1.out.trans (H2.out.mono B1.out.size)⟩
end Go.Proofs.YtfabnnbljkkihaaGreatDoor
