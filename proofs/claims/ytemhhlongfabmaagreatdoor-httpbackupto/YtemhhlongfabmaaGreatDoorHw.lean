/- HttpFields. -/
import Derived.Test.YtemhhlongfabmaaGreatDoorHv
namespace Go.Proofs.YtemhhlongfabmaaGreatDoor
open Go.ChangeShapes Go.WideShapes Go.ChangeAt Go.RowKit
set_option maxRecDepth 20000
set_option linter.unusedVariables false
set_option linter.unusedSimpArgs false
theorem fst_app {nm : ByteArray} : ∀ (l : List Fl) (f : Fl), fst? (l ++ [f]) nm = (fst? l nm).or (if f.1 = nm then some f.2 else none)
  | [], f => by simp [fst?]
  | g :: r, f => by
    rw [List.cons_append, fst?, fst?]
    by_cases h : g.1 = nm
    · rw [if_pos h, if_pos h]; rfl
    · rw [if_neg h, if_neg h]; exact fst_app r f
theorem fst_take {l : List Fl} {nm : ByteArray} {i : Nat} (h : i < l.length) : fst? (l.take (i + 1)) nm = (fst? (l.take i) nm).or (if (l.getD i fz).1 = nm then some (l.getD i fz).2 else none) := by
  rw [List.take_succ_eq_append_getElem h, fst_app]
  have e : l.getD i fz = l[i] := by simp [List.getD, h]
  rw [e]
def ov (o : Option ByteArray) : Value := .string (o.getD ⟨#[]⟩)
def ob (o : Option ByteArray) : Bool := o.isSome
theorem FldEnd.eq {o : Option ByteArray} {e : Ending} (h : FldEnd o e) : e = .returned (.tuple #[.string (o.getD ⟨#[]⟩), .bool o.isSome]) := by
  cases o <;> exact h
set_option maxHeartbeats 4000000 in
theorem fields_n {m t nm : ByteArray} {a : Option Addr} {n c : Nat} {B : Value} {l : List Fl} {st : Int} {w : World} {M : Nat → Prop} {E : Nat → Addr} (hF : Hid (Fw w a n l)) (hm : Hid (Mx w)) (hE : Hid (Sent w M E)) (M0 : M 0) (M12 : M 12) (ht : Hid (Tab w)) :
    Calls Tryz.prog 4 #[.agg #[.string m, .string t, .slice a n c, B], .string nm, .int .i64 st] w fun e w' => e = .returned (.bool true) ∧ Hid (Below w.heap.size w w') := by
  have hsz := hF.out.sz
  obtain ⟨q, HQ⟩ : ∃ q, Hid (w.heap.size = q) := ⟨_, rfl⟩
  obtain ⟨wa, HA⟩ : ∃ wa, Hid (w.alloc (.cells #[.string m, .string t, .slice a n c, B] 27) = wa) := ⟨_, rfl⟩
  have XA : Hid (Bx w wa q 27 #[.string m, .string t, .slice a n c, B]) := by rw [← HA.out, ← HQ.out]; exact Bx.new w w 27 _ (Below.refl _ _)
  have CLS : Hid (∀ {W : World}, Bx w W q 27 #[.string m, .string t, .slice a n c, B] → W.cell? ⟨q, 0, none⟩ = some (.string m) ∧ W.cell? ⟨q, 1, none⟩ = some (.string t) ∧ W.cell? ⟨q, 2, none⟩ = some (.slice a n c) ∧ W.cell? ⟨q, 3, none⟩ = some B) := fun {W} h => by
    refine ⟨?_, ?_, ?_, ?_⟩ <;> simp [World.cell?, h.row]
  go_enter Tryz.func4, Tryz.ntmps4
  go_upto_region 1 with (fail)
  rw [HA.out, HQ.out]
  go_upto_region 3 with (go_at_call 9; refine (alive_n (hm.out.below XA.out.bel) (hE.out.below XA.out.bel) M0 M12 (ht.out.below XA.out.bel)).mono ?_; rintro e w1 ⟨rfl, D1⟩)
  have X1 : Hid (Bx w w1 q 27 #[.string m, .string t, .slice a n c, B]) := XA.out.below D1.out
  obtain ⟨p0, p1, p2, p3⟩ := CLS.out X1.out
  go_upto_region 4 with (go_at_call 17; refine (field_n (m := m) (t := t) (nm := nm) (c := c) (B := B) (hF.out.below X1.out.bel)).mono ?_; rintro e w2 ⟨h0, D2⟩; have h0 := FldEnd.eq h0; subst h0)
  have X2 : Hid (Bx w w2 q 27 #[.string m, .string t, .slice a n c, B]) := X1.out.below D2.out
  clear p0 p1 p2 p3 h0
  obtain ⟨p0, p1, p2, p3⟩ := CLS.out X2.out
  obtain ⟨vv, HV⟩ : ∃ v, Hid ((fst? l nm).getD ⟨#[]⟩ = v) := ⟨_, rfl⟩
  obtain ⟨vb, HB⟩ : ∃ v, Hid ((fst? l nm).isSome = v) := ⟨_, rfl⟩
  rw [HV.out, HB.out]
  go_upto_region 5 with (fail)
  go_wp2
  go_loopw [25, 9, 10, 11] (fun ti tw tb tn wr => ∃ (i k : Nat) (x : ByteArray) (b : Bool), i ≤ n ∧ k ≤ i ∧ ti = .int .i64 (i : Int) ∧ tw = .string x ∧ tb = .bool b ∧ tn = .int .i64 (k : Int) ∧ Hid (k = cntF (l.take i) nm) ∧ Hid ((fst? (l.take i) nm).getD ⟨#[]⟩ = x) ∧ Hid ((fst? (l.take i) nm).isSome = b) ∧ Hid (Bx w wr q 27 #[.string m, .string t, .slice a n c, B])) (fun ti _ _ _ _ => n - (intOf ti).toNat)
  case atStart => exact ⟨0, 0, ⟨#[]⟩, false, by omega, by omega, rfl, rfl, rfl, rfl, rfl, rfl, rfl, X2⟩
  case round =>
    obtain ⟨i, k, x, b, hi, hk, rfl, rfl, rfl, rfl, HN, HX, HS, XR⟩ := hrel
    by_cases hlt : i < n
    · have i1 : (i : Int) < (n : Int) := by omega
      obtain ⟨bb, off, rfl, hb, hc⟩ := (hF.out.below XR.out.bel).at_.resolve_left (by omega)
      obtain ⟨c0, c1⟩ := hc i hlt
      obtain ⟨y, Hy⟩ : ∃ y, Hid ((l.getD i fz).1 = y) := ⟨_, rfl⟩
      obtain ⟨z, Hz⟩ : ∃ z, Hid ((l.getD i fz).2 = z) := ⟨_, rfl⟩
      rw [Hy.out] at c0
      rw [Hz.out] at c1
      obtain ⟨w3, hw3⟩ : ∃ w3, w3 = wr.alloc (.cells #[.string y, .string z] 41) := ⟨_, rfl⟩
      have e0 : w3.cell? ⟨wr.heap.size, 0, none⟩ = some (.string y) := by rw [hw3]; simp
      have e1 : w3.cell? ⟨wr.heap.size, 1, none⟩ = some (.string z) := by rw [hw3]; simp
      have X3 : Hid (Bx w w3 q 27 #[.string m, .string t, .slice (some ⟨bb, off, none⟩) n c, B]) := by rw [hw3]; exact XR.out.below (alloc1 _ _)
      clear hc
      obtain ⟨bq, Eq⟩ : ∃ bq, Hid (decide (y = nm) = bq) := ⟨_, rfl⟩
      have q0 : (y.toList == nm.toList) = bq := by rw [beq_ba, Eq.out]
      have CT : Hid (cntF (l.take (i + 1)) nm = cntF (l.take i) nm + if (l.getD i fz).1 = nm then 1 else 0) := cnt_take (by rw [← hF.out.len]; exact hlt)
      have FT : Hid (fst? (l.take (i + 1)) nm = (fst? (l.take i) nm).or (if (l.getD i fz).1 = nm then some (l.getD i fz).2 else none)) := fst_take (by rw [← hF.out.len]; exact hlt)
      go_upto_region 8 with (fail)
      rw [← hw3]
      obtain ⟨g, hg⟩ : ∃ q, q = wr.heap.size := ⟨_, rfl⟩
      rw [← hg] at e0 e1 ⊢
      clear hw3 hg c0 c1
      cases bq with
      | true =>
        have ye : (l.getD i fz).1 = nm := by rw [Hy.out]; exact of_decide_eq_true Eq.out
        have NX : Hid (k + 1 = cntF (l.take (i + 1)) nm) := (by rw [CT.out, if_pos ye, ← HN.out] : k + 1 = cntF (l.take (i + 1)) nm)
        cases b with
        | true =>
          have FX : fst? (l.take (i + 1)) nm = fst? (l.take i) nm := by
            rw [FT.out]
            have h := HS.out
            cases hq : fst? (l.take i) nm with
            | none => rw [hq] at h; cases h
            | some v => rfl
          have N1 : Hid ((fst? (l.take (i + 1)) nm).getD ⟨#[]⟩ = x) := by rw [FX]; exact HX
          have N2 : Hid ((fst? (l.take (i + 1)) nm).isSome = true) := by rw [FX]; exact HS
          clear ye FX
          go_wp2
          go_roundw
          case rel => exact ⟨i + 1, k + 1, x, true, by omega, by omega, by go_num, rfl, rfl, by go_num, NX.out, N1.out, N2.out, X3.out⟩
          case measure => simp [intOf]; omega
        | false =>
          have FX : fst? (l.take (i + 1)) nm = some z := by
            rw [FT.out, if_pos ye, Hz.out]
            have h := HS.out
            cases hq : fst? (l.take i) nm with
            | none => rfl
            | some v => rw [hq] at h; cases h
          have N1 : Hid ((fst? (l.take (i + 1)) nm).getD ⟨#[]⟩ = z) := (by rw [FX]; rfl : (fst? (l.take (i + 1)) nm).getD ⟨#[]⟩ = z)
          have N2 : Hid ((fst? (l.take (i + 1)) nm).isSome = true) := (by rw [FX]; rfl : (fst? (l.take (i + 1)) nm).isSome = true)
          clear ye FX
          go_wp2
          go_roundw
          case rel => exact ⟨i + 1, k + 1, z, true, by omega, by omega, by go_num, rfl, rfl, by go_num, NX.out, N1.out, N2.out, X3.out⟩
          case measure => simp [intOf]; omega
      | false =>
        have ye : ¬ (l.getD i fz).1 = nm := by rw [Hy.out]; exact of_decide_eq_false Eq.out
        have NX : Hid (k = cntF (l.take (i + 1)) nm) := (by rw [CT.out, if_neg ye, ← HN.out]; rfl : k = cntF (l.take (i + 1)) nm)
        have FX : fst? (l.take (i + 1)) nm = fst? (l.take i) nm := by
          rw [FT.out, if_neg ye]
          cases fst? (l.take i) nm <;> rfl
        have N1 : Hid ((fst? (l.take (i + 1)) nm).getD ⟨#[]⟩ = x) := by rw [FX]; exact HX
        have N2 : Hid ((fst? (l.take (i + 1)) nm).isSome = b) := by rw [FX]; exact HS
        clear ye FX
        go_wp2
        go_roundw
        case rel => exact ⟨i + 1, k, x, b, by omega, by omega, by go_num, rfl, rfl, rfl, NX.out, N1.out, N2.out, X3.out⟩
        case measure => simp [intOf]; omega
    · have ie : l.take i = l := List.take_of_length_le (by have := hF.out.len; omega)
      rw [ie] at HN HX HS
      obtain rfl : x = vv := HX.out.symm.trans HV.out
      obtain rfl : b = vb := HS.out.symm.trans HB.out
      obtain ⟨p0, p1, p2, p3⟩ := CLS.out XR.out
      go_upto_region 13 with (fail)
      go_wp2_with (first | (go_at_call 18; refine (count_n (m := m) (t := t) (nm := nm) (c := c) (B := B) (hF.out.below XR.out.bel)).mono ?_; rintro e w4 ⟨rfl, D4⟩; rw [← HN.out]) | (go_at_call 19; refine (reason_n st w4).mono ?_; rintro e w5 ⟨rfl, h5⟩; rw [h5]; clear h5) | (go_at_call 20; refine (refreason_n st w4).mono ?_; rintro e w6 ⟨rfl, D6⟩))
      go_ret
      exact ⟨rfl, XR.out.bel.trans ((D4.out.trans (D6.out.mono D4.out.size)).mono XR.out.bel.size)⟩
end Go.Proofs.YtemhhlongfabmaaGreatDoor
