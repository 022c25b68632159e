import Derived.Test.YtoegfckafnlknaaDoorMCh
import Derived.Test.YtoegfckafnlknaaDoorMAd
import Derived.Test.YtoegfckafnlknaaDoorMCe
/- Ha -/
/- The document's reading of a command: numbers (take, f43), ids (id, f45). -/
namespace Go.Proofs.YtoegfckafnlknaaDoor
open Go.ChangeShapes Go.WideShapes Go.ChangeAt Go.RowKit
set_option maxRecDepth 20000
set_option linter.unusedVariables false
set_option linter.unusedSimpArgs false
theorem rrf_of {w W : World} {g : Nat} {a : Option Addr} {n c : Nat} {l : List Nat} {p q : Nat} (h : Rrf w g a n c l p) (hf : Wfr w W g none) (hb : W.heap[g]? = some (.cells #[.slice a n c, .int .i64 (q : Int)] 79 (0, 0))) (hq : q ≤ n) : Rrf W g a n c l q :=
  ⟨hb, hf.sln h.sl (fun b off h1 h2 => ⟨h.ne b off h1 h2, by simp [blkOf]⟩), h.nc, h.z, h.ne, hq⟩
section
variable {w : World} {g : Nat} {a : Option Addr} {n c : Nat} {l : List Nat} {p : Nat} {z : Int}
theorem refnumR_yes {X q : Nat} (hR : Hid (Rrf w g a n c l p)) (hr : Hid (rn l p z = some (X, q))) :
    Calls Tryd.prog 55 #[.pointer (some ⟨g, 0, none⟩), .int .i64 z] w fun e w' => e = .returned (.tuple #[.int .i64 (X : Int), .int .i64 0]) ∧ Hid (Rrf w' g a n c l q ∧ Wfr w w' g none) := by
  refine (refrnum_any hR).mono ?_
  rintro e w' ⟨k, q', h1, h2⟩
  have h := h2.out
  rw [rn_some hr.out] at h
  obtain ⟨rfl, rfl, h3, h4⟩ := h
  exact ⟨h1, h3, h4⟩
theorem refnumR_no (hR : Hid (Rrf w g a n c l p)) (hr : Hid (rn l p z = none)) :
    Calls Tryd.prog 55 #[.pointer (some ⟨g, 0, none⟩), .int .i64 z] w fun e w' => ∃ k : Nat, e = .returned (.tuple #[.int .i64 (k : Int), .int .i64 5]) ∧ Hid ((∃ q, Rrf w' g a n c l q) ∧ Wfr w w' g none) := by
  refine (refrnum_any hR).mono ?_
  rintro e w' ⟨k, q', h1, h2⟩
  rcases rn_cases l p z with ⟨N, q, h, _⟩ | ⟨_, N, q, h⟩
  · rw [hr.out] at h; cases h
  · have h3 := h2.out
    rw [h] at h3
    obtain ⟨rfl, rfl, h4, h5⟩ := h3
    exact ⟨_, h1, ⟨_, h4⟩, h5⟩
end
theorem wp_appI {o : Oper} {rest : List Oper} {ops : Array Oper} {a : Act} {Q : Exit → Act → World → Prop} {w w' : World} {v v1 v2 : Value} (hgd : o.guard = none) (s x : Operand)
    (ho : o.op = .call { callee := .builtin .append, args := #[s, x], argTypes := #[26, 26] }) (hty : o.type = 26) (hs : a.eval s = v1) (hx : a.eval x = v2) (hrun : Hid ((Builtin.append_ #[26, 26] 26 #[v1, v2]).run Tryd.prog w = .ok v w'))
    (h : wpList Tryd.prog ops Q rest (a.put o.dst v) w') : wpList Tryd.prog ops Q (o :: rest) a w := wpList_appt hgd s x ho hty hs hx hrun h
theorem oneI {W : World} {b : Nat} {v : Int} (h : W.heap[b]? = some (.cells #[.int .i64 v] 3 (0, 0))) : Irow W 0 (some ⟨b, 0, none⟩) 1 [v] := by
  refine ⟨rfl, by omega, .inr ⟨b, 0, rfl, Nat.zero_le _, (Array.getElem?_eq_some_iff.1 h).1, fun i hi => ?_⟩⟩
  obtain rfl : i = 0 := by omega
  simp [World.cell?, h]
theorem rp_moreR {l : List Nat} {z : Int} {k i q p X q2 : Nat} {PS : List Nat} (hk : i < k) (h : rp l z k p = (rp l z (k - i) q).bind fun t => some (PS ++ t.1, t.2)) (hn : rn l q z = some (X, q2)) : rp l z k p = (rp l z (k - (i + 1)) q2).bind fun t => some ((PS ++ [X]) ++ t.1, t.2) := by
  rw [h, show k - i = (k - (i + 1)) + 1 by omega, rp, hn]
  rcases opt_cases (rp l z (k - (i + 1)) q2) with h | ⟨r, h⟩
  · simp [h]
  · simp [h]
theorem rp_noneR {l : List Nat} {z : Int} {k i q p : Nat} {PS : List Nat} (hk : i < k) (h : rp l z k p = (rp l z (k - i) q).bind fun t => some (PS ++ t.1, t.2)) (hn : rn l q z = none) : rp l z k p = none := by
  rw [h, show k - i = (k - (i + 1)) + 1 by omega, rp, hn]
  rfl
theorem rp_endR {l : List Nat} {z : Int} {k q p : Nat} {PS : List Nat} (h : rp l z k p = (rp l z (k - k) q).bind fun t => some (PS ++ t.1, t.2)) : rp l z k p = some (PS, q) := by
  rw [h, Nat.sub_self, rp]
  simp
/- what take comes to -/
structure Tk (w w' : World) (g : Nat) (a : Option Addr) (n c : Nat) (l : List Nat) (p k : Nat) (a' : Option Addr) (m c' : Nat) (ok : Bool) (S : List Nat) (q : Nat) : Prop where
  rrf : Rrf w' g a n c l q
  fr : Wfr w w' g none
  yes : ok = true → rp l 1099511627776 k p = some (S, q) ∧ m = k ∧ m ≤ c' ∧ Irow w' w.heap.size a' m (S.map fun x : Nat => (x : Int))
  no : ok = false → rp l 1099511627776 k p = none
  own : ok = true → w'.ownsRow w.heap.size 3 1 (.slice a' m c') m ((S.map fun x : Nat => (x : Int)).map iv)
set_option maxHeartbeats 2000000 in
theorem take_n {w : World} {g : Nat} {a : Option Addr} {n c : Nat} {l : List Nat} {p k : Nat} (hR : Hid (Rrf w g a n c l p)) (hk : k ≤ 1000) :
    Calls Tryd.prog 43 #[.pointer (some ⟨g, 0, none⟩), .int .i64 (k : Int)] w fun e w' => ∃ a' m c' ok S q, e = .returned (.tuple #[.slice a' m c', .bool ok]) ∧ Hid (Tk w w' g a n c l p k a' m c' ok S q) := by
  obtain ⟨b, Hb⟩ : ∃ b, Hid (w.heap.size = b) := ⟨_, rfl⟩
  obtain ⟨w1, Hw1⟩ : ∃ w1, Hid (w.alloc (.cells #[] 3) = w1) := ⟨_, rfl⟩
  have b1 : Hid (Below w.heap.size w w1) := by rw [← Hw1.out]; exact alloc1 w _
  have O1 : Hid (w1.ownsRow w.heap.size 3 1 (.slice (some ⟨b, 0, none⟩) 0 0) 0 ((([] : List Nat).map fun x : Nat => (x : Int)).map iv)) := by
    rw [← Hw1.out, ← Hb.out]
    exact World.ownsRow_made w #[] 0 (Nat.le_refl _) (by unfold maxLen; omega) (by simp)
  have R1 : Hid (Rrf w1 g a n c l p) := hR.out.below b1.out
  go_enter Tryd.func43, Tryd.ntmps43
  go_upto_region 1 with (fail)
  go_wp2
  rw [Hw1.out, Hb.out]
  go_loopw [6] (fun t6 wr => ∃ (i : Nat) (ai : Option Addr) (ci q : Nat) (S : List Nat), i ≤ k ∧ t6 = .slice ai i ci ∧ Hid (Rrf wr g a n c l q ∧ Wfr w wr g none) ∧ Hid (wr.ownsRow w.heap.size 3 1 (.slice ai i ci) i ((S.map fun x : Nat => (x : Int)).map iv)) ∧ Hid (rp l 1099511627776 k p = (rp l 1099511627776 (k - i) q).bind fun t => some (S ++ t.1, t.2))) (fun t6 _ => k - (match t6 with | .slice _ m _ => m | _ => 0))
  case atStart => exact ⟨0, some ⟨b, 0, none⟩, 0, p, [], by omega, rfl, ⟨R1.out, wfr_below g b1.out⟩, O1.out, (by show _ = _; rw [Nat.sub_zero]; rcases opt_cases (rp l 1099511627776 k p) with h | ⟨r, h⟩ <;> simp [h])⟩
  case round =>
    obtain ⟨i, ai, ci, q, S, hi, rfl, HR, HO, HP⟩ := hrel
    have R2 : Hid (Rrf wr g a n c l q) := HR.out.1
    by_cases hlt : i < k
    · have i1 : (i : Int) < (k : Int) := by omega
      rcases opt_cases (rn l q 1099511627776) with e1 | ⟨⟨X, q2⟩, e1⟩
      · have ER : Hid (rn l q 1099511627776 = none) := e1
        go_wp2_with (go_at_call 55; refine (refnumR_no R2 ER).mono ?_; rintro e w2 ⟨kk, rfl, H2⟩)
        go_ret2
        obtain ⟨⟨q3, h3⟩, h4⟩ := H2.out
        exact ⟨none, 0, 0, false, [], q3, rfl, h3, HR.out.2.none_trans h4, (fun h => by cases h), (fun _ => rp_noneR hlt HP.out e1), fun h => by cases h⟩
      · have ER : Hid (rn l q 1099511627776 = some (X, q2)) := e1
        have RN : Hid (rp l 1099511627776 k p = (rp l 1099511627776 (k - (i + 1)) q2).bind fun t => some ((S ++ [X]) ++ t.1, t.2)) := rp_moreR hlt HP.out e1
        go_wp2_with (first
          | (go_at_call 55; refine (refnumR_yes R2 ER).mono ?_; rintro e w2 ⟨rfl, H2⟩
             have gl := hR.out.lt
             have F2 : Hid (Wfr w w2 g none) := HR.out.2.none_trans H2.out.2
             have O2 : Hid (w2.ownsRow w.heap.size 3 1 (.slice ai i ci) i ((S.map fun x : Nat => (x : Int)).map iv)) := rown_bel HO.out (fun d hd => H2.out.2.block d (HO.out.lt d hd).2 (by have := (HO.out.lt d hd).1; omega) (by simp [blkOf]))
             obtain ⟨d, Hd⟩ : ∃ d, Hid (w2.heap.size = d) := ⟨_, rfl⟩
             obtain ⟨w3, Hw3⟩ : ∃ w3, Hid (w2.alloc (.cells #[.int .i64 (X : Int)] 3) = w3) := ⟨_, rfl⟩
             have b3 : Hid (Below w2.heap.size w2 w3) := by rw [← Hw3.out]; exact alloc1 w2 _
             have O3 : Hid (w3.ownsRow w.heap.size 3 1 (.slice ai i ci) i ((S.map fun x : Nat => (x : Int)).map iv)) := rown_bel O2.out (fun d hd => b3.out.block d (O2.out.lt d hd).2)
             have I3 : Hid (Irow w3 0 (some ⟨d, 0, none⟩) 1 [(X : Int)]) := oneI (by rw [← Hw3.out, ← Hd.out]; exact heap_alloc_new w2 _)
             have L3 : Hid (w.heap.size ≤ w3.heap.size) := Nat.le_trans F2.out.size b3.out.size
             obtain ⟨a4, c4, w4, hrun, own4, gr4⟩ := app_int O3.out I3.out (c := 1) (fun h => by cases h) (by omega) L3.out
             have AP : Hid ((Builtin.append_ #[26, 26] 26 #[.slice ai i ci, .slice (some ⟨d, 0, none⟩) 1 1]).run Tryd.prog w3 = .ok (.slice a4 (i + 1) c4) w4) := hrun
             have b4 : Hid (Below w.heap.size w3 w4) := grown_below gr4 L3.out (fun d hd => (O3.out.lt d hd).1)
             have OW : Hid (w4.ownsRow w.heap.size 3 1 (.slice a4 (i + 1) c4) (i + 1) ((S.map (fun x : Nat => (x : Int)) ++ [(X : Int)]).map iv)) := own4
             clear hrun own4 gr4)
          | (at_builtin; rw [Hw3.out, Hd.out]; refine wp_appI (by rfl) (.tmp 21) (.tmp 23) (by rfl) (by rfl) (by rfl) (by rfl) AP ?_))
        have F4 : Hid (Wfr w w4 g none) := ⟨b4.out.os.trans (b3.out.os.trans F2.out.os), b4.out.tape.trans (b3.out.tape.trans F2.out.tape), b4.out.output.trans (b3.out.output.trans F2.out.output), Nat.le_trans L3.out b4.out.size, fun d h1 h2 h3 => (b4.out.block d h1).trans ((b3.out.block d (Nat.lt_of_lt_of_le h1 F2.out.size)).trans (F2.out.block d h1 h2 h3))⟩
        have R4 : Hid (Rrf w4 g a n c l q2) := rrf_of hR.out F4.out ((b4.out.block g gl).trans ((b3.out.block g H2.out.1.lt).trans H2.out.1.blk)) H2.out.1.le
        have O4 : Hid (w4.ownsRow w.heap.size 3 1 (.slice a4 (i + 1) c4) (i + 1) (((S ++ [X]).map fun x : Nat => (x : Int)).map iv)) := by
          have h := OW.out
          rw [List.map_append]
          exact h
        go_roundw
        case rel => exact ⟨i + 1, a4, c4, q2, S ++ [X], by omega, rfl, ⟨R4.out, F4.out⟩, O4.out, RN.out⟩
        case measure => simp; omega
    · obtain rfl : i = k := by omega
      have e11 : rp l 1099511627776 i p = some (S, q) := rp_endR HP.out
      have E11 : Hid (rp l 1099511627776 i p = some (S, q)) := e11
      clear e11
      go_wp2
      go_ret2
      exact ⟨ai, i, ci, true, S, q, rfl, HR.out.1, HR.out.2, (fun _ => ⟨E11.out, rfl, rown_cap HO.out, irow_own HO.out (by omega)⟩), (fun h => by cases h), fun _ => HO.out⟩
noncomputable def opr45 : Array Oper := match Tryd.f45.body with
  | some c => match regIn 1 c with
    | some o => o
    | none => #[]
  | none => #[]
set_option maxHeartbeats 2000000 in
theorem id_n {w : World} {lo : Nat} {a : Option Addr} {n c : Nat} {L : List Int} {X Y Z : Int} (hI : Hid (Irow w lo a n L)) (hn : 3 ≤ n) (h0 : Hid (L.getD 0 0 = X)) (h1 : Hid (L.getD 1 0 = Y)) (h2 : Hid (L.getD 2 0 = Z)) :
    Calls Tryd.prog 45 #[.slice a n c] w fun e w' => e = .returned (.agg #[.int .i64 X, .int .i64 Y, .int .i64 Z]) ∧ Hid (Below w.heap.size w w') := by
  obtain ⟨b, o, rfl, _⟩ := hI.out.at_ (i := 0) (by omega)
  have m0 : (0 : Int) < (n : Int) := by omega
  have m1 : (1 : Int) < (n : Int) := by omega
  have m2 : (2 : Int) < (n : Int) := by omega
  have u0 : 0 < n := by omega
  have u1 : 1 < n := by omega
  have u2 : 2 < n := by omega
  obtain ⟨g2, Hg2⟩ : ∃ g, Hid (w.heap.size = g) := ⟨_, rfl⟩
  obtain ⟨w1, Hw1⟩ : ∃ w1, Hid (w.alloc (.cells #[.int .i64 0, .int .i64 0, .int .i64 0] 23) = w1) := ⟨_, rfl⟩
  obtain ⟨v, Hv⟩ : ∃ v, Hid (w1.drew = v) := ⟨_, rfl⟩
  have b1 : Hid (Below w.heap.size w v) := by rw [← Hv.out, ← Hw1.out]; exact (alloc1 w _).drew
  have k1 : Hid (v.heap[g2]? = some (.cells #[.int .i64 0, .int .i64 0, .int .i64 0] 23 (0, 0))) := by rw [← Hv.out, ← Hw1.out, ← Hg2.out]; exact heap_alloc_new w _
  have I1 : Hid (Irow v lo (some ⟨b, o, none⟩) n L) := hI.out.below b1.out
  have CC : Hid (v.cell? ⟨b, o, none⟩ = some (.int .i64 X) ∧ v.cell? ⟨b, o + 1, none⟩ = some (.int .i64 Y) ∧ v.cell? ⟨b, o + 2, none⟩ = some (.int .i64 Z)) := by
    have q : ∀ i, i < n → v.cell? ⟨b, o + i, none⟩ = some (.int .i64 (L.getD i 0)) := fun i hi => by
      obtain ⟨b', o', e, h⟩ := I1.out.at_ hi
      cases e
      exact h
    have q0 := q 0 (by omega)
    rw [h0.out] at q0
    have q1 := q 1 (by omega)
    rw [h1.out] at q1
    have q2 := q 2 (by omega)
    rw [h2.out] at q2
    exact ⟨q0, q1, q2⟩
  go_enter Tryd.func45, Tryd.ntmps45
  go_upto_region 1 with (fail)
  rw [Hw1.out, Hg2.out]
  refine wp_region_seqL (ops := opr45) (C := fun W => W.cell? ⟨b, o, none⟩ = some (.int .i64 X) ∧ W.cell? ⟨b, o + 1, none⟩ = some (.int .i64 Y) ∧ W.cell? ⟨b, o + 2, none⟩ = some (.int .i64 Z)) [(0, false), (1, false), (2, false), (3, false), (4, false), (5, false), (6, false), (7, false), (8, false), (9, false), (10, true)] 10 (by kernel_rfl) (by kernel_rfl) (by rw [Hv.out]; exact CC.out) ?_
  rw [Hv.out]
  clear Hv Hw1
  refine seqL_take (o := { dst := some 3, op := Go.Op.move (Go.Operand.tmp 0), type := 26, pos := "ref.go:116", after := #[], guard := none }) (v := .slice (some ⟨b, o, none⟩) n c) (by kernel_rfl) (fun _ _ _ h => h) (Or.inl ⟨by kernel_rfl, fun W hW => by go_simp⟩) ?_
  simp only [List.getElem_toArray, List.getElem_cons_zero, List.getElem_cons_succ, Act.put, List.setIfInBounds_toArray, List.set_cons_zero, List.set_cons_succ]
  refine seqL_take (o := { dst := some 4, op := Go.Op.indexAddr 26 (Go.Operand.tmp 3) (Go.Operand.const (Go.Value.int Go.IntKind.i64 0)), type := 0, pos := "ref.go:116", after := #[{ on := 0, ground := Go.Ground.data }], guard := none }) (v := .pointer (some ⟨b, o, none⟩)) (by kernel_rfl) (fun _ _ _ h => h) (Or.inl ⟨by kernel_rfl, fun W hW => by go_simp⟩) ?_
  simp only [List.getElem_toArray, List.getElem_cons_zero, List.getElem_cons_succ, Act.put, List.setIfInBounds_toArray, List.set_cons_zero, List.set_cons_succ]
  refine seqL_take (o := { dst := some 5, op := Go.Op.load 3 (Go.Operand.tmp 4), type := 3, pos := "ref.go:116", after := #[{ on := 1, ground := Go.Ground.data }], guard := none }) (v := .int .i64 X) (by kernel_rfl) (fun _ _ _ h => h) (Or.inl ⟨by kernel_rfl, fun W hW => by have q0 := hW.1; go_simp⟩) ?_
  simp only [List.getElem_toArray, List.getElem_cons_zero, List.getElem_cons_succ, Act.put, List.setIfInBounds_toArray, List.set_cons_zero, List.set_cons_succ]
  refine seqL_take (o := { dst := some 6, op := Go.Op.move (Go.Operand.tmp 0), type := 26, pos := "ref.go:116", after := #[], guard := none }) (v := .slice (some ⟨b, o, none⟩) n c) (by kernel_rfl) (fun _ _ _ h => h) (Or.inl ⟨by kernel_rfl, fun W hW => by go_simp⟩) ?_
  simp only [List.getElem_toArray, List.getElem_cons_zero, List.getElem_cons_succ, Act.put, List.setIfInBounds_toArray, List.set_cons_zero, List.set_cons_succ]
  refine seqL_take (o := { dst := some 7, op := Go.Op.indexAddr 26 (Go.Operand.tmp 6) (Go.Operand.const (Go.Value.int Go.IntKind.i64 1)), type := 0, pos := "ref.go:116", after := #[{ on := 3, ground := Go.Ground.data }], guard := none }) (v := .pointer (some ⟨b, o + 1, none⟩)) (by kernel_rfl) (fun _ _ _ h => h) (Or.inl ⟨by kernel_rfl, fun W hW => by go_simp⟩) ?_
  simp only [List.getElem_toArray, List.getElem_cons_zero, List.getElem_cons_succ, Act.put, List.setIfInBounds_toArray, List.set_cons_zero, List.set_cons_succ]
  refine seqL_take (o := { dst := some 8, op := Go.Op.load 3 (Go.Operand.tmp 7), type := 3, pos := "ref.go:116", after := #[{ on := 4, ground := Go.Ground.data }], guard := none }) (v := .int .i64 Y) (by kernel_rfl) (fun _ _ _ h => h) (Or.inl ⟨by kernel_rfl, fun W hW => by have q0 := hW.2.1; go_simp⟩) ?_
  simp only [List.getElem_toArray, List.getElem_cons_zero, List.getElem_cons_succ, Act.put, List.setIfInBounds_toArray, List.set_cons_zero, List.set_cons_succ]
  refine seqL_take (o := { dst := some 9, op := Go.Op.move (Go.Operand.tmp 0), type := 26, pos := "ref.go:116", after := #[], guard := none }) (v := .slice (some ⟨b, o, none⟩) n c) (by kernel_rfl) (fun _ _ _ h => h) (Or.inl ⟨by kernel_rfl, fun W hW => by go_simp⟩) ?_
  simp only [List.getElem_toArray, List.getElem_cons_zero, List.getElem_cons_succ, Act.put, List.setIfInBounds_toArray, List.set_cons_zero, List.set_cons_succ]
  refine seqL_take (o := { dst := some 10, op := Go.Op.indexAddr 26 (Go.Operand.tmp 9) (Go.Operand.const (Go.Value.int Go.IntKind.i64 2)), type := 0, pos := "ref.go:116", after := #[{ on := 6, ground := Go.Ground.data }], guard := none }) (v := .pointer (some ⟨b, o + 2, none⟩)) (by kernel_rfl) (fun _ _ _ h => h) (Or.inl ⟨by kernel_rfl, fun W hW => by go_simp⟩) ?_
  simp only [List.getElem_toArray, List.getElem_cons_zero, List.getElem_cons_succ, Act.put, List.setIfInBounds_toArray, List.set_cons_zero, List.set_cons_succ]
  refine seqL_take (o := { dst := some 11, op := Go.Op.load 3 (Go.Operand.tmp 10), type := 3, pos := "ref.go:116", after := #[{ on := 7, ground := Go.Ground.data }], guard := none }) (v := .int .i64 Z) (by kernel_rfl) (fun _ _ _ h => h) (Or.inl ⟨by kernel_rfl, fun W hW => by have q0 := hW.2.2; go_simp⟩) ?_
  simp only [List.getElem_toArray, List.getElem_cons_zero, List.getElem_cons_succ, Act.put, List.setIfInBounds_toArray, List.set_cons_zero, List.set_cons_succ]
  refine seqL_take (o := { dst := some 12, op := Go.Op.build 23 #[(0, Go.Operand.tmp 5), (1, Go.Operand.tmp 8), (2, Go.Operand.tmp 11)], type := 23, pos := "ref.go:116", after := #[{ on := 2, ground := Go.Ground.data }, { on := 5, ground := Go.Ground.data }, { on := 8, ground := Go.Ground.data }], guard := none }) (v := .agg #[.int .i64 X, .int .i64 Y, .int .i64 Z]) (by kernel_rfl) (fun _ _ _ h => h) (Or.inl ⟨by kernel_rfl, fun W hW => by go_simp⟩) ?_
  simp only [List.getElem_toArray, List.getElem_cons_zero, List.getElem_cons_succ, Act.put, List.setIfInBounds_toArray, List.set_cons_zero, List.set_cons_succ]
  refine seqL_call (o := { dst := none, op := Go.Op.store 23 (Go.Operand.tmp 2) (Go.Operand.tmp 12), type := 0, pos := "ref.go:116", after := #[{ on := 9, ground := Go.Ground.data }, { on := 0, ground := Go.Ground.phase }, { on := 1, ground := Go.Ground.phase }, { on := 2, ground := Go.Ground.phase }, { on := 3, ground := Go.Ground.phase }, { on := 4, ground := Go.Ground.phase }, { on := 5, ground := Go.Ground.phase }, { on := 6, ground := Go.Ground.phase }, { on := 7, ground := Go.Ground.phase }, { on := 8, ground := Go.Ground.phase }, { on := 9, ground := Go.Ground.phase }], guard := none }) (by kernel_rfl) (fun KK hK => ?_)
  rw [if_pos (by kernel_rfl)]
  have z0 : v.cell? ⟨g2, 0, none⟩ = some (.int .i64 0) := by simp [World.cell?, k1.out]
  have z1 : v.cell? ⟨g2, 1, none⟩ = some (.int .i64 0) := by simp [World.cell?, k1.out]
  have z2 : v.cell? ⟨g2, 2, none⟩ = some (.int .i64 0) := by simp [World.cell?, k1.out]
  have f0 := fz k1.out 0
  have f1 := fz k1.out 1
  have f2 := fz k1.out 2
  obtain ⟨v2, Hv2⟩ : ∃ v2, Hid (((v.setCell ⟨g2, 0, none⟩ (.int .i64 X)).setCell ⟨g2, 1, none⟩ (.int .i64 Y)).setCell ⟨g2, 2, none⟩ (.int .i64 Z) = v2) := ⟨_, rfl⟩
  have RW : Hid (v2.heap[g2]? = some (.cells #[.int .i64 X, .int .i64 Y, .int .i64 Z] 23 (0, 0))) := by rw [← Hv2.out, set_blk (set_blk (set_blk k1.out 0 _) 1 _) 2 _]; rfl
  have FB : Hid (Below w.heap.size w v2) := by rw [← Hv2.out]; exact ((b1.out.setCell (by have := Hg2.out; show w.heap.size ≤ g2; omega) _).setCell (by have := Hg2.out; show w.heap.size ≤ g2; omega) _).setCell (by have := Hg2.out; show w.heap.size ≤ g2; omega) _
  go_simp
  try rw [Hv2.out]
  refine hK.out _ _ (.inl rfl) ?_
  clear hK KK
  try simp only [List.getElem_toArray, List.getElem_cons_zero, List.getElem_cons_succ, Act.put, List.setIfInBounds_toArray, List.set_cons_zero, List.set_cons_succ]
  show (Exit.then _ _) .normal _ _
  go_wp2
  refine bodyPost_ret (results_cell_row (p := 2) (ty := 23) (by rfl) _ _ g2 23 _ (0, 0) _ (by rfl) RW.out Tryd.underlying23 rfl (by kernel_rfl)) rfl ?_
  exact ⟨rfl, FB.out⟩
end Go.Proofs.YtoegfckafnlknaaDoor
