/- A command's bytes, as the program writes them (writer.command). -/
import Derived.Test.YtppibcambhmomaaDoorMh
import Derived.Test.YtppibcambhmomaaDoorMCg
import Derived.Test.YtppibcambhmomaaDoorMCf
namespace Go.Proofs.YtppibcambhmomaaDoor
open Go.ChangeShapes Go.WideShapes Go.ChangeAt Go.RowKit
set_option maxRecDepth 20000
set_option linter.unusedVariables false
set_option linter.unusedSimpArgs false
/- the bytes of numbers -/
def encs (l : List Nat) : List Nat := l.flatMap enc
theorem encs_snoc (l : List Nat) (x : Nat) : encs (l ++ [x]) = encs l ++ enc x := by simp [encs]
/- a command's bytes -/
def cmdL (K I0 I1 I2 : Nat) (bu ke : ByteArray) (U0 U1 U2 B0 B1 B2 SZ : Nat) (et : ByteArray) (PT : Nat) (PS : List Nat) (TM DY : Nat) : List Nat :=
  enc K ++ (enc I0 ++ (enc I1 ++ enc I2)) ++ (enc bu.size ++ bl bu) ++ (enc ke.size ++ bl ke) ++ (enc U0 ++ (enc U1 ++ enc U2)) ++ (enc B0 ++ (enc B1 ++ enc B2)) ++ enc SZ ++ (enc et.size ++ bl et) ++ enc PT ++ enc PS.length ++ encs PS ++ enc TM ++ enc DY
set_option maxHeartbeats 8000000 in
theorem wcmd_n {w : World} {gW B : Nat} {a : Option Addr} {n c : Nat} {L : List Nat} {K I0 I1 I2 U0 U1 U2 B0 B1 B2 SZ PT TM DY : Nat} {bu ke et : ByteArray} {PS : List Nat} {pa : Option Addr} {pn pc : Nat} (hW : Hid (Wri w gW B a n c L false)) (hI : Hid (∀ W', Below B w W' → Irow W' 0 pa pn (PS.map fun x : Nat => (x : Int)))) (hP : Hid (∀ x ∈ PS, x < 9223372036854775808))
    (hK : K < 9223372036854775808) (hI0 : I0 < 9223372036854775808) (hI1 : I1 < 9223372036854775808) (hI2 : I2 < 9223372036854775808) (hU0 : U0 < 9223372036854775808) (hU1 : U1 < 9223372036854775808) (hU2 : U2 < 9223372036854775808) (hB0 : B0 < 9223372036854775808) (hB1 : B1 < 9223372036854775808) (hB2 : B2 < 9223372036854775808) (hSZ : SZ < 9223372036854775808) (hPT : PT < 9223372036854775808) (hTM : TM < 9223372036854775808) (hDY : DY < 9223372036854775808) (hbu : bu.size ≤ 1000) (hke : ke.size ≤ 1000) (het : et.size ≤ 1000) (hpn : pn ≤ 1000) (hB : Hid (B ≤ w.heap.size)) (hgB : Hid (B ≤ gW)) (hb : n ≤ 1000000) :
    Calls Tryd.prog 56 #[.agg #[.pointer (some ⟨gW, 0, none⟩)], .agg #[.int .i64 (K : Int),.int .i64 (I0 : Int),.int .i64 (I1 : Int),.int .i64 (I2 : Int),.string bu,.string ke,.int .i64 (U0 : Int),.int .i64 (U1 : Int),.int .i64 (U2 : Int),.int .i64 (B0 : Int),.int .i64 (B1 : Int),.int .i64 (B2 : Int),.int .i64 (SZ : Int),.string et,.int .i64 (PT : Int),.slice pa pn pc,.int .i64 (TM : Int),.int .i64 (DY : Int)]] w fun e w' => ∃ a' n' c', e = .returned (.tuple #[]) ∧ Hid (Wri w' gW B a' n' c' (L ++ cmdL K I0 I1 I2 bu ke U0 U1 U2 B0 B1 B2 SZ et PT PS TM DY) false ∧ Wfr w w' gW a ∧ New w a a' ∧ n' ≤ n + 100000) := by
  obtain ⟨g2, Hg2⟩ : ∃ g, Hid (w.heap.size = g) := ⟨_, rfl⟩
  obtain ⟨g3, Hg3⟩ : ∃ g, Hid (w.heap.size + 1 = g) := ⟨_, rfl⟩
  obtain ⟨w1, Hw1⟩ : ∃ w1, Hid ((w.alloc (.cells #[.pointer (some ⟨gW, 0, none⟩)] 70)).alloc (.cells #[.int .i64 (K : Int),.int .i64 (I0 : Int),.int .i64 (I1 : Int),.int .i64 (I2 : Int),.string bu,.string ke,.int .i64 (U0 : Int),.int .i64 (U1 : Int),.int .i64 (U2 : Int),.int .i64 (B0 : Int),.int .i64 (B1 : Int),.int .i64 (B2 : Int),.int .i64 (SZ : Int),.string et,.int .i64 (PT : Int),.slice pa pn pc,.int .i64 (TM : Int),.int .i64 (DY : Int)] 60) = w1) := ⟨_, rfl⟩
  have S0 : Hid (Wb w1 a w1 g2 g3 gW B #[.int .i64 (K : Int),.int .i64 (I0 : Int),.int .i64 (I1 : Int),.int .i64 (I2 : Int),.string bu,.string ke,.int .i64 (U0 : Int),.int .i64 (U1 : Int),.int .i64 (U2 : Int),.int .i64 (B0 : Int),.int .i64 (B1 : Int),.int .i64 (B2 : Int),.int .i64 (SZ : Int),.string et,.int .i64 (PT : Int),.slice pa pn pc,.int .i64 (TM : Int),.int .i64 (DY : Int)] 60 a n c L n) := by
    have b : Below w.heap.size w w1 := by rw [← Hw1.out]; exact alloc2 w _ _
    have e2 := Hg2.out
    have e3 := Hg3.out
    have lt := hW.out.lt
    refine ⟨hW.out.below b, ?_, ?_, fun q hq => ?_, ⟨by omega, by omega⟩, Nat.le_trans hB.out b.size, Nat.le_refl _, Wfr.refl _ _ _, fun q hq => .inl hq⟩
    · rw [← Hw1.out, ← Hg2.out]
      exact ((alloc1 _ _).block w.heap.size (by simp)).trans (heap_alloc_new w _)
    · rw [← Hw1.out, ← Hg3.out]
      have h := heap_alloc_new (w.alloc (.cells #[.pointer (some ⟨gW, 0, none⟩)] 70)) (.cells #[.int .i64 (K : Int),.int .i64 (I0 : Int),.int .i64 (I1 : Int),.int .i64 (I2 : Int),.string bu,.string ke,.int .i64 (U0 : Int),.int .i64 (U1 : Int),.int .i64 (U2 : Int),.int .i64 (B0 : Int),.int .i64 (B1 : Int),.int .i64 (B2 : Int),.int .i64 (SZ : Int),.string et,.int .i64 (PT : Int),.slice pa pn pc,.int .i64 (TM : Int),.int .i64 (DY : Int)] 60)
      simpa using h
    · have := (hW.out.own.ge q hq).2
      exact ⟨by omega, by omega⟩
  have F0 : Hid (∀ {w' : World} {a' : Option Addr}, Wfr w1 w' gW a → New w1 a a' → Wfr w w' gW a ∧ New w a a') := fun {w' a'} h h2 => by
    rw [← Hw1.out] at h h2
    exact ⟨wfr_alloc (wfr_alloc h), new_alloc (new_alloc h2)⟩
  have BF : Hid (∀ W', Wfr w1 W' gW a → Below B w W') := fun W' hf => by
    have b : Below B w w1 := by rw [← Hw1.out]; exact (alloc2 w _ _).mono hB.out
    exact Wfr.below b hf hgB.out (fun q hq => (hW.out.own.ge q hq).1) (Nat.le_trans hB.out b.size)
  go_enter Tryd.func56, Tryd.ntmps56
  go_upto_region 1 with (fail)
  rw [Hw1.out, Hg3.out, Hg2.out]
  have p0 := S0.out.c2
  have q0 := S0.out.c3 0 _ rfl
  go_upto_region 2 with (go_at_call 35; refine (Wb.num S0 hK (by omega)).mono ?_; rintro e w2 ⟨a2, n2, c2, rfl, S1⟩)
  clear p0 q0 S0
  have p0 := S1.out.c2
  have q1 := S1.out.c3 1 _ rfl
  have q2 := S1.out.c3 2 _ rfl
  have q3 := S1.out.c3 3 _ rfl
  go_upto_region 3 with (go_at_call 70; refine (Wb.id S1 hI0 hI1 hI2 (by omega)).mono ?_; rintro e w3 ⟨a3, n3, c3, rfl, S2⟩)
  clear p0 q1 q2 q3 S1
  have p0 := S2.out.c2
  have q4 := S2.out.c3 4 _ rfl
  go_upto_region 4 with (go_at_call 71; refine (Wb.text _ S2 hbu (by omega)).mono ?_; rintro e w4 ⟨a4, n4, c4, rfl, S3⟩)
  clear p0 q4 S2
  have p0 := S3.out.c2
  have q5 := S3.out.c3 5 _ rfl
  go_upto_region 5 with (go_at_call 71; refine (Wb.text _ S3 hke (by omega)).mono ?_; rintro e w5 ⟨a5, n5, c5, rfl, S4⟩)
  clear p0 q5 S3
  have p0 := S4.out.c2
  have q6 := S4.out.c3 6 _ rfl
  have q7 := S4.out.c3 7 _ rfl
  have q8 := S4.out.c3 8 _ rfl
  go_upto_region 6 with (go_at_call 70; refine (Wb.id S4 hU0 hU1 hU2 (by omega)).mono ?_; rintro e w6 ⟨a6, n6, c6, rfl, S5⟩)
  clear p0 q6 q7 q8 S4
  have p0 := S5.out.c2
  have q9 := S5.out.c3 9 _ rfl
  have q10 := S5.out.c3 10 _ rfl
  have q11 := S5.out.c3 11 _ rfl
  go_upto_region 7 with (go_at_call 70; refine (Wb.id S5 hB0 hB1 hB2 (by omega)).mono ?_; rintro e w7 ⟨a7, n7, c7, rfl, S6⟩)
  clear p0 q9 q10 q11 S5
  have p0 := S6.out.c2
  have q12 := S6.out.c3 12 _ rfl
  go_upto_region 8 with (go_at_call 35; refine (Wb.num S6 hSZ (by omega)).mono ?_; rintro e w8 ⟨a8, n8, c8, rfl, S7⟩)
  clear p0 q12 S6
  have p0 := S7.out.c2
  have q13 := S7.out.c3 13 _ rfl
  go_upto_region 9 with (go_at_call 71; refine (Wb.text _ S7 het (by omega)).mono ?_; rintro e w9 ⟨a9, n9, c9, rfl, S8⟩)
  clear p0 q13 S7
  have p0 := S8.out.c2
  have q14 := S8.out.c3 14 _ rfl
  go_upto_region 10 with (go_at_call 35; refine (Wb.num S8 hPT (by omega)).mono ?_; rintro e w10 ⟨a10, n10, c10, rfl, S9⟩)
  clear p0 q14 S8
  have p0 := S9.out.c2
  have q15 := S9.out.c3 15 _ rfl
  go_upto_region 11 with (go_at_call 35; refine (Wb.num (N := pn) S9 (by omega) (by omega)).mono ?_; rintro e w11 ⟨a11, n11, c11, rfl, S10⟩)
  clear p0 q15 S9
  obtain ⟨LB, HLB⟩ : ∃ LB, Hid (L ++ (enc K ++ (enc I0 ++ (enc I1 ++ enc I2)) ++ (enc bu.size ++ bl bu) ++ (enc ke.size ++ bl ke) ++ (enc U0 ++ (enc U1 ++ enc U2)) ++ (enc B0 ++ (enc B1 ++ enc B2)) ++ enc SZ ++ (enc et.size ++ bl et) ++ enc PT ++ enc pn) = LB) := ⟨_, rfl⟩
  obtain ⟨m0, Hm0, hm0⟩ : ∃ m0, Hid (n + 9 + 27 + 1009 + 1009 + 27 + 27 + 9 + 1009 + 9 + 9 = m0) ∧ m0 ≤ n + 4000 := ⟨_, rfl, by omega⟩
  have T0 : Hid (Wb w1 a w11 g2 g3 gW B #[.int .i64 (K : Int),.int .i64 (I0 : Int),.int .i64 (I1 : Int),.int .i64 (I2 : Int),.string bu,.string ke,.int .i64 (U0 : Int),.int .i64 (U1 : Int),.int .i64 (U2 : Int),.int .i64 (B0 : Int),.int .i64 (B1 : Int),.int .i64 (B2 : Int),.int .i64 (SZ : Int),.string et,.int .i64 (PT : Int),.slice pa pn pc,.int .i64 (TM : Int),.int .i64 (DY : Int)] 60 a11 n11 c11 (LB ++ encs (PS.take 0)) (m0 + 0 * 9)) := by
    have h := S10.out
    have e1 : LB ++ encs (PS.take 0) = L ++ enc K ++ (enc I0 ++ (enc I1 ++ enc I2)) ++ (enc bu.size ++ bl bu) ++ (enc ke.size ++ bl ke) ++ (enc U0 ++ (enc U1 ++ enc U2)) ++ (enc B0 ++ (enc B1 ++ enc B2)) ++ enc SZ ++ (enc et.size ++ bl et) ++ enc PT ++ enc pn := by rw [← HLB.out]; simp [encs, List.append_assoc]
    rw [e1, Nat.zero_mul, Nat.add_zero, ← Hm0.out]
    exact h
  clear S10
  have qp := T0.out.c3 15 _ rfl
  go_upto_region 12 with (fail)
  clear qp
  go_wp2
  go_loopw [60] (fun ti wr => ∃ i : Nat, i ≤ pn ∧ ti = .int .i64 (i : Int) ∧ Hid (∃ a' n' c', Wb w1 a wr g2 g3 gW B #[.int .i64 (K : Int),.int .i64 (I0 : Int),.int .i64 (I1 : Int),.int .i64 (I2 : Int),.string bu,.string ke,.int .i64 (U0 : Int),.int .i64 (U1 : Int),.int .i64 (U2 : Int),.int .i64 (B0 : Int),.int .i64 (B1 : Int),.int .i64 (B2 : Int),.int .i64 (SZ : Int),.string et,.int .i64 (PT : Int),.slice pa pn pc,.int .i64 (TM : Int),.int .i64 (DY : Int)] 60 a' n' c' (LB ++ encs (PS.take i)) (m0 + i * 9))) (fun ti _ => pn - (intOf ti).toNat)
  case atStart => exact ⟨0, by omega, rfl, _, _, _, T0.out⟩
  case round =>
    obtain ⟨i, hi, rfl, HT0⟩ := hrel
    obtain ⟨ai, ni, ci, HT1⟩ := HT0.out
    have T : Hid (Wb w1 a wr g2 g3 gW B #[.int .i64 (K : Int),.int .i64 (I0 : Int),.int .i64 (I1 : Int),.int .i64 (I2 : Int),.string bu,.string ke,.int .i64 (U0 : Int),.int .i64 (U1 : Int),.int .i64 (U2 : Int),.int .i64 (B0 : Int),.int .i64 (B1 : Int),.int .i64 (B2 : Int),.int .i64 (SZ : Int),.string et,.int .i64 (PT : Int),.slice pa pn pc,.int .i64 (TM : Int),.int .i64 (DY : Int)] 60 ai ni ci (LB ++ encs (PS.take i)) (m0 + i * 9)) := HT1
    clear HT0 HT1 T0
    have HIr : Hid (Irow wr 0 pa pn (PS.map fun x : Nat => (x : Int))) := hI.out wr (BF.out wr T.out.fr)
    by_cases hlt : i < pn
    · have i1 : (i : Int) < (pn : Int) := by omega
      obtain ⟨tb, tO, rfl, e1⟩ := HIr.out.at_ hlt
      have iL : i < PS.length := by have := HIr.out.len; simp at this; omega
      obtain ⟨x, Hx⟩ : ∃ x, Hid (PS[i] = x) := ⟨PS[i], (rfl : PS[i] = PS[i])⟩
      have hx : x < 9223372036854775808 := by rw [← Hx.out]; exact hP.out _ (List.getElem_mem iL)
      have e2 : (PS.map fun x : Nat => (x : Int)).getD i 0 = (x : Int) := by simp [List.getD, iL, Hx.out]
      rw [e2] at e1
      have p0 := T.out.c2
      clear e2
      go_wp2_with (go_at_call 35; refine (Wb.num T hx (by omega)).mono ?_; rintro e wn ⟨an, nn, cn, rfl, TN⟩)
      go_roundw
      case rel =>
        have h := TN.out
        rw [List.append_assoc, ← Hx.out, ← encs_snoc, ← List.take_succ_eq_append_getElem iL] at h
        exact ⟨i + 1, by omega, by go_num, an, nn, cn, by rw [show m0 + (i + 1) * 9 = m0 + i * 9 + 9 by omega]; exact h⟩
      case measure => simp [intOf]; omega
    · obtain rfl : i = pn := by omega
      have hl : PS.length = i := by have := HIr.out.len; simp at this; omega
      rw [List.take_of_length_le (by omega)] at T
      have PE : Hid (PS.length = i) := hl
      clear hlt hi hl HIr
      have p0 := T.out.c2
      have q16 := T.out.c3 16 _ rfl
      go_upto_region 17 with (go_at_call 35; refine (Wb.num T hTM (by omega)).mono ?_; rintro e wm ⟨am, nm, cm', rfl, TM1⟩)
      clear p0 q16
      have p0 := TM1.out.c2
      have q17 := TM1.out.c3 17 _ rfl
      go_wp2_with (go_at_call 35; refine (Wb.num TM1 hDY (by omega)).mono ?_; rintro e wn ⟨an, nn, cn, rfl, TN⟩)
      go_end0
      have h := TN.out
      refine ⟨an, nn, cn, rfl, ?_, (F0.out h.fr h.nw).1, (F0.out h.fr h.nw).2, by have := h.ln; omega⟩
      have hw := h.wri
      rw [← HLB.out, ← PE.out] at hw
      unfold cmdL
      simpa [List.append_assoc] using hw
end Go.Proofs.YtppibcambhmomaaDoor
namespace Go.Proofs.YtppibcambhmomaaDoor
open Go.ChangeShapes Go.WideShapes Go.ChangeAt Go.RowKit
set_option maxRecDepth 20000
set_option linter.unusedVariables false
set_option linter.unusedSimpArgs false
/- a command of naturals -/
structure Nm where
  K : Nat
  I0 : Nat
  I1 : Nat
  I2 : Nat
  bu : ByteArray
  ke : ByteArray
  U0 : Nat
  U1 : Nat
  U2 : Nat
  B0 : Nat
  B1 : Nat
  B2 : Nat
  SZ : Nat
  et : ByteArray
  PT : Nat
  PS : List Nat
  TM : Nat
  DY : Nat
def Nm.cm (x : Nm) : Cm := ⟨x.K, x.I0, x.I1, x.I2, x.bu, x.ke, x.U0, x.U1, x.U2, x.B0, x.B1, x.B2, x.SZ, x.et, x.PT, x.PS.map fun y : Nat => (y : Int), x.TM, x.DY⟩
def Nm.by (x : Nm) : List Nat := cmdL x.K x.I0 x.I1 x.I2 x.bu x.ke x.U0 x.U1 x.U2 x.B0 x.B1 x.B2 x.SZ x.et x.PT x.PS x.TM x.DY
structure Nb (x : Nm) : Prop where
  K : x.K ≤ 11
  I0 : x.I0 ≤ 15
  I1 : x.I1 ≤ 1099511627776
  I2 : x.I2 ≤ 1099511627776
  bu : x.bu.size ≤ 63
  ke : x.ke.size ≤ 200
  U0 : x.U0 ≤ 15
  U1 : x.U1 ≤ 1099511627776
  U2 : x.U2 ≤ 1099511627776
  B0 : x.B0 ≤ 15
  B1 : x.B1 ≤ 1099511627776
  B2 : x.B2 ≤ 1099511627776
  SZ : x.SZ ≤ 1024
  et : x.et.size ≤ 64
  PT : x.PT ≤ 16
  pl : x.PS.length ≤ 16
  PS : ∀ y ∈ x.PS, y ≤ 16
  TM : x.TM ≤ 1099511627776
  DY : x.DY ≤ 1099511627776
theorem goz_or {h g z : Bool} (e : goz h g z = true) : g = true ∨ z = true := by
  cases h
  · exact .inr e
  · exact .inl e
theorem rsP_at {l : List Int} {n : Nat} (h : rsP l n = true) {i : Nat} (hi : i < n) : 1 ≤ l.getD i 0 ∧ l.getD i 0 ≤ 16 ∧ lst l i < l.getD i 0 := by
  have := List.all_eq_true.1 h i (List.mem_range.2 hi)
  simp only [Bool.and_eq_true, ptP, decide_eq_true_eq] at this
  exact ⟨this.1.1, this.1.2, this.2⟩
theorem rsP_ge {l : List Int} {n : Nat} (h : rsP l n = true) : ∀ i, i < n → (i : Int) + 1 ≤ l.getD i 0 := by
  intro i
  induction i with
  | zero => intro hi; have := (rsP_at h hi).1; omega
  | succ i ih =>
    intro hi
    have h1 := ih (by omega)
    have h2 := (rsP_at h hi).2.2
    have e : lst l (i + 1) = l.getD i 0 := rfl
    rw [e] at h2
    omega
theorem frm_nat {x : Cm} (h : frm x = true) : ∃ y : Nm, x = y.cm ∧ Nb y := by
  obtain ⟨k, i0, i1, i2, bu, ke, u0, u1, u2, b0, b1, b2, sz, et, pt, ps, tm, dy⟩ := x
  unfold frm at h
  simp only [Bool.and_eq_true] at h
  obtain ⟨h1, h2, h3, h4, h5, h6, h7, h8, h9, h10⟩ := h
  have k1 : 1 ≤ k ∧ k ≤ 11 := of_decide_eq_true h1
  have id : ∀ {a b c : Int}, gdI a b c = true → (0 ≤ a ∧ a ≤ 15) ∧ (0 ≤ b ∧ b ≤ 1099511627776) ∧ (0 ≤ c ∧ c ≤ 1099511627776) := fun {a b c} h => by
    unfold gdI tmT at h
    simp only [Bool.and_eq_true, decide_eq_true_eq] at h
    omega
  have tt : ∀ {a : Int}, tmT a = true → 0 ≤ a ∧ a ≤ 1099511627776 := fun {a} h => of_decide_eq_true h
  have e2 := id h2
  have e3 : bu.size ≤ 63 := by
    rcases goz_or h3 with h | h
    · unfold gdN at h
      simp only [Bool.and_eq_true, decide_eq_true_eq] at h
      omega
    · rw [of_decide_eq_true h]; exact Nat.zero_le _
  have e4 : ke.size ≤ 200 := by
    rcases goz_or h4 with h | h
    · unfold gdK at h
      simp only [Bool.and_eq_true, decide_eq_true_eq] at h
      omega
    · rw [of_decide_eq_true h]; exact Nat.zero_le _
  have e5 : (0 ≤ u0 ∧ u0 ≤ 15) ∧ (0 ≤ u1 ∧ u1 ≤ 1099511627776) ∧ (0 ≤ u2 ∧ u2 ≤ 1099511627776) := by
    rcases goz_or h5 with h | h
    · exact id h
    · have := of_decide_eq_true h; omega
  have e6 : ((0 ≤ b0 ∧ b0 ≤ 15) ∧ (0 ≤ b1 ∧ b1 ≤ 1099511627776) ∧ (0 ≤ b2 ∧ b2 ≤ 1099511627776)) ∧ (0 ≤ sz ∧ sz ≤ 1024) ∧ et.size ≤ 64 := by
    rcases goz_or h6 with h | h
    · simp only [Bool.and_eq_true] at h
      have h0 := h.1
      unfold gdP gdE at h0
      simp only [Bool.and_eq_true, decide_eq_true_eq] at h0
      exact ⟨id h0.1, h0.2.1, by omega⟩
    · have h0 := of_decide_eq_true h
      refine ⟨by omega, by omega, ?_⟩
      rw [h0.2.2]; exact Nat.zero_le _
  have e7 : 0 ≤ pt ∧ pt ≤ 16 := by
    rcases goz_or h7 with h | h
    · have : 1 ≤ pt ∧ pt ≤ 16 := of_decide_eq_true h
      omega
    · have : pt = 0 := of_decide_eq_true h
      omega
  have e8 : (∀ i, i < ps.length → 1 ≤ ps.getD i 0 ∧ ps.getD i 0 ≤ 16) ∧ ps.length ≤ 16 := by
    rcases goz_or h8 with h | h
    · unfold gdS at h
      simp only [Bool.and_eq_true] at h
      refine ⟨fun i hi => ⟨(rsP_at h.1 hi).1, (rsP_at h.1 hi).2.1⟩, ?_⟩
      by_cases h0 : ps.length = 0
      · omega
      · have a1 := rsP_ge h.1 (ps.length - 1) (by omega)
        have a2 := (rsP_at h.1 (i := ps.length - 1) (by omega)).2.1
        omega
    · have : ps.length = 0 := of_decide_eq_true h
      exact ⟨fun i hi => by omega, by omega⟩
  have e9 : 0 ≤ tm ∧ tm ≤ 1099511627776 := by
    rcases goz_or h9 with h | h
    · exact tt h
    · have : tm = 0 := of_decide_eq_true h
      omega
  have e10 : 0 ≤ dy ∧ dy ≤ 1099511627776 := by
    rcases goz_or h10 with h | h
    · exact tt h
    · have : dy = 0 := of_decide_eq_true h
      omega
  have em : ∀ z ∈ ps, 0 ≤ z ∧ z ≤ 16 := fun z hz => by
    obtain ⟨i, hi, rfl⟩ := List.getElem_of_mem hz
    have := e8.1 i hi
    have e : ps.getD i 0 = ps[i] := by rw [List.getD_eq_getElem?_getD, List.getElem?_eq_getElem hi]; rfl
    rw [e] at this
    omega
  have ep : (ps.map Int.toNat).map (fun y : Nat => (y : Int)) = ps := by
    rw [List.map_map]
    refine (List.map_congr_left (fun z hz => ?_)).trans (List.map_id _)
    have := (em z hz).1
    show ((z.toNat : Nat) : Int) = z
    omega
  refine ⟨⟨k.toNat, i0.toNat, i1.toNat, i2.toNat, bu, ke, u0.toNat, u1.toNat, u2.toNat, b0.toNat, b1.toNat, b2.toNat, sz.toNat, et, pt.toNat, ps.map Int.toNat, tm.toNat, dy.toNat⟩, ?_, ?_⟩
  · unfold Nm.cm
    simp only [Cm.mk.injEq, true_and]
    refine ⟨by omega, by omega, by omega, by omega, by omega, by omega, by omega, by omega, by omega, by omega, by omega, by omega, ep.symm, by omega, by omega⟩
  · refine ⟨?_, ?_, ?_, ?_, e3, e4, ?_, ?_, ?_, ?_, ?_, ?_, ?_, e6.2.2, ?_, ?_, fun z hz => ?_, ?_, ?_⟩
    all_goals first
      | (show Int.toNat _ ≤ _; omega)
      | (show (ps.map Int.toNat).length ≤ 16; rw [List.length_map]; exact e8.2)
      | (obtain ⟨u, hu, rfl⟩ := List.mem_map.1 hz; have := em u hu; omega)
end Go.Proofs.YtppibcambhmomaaDoor
