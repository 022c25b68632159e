/- What a command in form is made of. -/
import Derived.Test.YtoegfckafnlknaaDoorCf
import Derived.Test.YtoegfckafnlknaaDoorCh
namespace Go.Proofs.YtoegfckafnlknaaDoor
open Go.ChangeShapes Go.WideShapes Go.ChangeAt Go.RowKit
set_option maxRecDepth 20000
set_option linter.unusedVariables false
set_option linter.unusedSimpArgs false
/- a command of naturals -/
structure Nm where
  K : Nat
  I0 : Nat
  I1 : Nat
  I2 : Nat
  bu : ByteArray
  ke : ByteArray
  U0 : Nat
  U1 : Nat
  U2 : Nat
  B0 : Nat
  B1 : Nat
  B2 : Nat
  SZ : Nat
  et : ByteArray
  PT : Nat
  PS : List Nat
  TM : Nat
  DY : Nat
def Nm.cm (x : Nm) : Cm := ⟨x.K, x.I0, x.I1, x.I2, x.bu, x.ke, x.U0, x.U1, x.U2, x.B0, x.B1, x.B2, x.SZ, x.et, x.PT, x.PS.map fun y : Nat => (y : Int), x.TM, x.DY⟩
def Nm.by (x : Nm) : List Nat := cmdL x.K x.I0 x.I1 x.I2 x.bu x.ke x.U0 x.U1 x.U2 x.B0 x.B1 x.B2 x.SZ x.et x.PT x.PS x.TM x.DY
structure Nb (x : Nm) : Prop where
  K : x.K ≤ 11
  I0 : x.I0 ≤ 15
  I1 : x.I1 ≤ 1099511627776
  I2 : x.I2 ≤ 1099511627776
  bu : x.bu.size ≤ 63
  ke : x.ke.size ≤ 200
  U0 : x.U0 ≤ 15
  U1 : x.U1 ≤ 1099511627776
  U2 : x.U2 ≤ 1099511627776
  B0 : x.B0 ≤ 15
  B1 : x.B1 ≤ 1099511627776
  B2 : x.B2 ≤ 1099511627776
  SZ : x.SZ ≤ 1024
  et : x.et.size ≤ 64
  PT : x.PT ≤ 16
  pl : x.PS.length ≤ 16
  PS : ∀ y ∈ x.PS, y ≤ 16
  TM : x.TM ≤ 1099511627776
  DY : x.DY ≤ 1099511627776
theorem goz_or {h g z : Bool} (e : goz h g z = true) : g = true ∨ z = true := by
  cases h
  · exact .inr e
  · exact .inl e
theorem rsP_at {l : List Int} {n : Nat} (h : rsP l n = true) {i : Nat} (hi : i < n) : 1 ≤ l.getD i 0 ∧ l.getD i 0 ≤ 16 ∧ lst l i < l.getD i 0 := by
  have := List.all_eq_true.1 h i (List.mem_range.2 hi)
  simp only [Bool.and_eq_true, ptP, decide_eq_true_eq] at this
  exact ⟨this.1.1, this.1.2, this.2⟩
theorem rsP_ge {l : List Int} {n : Nat} (h : rsP l n = true) : ∀ i, i < n → (i : Int) + 1 ≤ l.getD i 0 := by
  intro i
  induction i with
  | zero => intro hi; have := (rsP_at h hi).1; omega
  | succ i ih =>
    intro hi
    have h1 := ih (by omega)
    have h2 := (rsP_at h hi).2.2
    have e : lst l (i + 1) = l.getD i 0 := rfl
    rw [e] at h2
    omega
theorem frm_nat {x : Cm} (h : frm x = true) : ∃ y : Nm, x = y.cm ∧ Nb y := by
  obtain ⟨k, i0, i1, i2, bu, ke, u0, u1, u2, b0, b1, b2, sz, et, pt, ps, tm, dy⟩ := x
  unfold frm at h
  simp only [Bool.and_eq_true] at h
  obtain ⟨h1, h2, h3, h4, h5, h6, h7, h8, h9, h10⟩ := h
  have k1 : 1 ≤ k ∧ k ≤ 11 := of_decide_eq_true h1
  have id : ∀ {a b c : Int}, gdI a b c = true → (0 ≤ a ∧ a ≤ 15) ∧ (0 ≤ b ∧ b ≤ 1099511627776) ∧ (0 ≤ c ∧ c ≤ 1099511627776) := fun {a b c} h => by
    unfold gdI tmT at h
    simp only [Bool.and_eq_true, decide_eq_true_eq] at h
    omega
  have tt : ∀ {a : Int}, tmT a = true → 0 ≤ a ∧ a ≤ 1099511627776 := fun {a} h => of_decide_eq_true h
  have e2 := id h2
  have e3 : bu.size ≤ 63 := by
    rcases goz_or h3 with h | h
    · unfold gdN at h
      simp only [Bool.and_eq_true, decide_eq_true_eq] at h
      omega
    · rw [of_decide_eq_true h]; exact Nat.zero_le _
  have e4 : ke.size ≤ 200 := by
    rcases goz_or h4 with h | h
    · unfold gdK at h
      simp only [Bool.and_eq_true, decide_eq_true_eq] at h
      omega
    · rw [of_decide_eq_true h]; exact Nat.zero_le _
  have e5 : (0 ≤ u0 ∧ u0 ≤ 15) ∧ (0 ≤ u1 ∧ u1 ≤ 1099511627776) ∧ (0 ≤ u2 ∧ u2 ≤ 1099511627776) := by
    rcases goz_or h5 with h | h
    · exact id h
    · have := of_decide_eq_true h; omega
  have e6 : ((0 ≤ b0 ∧ b0 ≤ 15) ∧ (0 ≤ b1 ∧ b1 ≤ 1099511627776) ∧ (0 ≤ b2 ∧ b2 ≤ 1099511627776)) ∧ (0 ≤ sz ∧ sz ≤ 1024) ∧ et.size ≤ 64 := by
    rcases goz_or h6 with h | h
    · simp only [Bool.and_eq_true] at h
      have h0 := h.1
      unfold gdP gdE at h0
      simp only [Bool.and_eq_true, decide_eq_true_eq] at h0
      exact ⟨id h0.1, h0.2.1, by omega⟩
    · have h0 := of_decide_eq_true h
      refine ⟨by omega, by omega, ?_⟩
      rw [h0.2.2]; exact Nat.zero_le _
  have e7 : 0 ≤ pt ∧ pt ≤ 16 := by
    rcases goz_or h7 with h | h
    · have : 1 ≤ pt ∧ pt ≤ 16 := of_decide_eq_true h
      omega
    · have : pt = 0 := of_decide_eq_true h
      omega
  have e8 : (∀ i, i < ps.length → 1 ≤ ps.getD i 0 ∧ ps.getD i 0 ≤ 16) ∧ ps.length ≤ 16 := by
    rcases goz_or h8 with h | h
    · unfold gdS at h
      simp only [Bool.and_eq_true] at h
      refine ⟨fun i hi => ⟨(rsP_at h.1 hi).1, (rsP_at h.1 hi).2.1⟩, ?_⟩
      by_cases h0 : ps.length = 0
      · omega
      · have a1 := rsP_ge h.1 (ps.length - 1) (by omega)
        have a2 := (rsP_at h.1 (i := ps.length - 1) (by omega)).2.1
        omega
    · have : ps.length = 0 := of_decide_eq_true h
      exact ⟨fun i hi => by omega, by omega⟩
  have e9 : 0 ≤ tm ∧ tm ≤ 1099511627776 := by
    rcases goz_or h9 with h | h
    · exact tt h
    · have : tm = 0 := of_decide_eq_true h
      omega
  have e10 : 0 ≤ dy ∧ dy ≤ 1099511627776 := by
    rcases goz_or h10 with h | h
    · exact tt h
    · have : dy = 0 := of_decide_eq_true h
      omega
  have em : ∀ z ∈ ps, 0 ≤ z ∧ z ≤ 16 := fun z hz => by
    obtain ⟨i, hi, rfl⟩ := List.getElem_of_mem hz
    have := e8.1 i hi
    have e : ps.getD i 0 = ps[i] := by rw [List.getD_eq_getElem?_getD, List.getElem?_eq_getElem hi]; rfl
    rw [e] at this
    omega
  have ep : (ps.map Int.toNat).map (fun y : Nat => (y : Int)) = ps := by
    rw [List.map_map]
    refine (List.map_congr_left (fun z hz => ?_)).trans (List.map_id _)
    have := (em z hz).1
    show ((z.toNat : Nat) : Int) = z
    omega
  refine ⟨⟨k.toNat, i0.toNat, i1.toNat, i2.toNat, bu, ke, u0.toNat, u1.toNat, u2.toNat, b0.toNat, b1.toNat, b2.toNat, sz.toNat, et, pt.toNat, ps.map Int.toNat, tm.toNat, dy.toNat⟩, ?_, ?_⟩
  · unfold Nm.cm
    simp only [Cm.mk.injEq, true_and]
    refine ⟨by omega, by omega, by omega, by omega, by omega, by omega, by omega, by omega, by omega, by omega, by omega, by omega, ep.symm, by omega, by omega⟩
  · refine ⟨?_, ?_, ?_, ?_, e3, e4, ?_, ?_, ?_, ?_, ?_, ?_, ?_, e6.2.2, ?_, ?_, fun z hz => ?_, ?_, ?_⟩
    all_goals first
      | (show Int.toNat _ ≤ _; omega)
      | (show (ps.map Int.toNat).length ≤ 16; rw [List.length_map]; exact e8.2)
      | (obtain ⟨u, hu, rfl⟩ := List.mem_map.1 hz; have := em u hu; omega)
end Go.Proofs.YtoegfckafnlknaaDoor
