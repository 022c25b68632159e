import Derived.Test.YtoegfckafnlknaaDoorMFk
import Derived.Test.YtoegfckafnlknaaDoorMEc
import Derived.Test.YtoegfckafnlknaaDoorMDz
import Derived.Test.YtoegfckafnlknaaDoorMCj
/- Ga -/
/- The calls by commands as wholes: a command's cells are an array A that reads as x. -/
namespace Go.Proofs.YtoegfckafnlknaaDoor
open Go.ChangeShapes Go.WideShapes Go.ChangeAt Go.RowKit
set_option maxRecDepth 20000
set_option linter.unusedVariables false
set_option linter.unusedSimpArgs false
theorem encX_sz {A : Array Value} {x : Cx} (h : A = (encX x).toArray) : A.size = 18 := by rw [h]; rfl
theorem encX_all {A : Array Value} {x : Cx} (h : A = (encX x).toArray) : A.all (·.oneCell') = true := by rw [h]; exact all_oneCell_toArray (encX_one _)
theorem by_len {y : Nm} (hb : Nb y) : y.by.length ≤ 2000 := by
  obtain ⟨K, I0, I1, I2, bu, ke, U0, U1, U2, B0, B1, B2, SZ, et, PT, PS, TM, DY⟩ := y
  obtain ⟨b1, b2, b3, b4, b5, b6, b7, b8, b9, b10, b11, b12, b13, b14, b15, b16, b17, b18, b19⟩ := hb
  simp only at b1 b2 b3 b4 b5 b6 b7 b8 b9 b10 b11 b12 b13 b14 b15 b16 b17 b18 b19
  have e : ∀ z : Nat, z ≤ 1099511627776 → (enc z).length ≤ 9 := fun z hz => enc_nine (by omega)
  have h1 := e K (by omega)
  have h2 := e I0 (by omega)
  have h3 := e I1 (by omega)
  have h4 := e I2 (by omega)
  have h5 := e bu.size (by omega)
  have h6 := e ke.size (by omega)
  have h7 := e U0 (by omega)
  have h8 := e U1 (by omega)
  have h9 := e U2 (by omega)
  have h10 := e B0 (by omega)
  have h11 := e B1 (by omega)
  have h12 := e B2 (by omega)
  have h13 := e SZ (by omega)
  have h14 := e et.size (by omega)
  have h15 := e PT (by omega)
  have h16 := e PS.length (by omega)
  have h17 := e TM (by omega)
  have h18 := e DY (by omega)
  have h19 := encs_le (l := PS) (fun y hy => by have := b17 y hy; omega)
  simp only [Nm.by, cmdL, List.length_append, bl_len]
  omega
section
variable {w : World} {M : Nat → Prop} {E : Nat → Addr} {x y : Cx} {A A' : Array Value} {lo lo2 : Nat}
theorem putx_no (hA : Hid (A = (encX x).toArray)) (hI : Hid (Irow w lo x.pa x.pn x.cm.ps)) (hE : Hid (Sent w M E)) (hM : M 0) (hF : Hid (frm x.cm = false)) :
    Calls Tryd.prog 12 #[.agg A] w fun e w' => e = .returned (.tuple #[.slice none 0 0, er (E 0)]) ∧ Hid (Below w.heap.size w w') := by
  obtain rfl := hA.out
  obtain ⟨⟨k, i0, i1, i2, bu, ke, u0, u1, u2, b0, b1, b2, sz, et, pt, ps, tm, dy⟩, pa, pn, pc⟩ := x
  exact put_no (hI.out.mono (Nat.zero_le _)) hE hM hF
theorem inf_x (hA : Hid (A = (encX x).toArray)) (hI : Hid (Irow w lo x.pa x.pn x.cm.ps)) (hs : Hid (x.cm.bu.size ≤ 281474976710656 ∧ x.cm.ke.size ≤ 281474976710656 ∧ x.cm.et.size ≤ 281474976710656)) :
    Calls Tryd.prog 14 #[.agg A] w fun e w' => e = .returned (.bool (frm x.cm)) ∧ Hid (Below w.heap.size w w') := by
  obtain rfl := hA.out
  obtain ⟨⟨k, i0, i1, i2, bu, ke, u0, u1, u2, b0, b1, b2, sz, et, pt, ps, tm, dy⟩, pa, pn, pc⟩ := x
  exact refInForm_n (hI.out.mono (Nat.zero_le _)) hs.out.1 hs.out.2.1 hs.out.2.2
end
section
variable {w : World} {x : Cx} {A : Array Value} {lo : Nat} {y : Nm}
theorem putx_yes (hA : Hid (A = (encX x).toArray)) (hI : Hid (Irow w lo x.pa x.pn x.cm.ps)) (hy : Hid (x.cm = y.cm)) (hb : Hid (Nb y)) (hF : Hid (frm y.cm = true)) :
    Calls Tryd.prog 12 #[.agg A] w fun e w' => ∃ a n c, e = .returned (.tuple #[.slice a n c, .nilIface]) ∧ Hid (Own w' w.heap.size a n c y.by ∧ Below w.heap.size w w' ∧ n ≤ 2000) := by
  have hbl := by_len hb.out
  obtain rfl := hA.out
  obtain ⟨cm, pa, pn, pc⟩ := x
  obtain rfl : cm = y.cm := hy.out
  have hI2 := hI.out
  obtain ⟨K, I0, I1, I2, bu, ke, U0, U1, U2, B0, B1, B2, SZ, et, PT, PS, TM, DY⟩ := y
  obtain ⟨b1, b2, b3, b4, b5, b6, b7, b8, b9, b10, b11, b12, b13, b14, b15, b16, b17, b18, b19⟩ := hb.out
  simp only at b1 b2 b3 b4 b5 b6 b7 b8 b9 b10 b11 b12 b13 b14 b15 b16 b17 b18 b19
  have hl : pn = PS.length := by have := hI2.len; simpa [Nm.cm] using this
  refine (put_ok (K := K) (I0 := I0) (I1 := I1) (I2 := I2) (U0 := U0) (U1 := U1) (U2 := U2) (B0 := B0) (B1 := B1) (B2 := B2) (SZ := SZ) (PT := PT) (TM := TM) (DY := DY) (bu := bu) (ke := ke) (et := et) (PS := PS) (pa := pa) (pn := pn) (pc := pc) (hI2.mono (Nat.zero_le _)) (by omega) (by omega) (by omega) (by omega) (by omega) (by omega) (by omega) (by omega) (by omega) (by omega) (by omega) (by omega) (by omega) (by omega) (by omega) (by omega) (by omega) (by omega) (fun y hy => by have := b17 y hy; omega) hF).mono ?_
  rintro e w' ⟨a, n, c, h1, h2⟩
  exact ⟨a, n, c, h1, h2.out.1, h2.out.2, by have := h2.out.1.len; rw [this]; exact hbl⟩
end
/- Get, by whether it is taken -/
theorem getx_no {w : World} {a : Option Addr} {n c : Nat} {l : List Nat} {M : Nat → Prop} {E : Nat → Addr} (hS : Hid (Sln w a n l)) (hc : Hid (a = none → c = 0)) (hE : Hid (Sent w M E)) (hM : M 1) (hr : Hid (rdG l = none)) :
    Calls Tryd.prog 15 #[.slice a n c] w fun e w' => ∃ A, e = .returned (.tuple #[.agg A, er (E 1)]) ∧ Hid (A = (encX ⟨⟨0, 0, 0, 0, ⟨#[]⟩, ⟨#[]⟩, 0, 0, 0, 0, 0, 0, 0, ⟨#[]⟩, 0, [], 0, 0⟩, none, 0, 0⟩).toArray ∧ Below w.heap.size w w') := by
  refine (get_n hS hc hE hM).mono ?_
  rintro e w' (⟨_, h1, h2⟩ | ⟨x, pa, pn, pc, h, _⟩)
  · exact ⟨_, h1, rfl, h2⟩
  · rw [hr.out] at h; cases h
theorem getx_yes {w : World} {a : Option Addr} {n c : Nat} {l : List Nat} {M : Nat → Prop} {E : Nat → Addr} {y : Nm} (hS : Hid (Sln w a n l)) (hc : Hid (a = none → c = 0)) (hE : Hid (Sent w M E)) (hM : M 1) (hr : Hid (rdG l = some y)) :
    Calls Tryd.prog 15 #[.slice a n c] w fun e w' => ∃ A, e = .returned (.tuple #[.agg A, .nilIface]) ∧ Hid (∃ x : Cx, A = (encX x).toArray ∧ x.cm = y.cm ∧ w'.ownsRow w.heap.size 3 1 (.slice x.pa x.pn x.pc) x.pn (x.cm.ps.map iv) ∧ x.pn ≤ 16 ∧ Below w.heap.size w w') := by
  refine (get_n hS hc hE hM).mono ?_
  rintro e w' (⟨h, _⟩ | ⟨x, pa, pn, pc, h, h1, h2, h3, h4⟩)
  · rw [hr.out] at h; cases h
  · rw [hr.out] at h
    cases h
    exact ⟨_, h1, ⟨y.cm, pa, pn, pc⟩, rfl, rfl, h3, h4, h2⟩
end Go.Proofs.YtoegfckafnlknaaDoor
