/- The calls by commands as wholes: a command's cells are an array A that reads as x. -/
import Derived.Test.YtppibcambhmomaaDoorMh
import Derived.Test.YtppibcambhmomaaDoorMEc
import Derived.Test.YtppibcambhmomaaDoorMDz
import Derived.Test.YtppibcambhmomaaDoorMCj
namespace Go.Proofs.YtppibcambhmomaaDoor
open Go.ChangeShapes Go.WideShapes Go.ChangeAt Go.RowKit
set_option maxRecDepth 20000
set_option linter.unusedVariables false
set_option linter.unusedSimpArgs false
theorem info28 {A : Array Value} (h : A.size = 18) : (Tryd.prog.info? 60).map (·.size) = some A.size := by rw [h]; kernel_rfl
theorem encX_sz {A : Array Value} {x : Cx} (h : A = (encX x).toArray) : A.size = 18 := by rw [h]; rfl
theorem encX_all {A : Array Value} {x : Cx} (h : A = (encX x).toArray) : A.all (·.oneCell') = true := by rw [h]; exact all_oneCell_toArray (encX_one _)
theorem by_len {y : Nm} (hb : Nb y) : y.by.length ≤ 2000 := by
  obtain ⟨K, I0, I1, I2, bu, ke, U0, U1, U2, B0, B1, B2, SZ, et, PT, PS, TM, DY⟩ := y
  obtain ⟨b1, b2, b3, b4, b5, b6, b7, b8, b9, b10, b11, b12, b13, b14, b15, b16, b17, b18, b19⟩ := hb
  simp only at b1 b2 b3 b4 b5 b6 b7 b8 b9 b10 b11 b12 b13 b14 b15 b16 b17 b18 b19
  have e : ∀ z : Nat, z ≤ 1099511627776 → (enc z).length ≤ 9 := fun z hz => enc_nine (by omega)
  have h1 := e K (by omega)
  have h2 := e I0 (by omega)
  have h3 := e I1 (by omega)
  have h4 := e I2 (by omega)
  have h5 := e bu.size (by omega)
  have h6 := e ke.size (by omega)
  have h7 := e U0 (by omega)
  have h8 := e U1 (by omega)
  have h9 := e U2 (by omega)
  have h10 := e B0 (by omega)
  have h11 := e B1 (by omega)
  have h12 := e B2 (by omega)
  have h13 := e SZ (by omega)
  have h14 := e et.size (by omega)
  have h15 := e PT (by omega)
  have h16 := e PS.length (by omega)
  have h17 := e TM (by omega)
  have h18 := e DY (by omega)
  have h19 := encs_le (l := PS) (fun y hy => by have := b17 y hy; omega)
  simp only [Nm.by, cmdL, List.length_append, bl_len]
  omega
section
variable {w : World} {M : Nat → Prop} {E : Nat → Addr} {x y : Cx} {A A' : Array Value} {lo lo2 : Nat}
theorem chk_no (hA : Hid (A = (encX x).toArray)) (hI : Hid (Irow w lo x.pa x.pn x.cm.ps)) (hE : Hid (Sent w M E)) (hM : M 0) (hF : Hid (frm x.cm = false)) :
    Calls Tryd.prog 54 #[.agg A] w fun e w' => e = .returned (er (E 0)) ∧ Hid (Below w.heap.size w w') := by
  obtain rfl := hA.out
  obtain ⟨⟨k, i0, i1, i2, bu, ke, u0, u1, u2, b0, b1, b2, sz, et, pt, ps, tm, dy⟩, pa, pn, pc⟩ := x
  exact check_no (hI.out.mono (Nat.zero_le _)) hE hM hF
theorem chk_yes (hA : Hid (A = (encX x).toArray)) (hI : Hid (Irow w lo x.pa x.pn x.cm.ps)) (hF : Hid (frm x.cm = true)) :
    Calls Tryd.prog 54 #[.agg A] w fun e w' => e = .returned .nilIface ∧ Hid (Below w.heap.size w w') := by
  obtain rfl := hA.out
  obtain ⟨⟨k, i0, i1, i2, bu, ke, u0, u1, u2, b0, b1, b2, sz, et, pt, ps, tm, dy⟩, pa, pn, pc⟩ := x
  exact check_ok (hI.out.mono (Nat.zero_le _)) hF
theorem putx_no (hA : Hid (A = (encX x).toArray)) (hI : Hid (Irow w lo x.pa x.pn x.cm.ps)) (hE : Hid (Sent w M E)) (hM : M 0) (hF : Hid (frm x.cm = false)) :
    Calls Tryd.prog 36 #[.agg A] w fun e w' => e = .returned (.tuple #[.slice none 0 0, er (E 0)]) ∧ Hid (Below w.heap.size w w') := by
  obtain rfl := hA.out
  obtain ⟨⟨k, i0, i1, i2, bu, ke, u0, u1, u2, b0, b1, b2, sz, et, pt, ps, tm, dy⟩, pa, pn, pc⟩ := x
  exact put_no (hI.out.mono (Nat.zero_le _)) hE hM hF
theorem inf_x (hA : Hid (A = (encX x).toArray)) (hI : Hid (Irow w lo x.pa x.pn x.cm.ps)) (hs : Hid (x.cm.bu.size ≤ 281474976710656 ∧ x.cm.ke.size ≤ 281474976710656 ∧ x.cm.et.size ≤ 281474976710656)) :
    Calls Tryd.prog 45 #[.agg A] w fun e w' => e = .returned (.bool (frm x.cm)) ∧ Hid (Below w.heap.size w w') := by
  obtain rfl := hA.out
  obtain ⟨⟨k, i0, i1, i2, bu, ke, u0, u1, u2, b0, b1, b2, sz, et, pt, ps, tm, dy⟩, pa, pn, pc⟩ := x
  exact refInForm_n (hI.out.mono (Nat.zero_le _)) hs.out.1 hs.out.2.1 hs.out.2.2
theorem same_x (hA : Hid (A = (encX x).toArray)) (hI : Hid (Irow w lo x.pa x.pn x.cm.ps)) (hA' : Hid (A' = (encX y).toArray)) (hI' : Hid (Irow w lo2 y.pa y.pn y.cm.ps)) :
    Calls Tryd.prog 44 #[.agg A, .agg A'] w fun e w' => e = .returned (.bool (decide (x.cm = y.cm))) ∧ Hid (Below w.heap.size w w') := by
  obtain rfl := hA.out
  obtain rfl := hA'.out
  exact sameCmd_n x y hI hI'
end
section
variable {w : World} {x : Cx} {A : Array Value} {lo : Nat} {y : Nm}
theorem putx_yes (hA : Hid (A = (encX x).toArray)) (hI : Hid (Irow w lo x.pa x.pn x.cm.ps)) (hy : Hid (x.cm = y.cm)) (hb : Hid (Nb y)) (hF : Hid (frm y.cm = true)) :
    Calls Tryd.prog 36 #[.agg A] w fun e w' => ∃ a n c, e = .returned (.tuple #[.slice a n c, .nilIface]) ∧ Hid (Own w' w.heap.size a n c y.by ∧ Below w.heap.size w w' ∧ n ≤ 2000) := by
  have hbl := by_len hb.out
  obtain rfl := hA.out
  obtain ⟨cm, pa, pn, pc⟩ := x
  obtain rfl : cm = y.cm := hy.out
  have hI2 := hI.out
  obtain ⟨K, I0, I1, I2, bu, ke, U0, U1, U2, B0, B1, B2, SZ, et, PT, PS, TM, DY⟩ := y
  obtain ⟨b1, b2, b3, b4, b5, b6, b7, b8, b9, b10, b11, b12, b13, b14, b15, b16, b17, b18, b19⟩ := hb.out
  simp only at b1 b2 b3 b4 b5 b6 b7 b8 b9 b10 b11 b12 b13 b14 b15 b16 b17 b18 b19
  have hl : pn = PS.length := by have := hI2.len; simpa [Nm.cm] using this
  refine (put_ok (K := K) (I0 := I0) (I1 := I1) (I2 := I2) (U0 := U0) (U1 := U1) (U2 := U2) (B0 := B0) (B1 := B1) (B2 := B2) (SZ := SZ) (PT := PT) (TM := TM) (DY := DY) (bu := bu) (ke := ke) (et := et) (PS := PS) (pa := pa) (pn := pn) (pc := pc) (hI2.mono (Nat.zero_le _)) (by omega) (by omega) (by omega) (by omega) (by omega) (by omega) (by omega) (by omega) (by omega) (by omega) (by omega) (by omega) (by omega) (by omega) (by omega) (by omega) (by omega) (by omega) (fun y hy => by have := b17 y hy; omega) hF).mono ?_
  rintro e w' ⟨a, n, c, h1, h2⟩
  exact ⟨a, n, c, h1, h2.out.1, h2.out.2, by have := h2.out.1.len; rw [this]; exact hbl⟩
theorem refputx_yes (hA : Hid (A = (encX x).toArray)) (hI : Hid (Irow w lo x.pa x.pn x.cm.ps)) (hy : Hid (x.cm = y.cm)) (hb : Hid (Nb y)) :
    Calls Tryd.prog 46 #[.agg A] w fun e w' => ∃ a n c, e = .returned (.slice a n c) ∧ Hid (Own w' w.heap.size a n c y.by ∧ Below w.heap.size w w' ∧ n ≤ 2000) := by
  have hbl := by_len hb.out
  obtain rfl := hA.out
  obtain ⟨cm, pa, pn, pc⟩ := x
  obtain rfl : cm = y.cm := hy.out
  have hI2 := hI.out
  obtain ⟨K, I0, I1, I2, bu, ke, U0, U1, U2, B0, B1, B2, SZ, et, PT, PS, TM, DY⟩ := y
  obtain ⟨b1, b2, b3, b4, b5, b6, b7, b8, b9, b10, b11, b12, b13, b14, b15, b16, b17, b18, b19⟩ := hb.out
  simp only at b1 b2 b3 b4 b5 b6 b7 b8 b9 b10 b11 b12 b13 b14 b15 b16 b17 b18 b19
  have hl : pn = PS.length := by have := hI2.len; simpa [Nm.cm] using this
  refine (refput_n (K := K) (I0 := I0) (I1 := I1) (I2 := I2) (U0 := U0) (U1 := U1) (U2 := U2) (B0 := B0) (B1 := B1) (B2 := B2) (SZ := SZ) (PT := PT) (TM := TM) (DY := DY) (bu := bu) (ke := ke) (et := et) (PS := PS) (pa := pa) (pn := pn) (pc := pc) (hI2.mono (Nat.zero_le _)) (by omega) (by omega) (by omega) (by omega) (by omega) (by omega) (by omega) (by omega) (by omega) (by omega) (by omega) (by omega) (by omega) (by omega) (by omega) (by omega) (by omega) (by omega) (fun y hy => by have := b17 y hy; omega)).mono ?_
  rintro e w' ⟨a, n, c, h1, h2⟩
  exact ⟨a, n, c, h1, h2.out.1, h2.out.2.1, by have := h2.out.1.len; rw [this]; exact hbl⟩
end
end Go.Proofs.YtppibcambhmomaaDoor
