import Derived.Test.YtppibcambhmomaaDoorPp
import Derived.Test.YtppibcambhmomaaDoorP20
import Derived.Test.YtppibcambhmomaaDoorP21
import Derived.Test.YtppibcambhmomaaDoorP22
import Derived.Test.YtppibcambhmomaaDoorP23
import Derived.Test.YtppibcambhmomaaDoorP24
import Derived.Test.YtppibcambhmomaaDoorP25
import Derived.Test.YtppibcambhmomaaDoorP26
import Derived.Test.YtppibcambhmomaaDoorP16
import Derived.Test.YtppibcambhmomaaDoorP18
import Derived.Test.YtppibcambhmomaaDoorP07
namespace Go.Proofs.YtppibcambhmomaaDoor
open Go.ChangeShapes Go.WideShapes Go.ChangeAt Go.RowKit
set_option maxRecDepth 20000
set_option linter.unusedVariables false
set_option linter.unusedSimpArgs false
set_option maxHeartbeats 4000000 in
theorem inF_11 {w : World} {i0 i1 i2 : Int} {bu ke : ByteArray} {u0 u1 u2 b0 b1 b2 sz : Int} {et : ByteArray} {pt : Int} {ps : List Int} {pa : Option Addr} {pn pc : Nat} {tm dy : Int} (hI : Hid (Irow w 0 pa pn ps)) (HG : Hid (gdI i0 i1 i2 = true)) (hbu : bu.size <= 281474976710656) (hke : ke.size <= 281474976710656) (het : et.size <= 281474976710656) :
  Calls Tryd.prog 45 #[.agg #[.int .i64 11,.int .i64 i0,.int .i64 i1,.int .i64 i2,.string bu,.string ke,.int .i64 u0,.int .i64 u1,.int .i64 u2,.int .i64 b0,.int .i64 b1,.int .i64 b2,.int .i64 sz,.string et,.int .i64 pt,.slice pa pn pc,.int .i64 tm,.int .i64 dy]] w fun e w' => e = .returned (.bool (frm ⟨11, i0, i1, i2, bu, ke, u0, u1, u2, b0, b1, b2, sz, et, pt, ps, tm, dy⟩)) /\ Hid (Below w.heap.size w w') := by
 obtain ⟨g1, Hg1⟩ := nm (w.heap.size)
 obtain ⟨w1, Hw1⟩ := nm (w.alloc (.cells #[.int .i64 11,.int .i64 i0,.int .i64 i1,.int .i64 i2,.string bu,.string ke,.int .i64 u0,.int .i64 u1,.int .i64 u2,.int .i64 b0,.int .i64 b1,.int .i64 b2,.int .i64 sz,.string et,.int .i64 pt,.slice pa pn pc,.int .i64 tm,.int .i64 dy] 60))
 have B1 := al1 Hw1
 have k1 : Hid (w1.heap[g1]? = some (.cells #[.int .i64 11,.int .i64 i0,.int .i64 i1,.int .i64 i2,.string bu,.string ke,.int .i64 u0,.int .i64 u1,.int .i64 u2,.int .i64 b0,.int .i64 b1,.int .i64 b2,.int .i64 sz,.string et,.int .i64 pt,.slice pa pn pc,.int .i64 tm,.int .i64 dy] 60 (0, 0))) := by rw [<- Hw1.out, <- Hg1.out]; exact heap_alloc_new w _
 have x1 : w1.cell? ⟨g1, 1, none⟩ = some (.int .i64 i0) := by simp [World.cell?, k1.out]
 have x2 : w1.cell? ⟨g1, 2, none⟩ = some (.int .i64 i1) := by simp [World.cell?, k1.out]
 have x3 : w1.cell? ⟨g1, 3, none⟩ = some (.int .i64 i2) := by simp [World.cell?, k1.out]
 go_enter Tryd.func45, Tryd.ntmps45
 go_upto_region 1 with (fail)
 rw [Hw1.out, Hg1.out]
 go_upto_region 3 with (go_at_call 20; refine (refGoodId_n _ _ _ _).mono ?_; rintro e w2 ⟨rfl, h2⟩; rw [HG.out])
 clear x1 x2 x3
 have hb2 := al2 h2
 have k2 := sh hb2 k1
 have x0 : w2.cell? ⟨g1, 0, none⟩ = some (.int .i64 11) := by simp [World.cell?, k2.out]
 have x1 : w2.cell? ⟨g1, 1, none⟩ = some (.int .i64 i0) := by simp [World.cell?, k2.out]
 have x2 : w2.cell? ⟨g1, 2, none⟩ = some (.int .i64 i1) := by simp [World.cell?, k2.out]
 have x3 : w2.cell? ⟨g1, 3, none⟩ = some (.int .i64 i2) := by simp [World.cell?, k2.out]
 obtain ⟨g3, Hg3⟩ := nm (w2.heap.size)
 obtain ⟨w3, Hw3⟩ := nm (w2.alloc (.cells #[.int .i64 11,.int .i64 i0,.int .i64 i1,.int .i64 i2,.string ⟨#[]⟩,.string ⟨#[]⟩,.int .i64 0,.int .i64 0,.int .i64 0,.int .i64 0,.int .i64 0,.int .i64 0,.int .i64 0,.string ⟨#[]⟩,.int .i64 0,.slice none 0 0,.int .i64 0,.int .i64 0] 60))
 have hb3 := al1 Hw3
 have HC : Hid (Tw w w3 g1 g3 #[.int .i64 11,.int .i64 i0,.int .i64 i1,.int .i64 i2,.string bu,.string ke,.int .i64 u0,.int .i64 u1,.int .i64 u2,.int .i64 b0,.int .i64 b1,.int .i64 b2,.int .i64 sz,.string et,.int .i64 pt,.slice pa pn pc,.int .i64 tm,.int .i64 dy] #[.int .i64 11,.int .i64 i0,.int .i64 i1,.int .i64 i2,.string ⟨#[]⟩,.string ⟨#[]⟩,.int .i64 0,.int .i64 0,.int .i64 0,.int .i64 0,.int .i64 0,.int .i64 0,.int .i64 0,.string ⟨#[]⟩,.int .i64 0,.slice none 0 0,.int .i64 0,.int .i64 0]) := by
  refine ⟨(hb3.out.block g1 (gl k2.out)).trans k2.out, ?_, (B1.out.trans (hb2.out.mono B1.out.size)).trans (hb3.out.mono (Nat.le_trans B1.out.size hb2.out.size))⟩
  rw [<- Hw3.out, <- Hg3.out]
  exact heap_alloc_new w2 _
 have gne : Hid (g1 ≠ g3) := by
  have h := (gl k2.out)
  rw [Hg3.out] at h
  exact Nat.ne_of_lt h
 have GB0 : Hid (w.heap.size <= g3) := by
  have h := Nat.le_trans B1.out.size hb2.out.size
  rw [Hg3.out] at h
  exact h
 go_upto_region 5 with (fail)
 rw [Hw3.out, Hg3.out]
 clear x0 x1 x2 x3 h2 hb2 hb3 k1 k2 B1 Hw1 Hg1 Hw3 Hg3
 have gB : Hid (w.heap.size <= g3) := GB0.out
 have x0 : w3.cell? ⟨g1, 0, none⟩ = some (.int .i64 11) := HC.out.c 0 _ rfl
 go_upto_region 40 with (fail)
 clear x0
 refine chain40 (fun _ _ _ d _ h => by cases d <;> exact h) HC ?_
 intro a' W' q1 q2 q3
 refine (by assumption : ∀ (a : Act) (w : World), Code.wp Tryd.prog Code.ret _ a w -> _) a' W' ?_
 go_wp2
 refine bodyPost_ret (results_tmp Tryd.results45 _ _ _) q2 ?_
 rw [q1]
 refine ⟨congrArg (fun b => Ending.returned (Value.bool b)) ?_, q3⟩
 rw [<- fr11 HG.out hI.out.len]
end Go.Proofs.YtppibcambhmomaaDoor
namespace Go.Proofs.YtppibcambhmomaaDoor
open Go.ChangeShapes Go.WideShapes Go.ChangeAt Go.RowKit
set_option linter.unusedVariables false
theorem refInForm_n {w : World} {k i0 i1 i2 : Int} {bu ke : ByteArray} {u0 u1 u2 b0 b1 b2 sz : Int} {et : ByteArray} {pt : Int} {ps : List Int} {pa : Option Addr} {pn pc : Nat} {tm dy : Int} (hI : Hid (Irow w 0 pa pn ps)) (hbu : bu.size <= 281474976710656) (hke : ke.size <= 281474976710656) (het : et.size <= 281474976710656) :
  Calls Tryd.prog 45 #[.agg #[.int .i64 k,.int .i64 i0,.int .i64 i1,.int .i64 i2,.string bu,.string ke,.int .i64 u0,.int .i64 u1,.int .i64 u2,.int .i64 b0,.int .i64 b1,.int .i64 b2,.int .i64 sz,.string et,.int .i64 pt,.slice pa pn pc,.int .i64 tm,.int .i64 dy]] w fun e w' => e = .returned (.bool (frm ⟨k, i0, i1, i2, bu, ke, u0, u1, u2, b0, b1, b2, sz, et, pt, ps, tm, dy⟩)) /\ Hid (Below w.heap.size w w') := by
 rcases Bool.eq_false_or_eq_true (gdI i0 i1 i2) with hg | hg
 . by_cases hk : k < 1 ∨ 11 < k
   . exact inF_no hI hg hbu hke het hk
   . rcases (by omega : k = 1 ∨ k = 2 ∨ k = 3 ∨ k = 4 ∨ k = 5 ∨ k = 6 ∨ k = 7 ∨ k = 8 ∨ k = 9 ∨ k = 10 ∨ k = 11) with rfl | rfl | rfl | rfl | rfl | rfl | rfl | rfl | rfl | rfl | rfl
     . exact inF_1 hI hg hbu hke het
     . exact inF_2 hI hg hbu hke het
     . exact inF_3 hI hg hbu hke het
     . exact inF_4 hI hg hbu hke het
     . exact inF_5 hI hg hbu hke het
     . exact inF_6 hI hg hbu hke het
     . exact inF_7 hI hg hbu hke het
     . exact inF_8 hI hg hbu hke het
     . exact inF_9 hI hg hbu hke het
     . exact inF_10 hI hg hbu hke het
     . exact inF_11 hI hg hbu hke het
 . exact inF_bad hg
end Go.Proofs.YtppibcambhmomaaDoor
namespace Go.Proofs.YtppibcambhmomaaDoor
open Go.ChangeShapes Go.WideShapes Go.ChangeAt Go.RowKit
set_option maxRecDepth 20000
set_option linter.unusedVariables false
set_option linter.unusedSimpArgs false
theorem encX_sz {A : Array Value} {x : Cx} (h : A = (encX x).toArray) : A.size = 18 := by rw [h]; rfl
theorem encX_all {A : Array Value} {x : Cx} (h : A = (encX x).toArray) : A.all (·.oneCell') = true := by rw [h]; exact all_oneCell_toArray (encX_one _)
theorem by_len {y : Nm} (hb : Nb y) : y.by.length <= 2000 := by
 obtain ⟨K, I0, I1, I2, bu, ke, U0, U1, U2, B0, B1, B2, SZ, et, PT, PS, TM, DY⟩ := y
 obtain ⟨b1, b2, b3, b4, b5, b6, b7, b8, b9, b10, b11, b12, b13, b14, b15, b16, b17, b18, b19⟩ := hb
 simp only at b1 b2 b3 b4 b5 b6 b7 b8 b9 b10 b11 b12 b13 b14 b15 b16 b17 b18 b19
 have e : ∀ z : Nat, z <= 1099511627776 -> (enc z).length <= 9 := fun z hz => enc_nine (by omega)
 have h1 := e K (by omega)
 have h2 := e I0 (by omega)
 have h3 := e I1 (by omega)
 have h4 := e I2 (by omega)
 have h5 := e bu.size (by omega)
 have h6 := e ke.size (by omega)
 have h7 := e U0 (by omega)
 have h8 := e U1 (by omega)
 have h9 := e U2 (by omega)
 have h10 := e B0 (by omega)
 have h11 := e B1 (by omega)
 have h12 := e B2 (by omega)
 have h13 := e SZ (by omega)
 have h14 := e et.size (by omega)
 have h15 := e PT (by omega)
 have h16 := e PS.length (by omega)
 have h17 := e TM (by omega)
 have h18 := e DY (by omega)
 have h19 := encs_le (l := PS) (fun y hy => by have := b17 y hy; omega)
 simp only [Nm.by, cmdL, List.length_append, bl_len]
 omega
section
variable {w : World} {M : Nat -> Prop} {E : Nat -> Addr} {x y : Cx} {A A' : Array Value} {lo lo2 : Nat}
theorem chk_no (hA : Hid (A = (encX x).toArray)) (hI : Hid (Irow w lo x.pa x.pn x.cm.ps)) (hE : Hid (Sent w M E)) (hM : M 0) (hF : Hid (frm x.cm = false)) :
  Calls Tryd.prog 54 #[.agg A] w fun e w' => e = .returned (er (E 0)) /\ Hid (Below w.heap.size w w') := by
 obtain rfl := hA.out
 obtain ⟨⟨k, i0, i1, i2, bu, ke, u0, u1, u2, b0, b1, b2, sz, et, pt, ps, tm, dy⟩, pa, pn, pc⟩ := x
 exact check_no (hI.out.mono (Nat.zero_le _)) hE hM hF
theorem chk_yes (hA : Hid (A = (encX x).toArray)) (hI : Hid (Irow w lo x.pa x.pn x.cm.ps)) (hF : Hid (frm x.cm = true)) :
  Calls Tryd.prog 54 #[.agg A] w fun e w' => e = .returned .nilIface /\ Hid (Below w.heap.size w w') := by
 obtain rfl := hA.out
 obtain ⟨⟨k, i0, i1, i2, bu, ke, u0, u1, u2, b0, b1, b2, sz, et, pt, ps, tm, dy⟩, pa, pn, pc⟩ := x
 exact check_ok (hI.out.mono (Nat.zero_le _)) hF
theorem putx_no (hA : Hid (A = (encX x).toArray)) (hI : Hid (Irow w lo x.pa x.pn x.cm.ps)) (hE : Hid (Sent w M E)) (hM : M 0) (hF : Hid (frm x.cm = false)) :
  Calls Tryd.prog 36 #[.agg A] w fun e w' => e = .returned (.tuple #[.slice none 0 0, er (E 0)]) /\ Hid (Below w.heap.size w w') := by
 obtain rfl := hA.out
 obtain ⟨⟨k, i0, i1, i2, bu, ke, u0, u1, u2, b0, b1, b2, sz, et, pt, ps, tm, dy⟩, pa, pn, pc⟩ := x
 exact put_no (hI.out.mono (Nat.zero_le _)) hE hM hF
theorem inf_x (hA : Hid (A = (encX x).toArray)) (hI : Hid (Irow w lo x.pa x.pn x.cm.ps)) (hs : Hid (x.cm.bu.size <= 281474976710656 /\ x.cm.ke.size <= 281474976710656 /\ x.cm.et.size <= 281474976710656)) :
  Calls Tryd.prog 45 #[.agg A] w fun e w' => e = .returned (.bool (frm x.cm)) /\ Hid (Below w.heap.size w w') := by
 obtain rfl := hA.out
 obtain ⟨⟨k, i0, i1, i2, bu, ke, u0, u1, u2, b0, b1, b2, sz, et, pt, ps, tm, dy⟩, pa, pn, pc⟩ := x
 exact refInForm_n (hI.out.mono (Nat.zero_le _)) hs.out.1 hs.out.2.1 hs.out.2.2
end
section
variable {w : World} {x : Cx} {A : Array Value} {lo : Nat} {y : Nm}
theorem putx_yes (hA : Hid (A = (encX x).toArray)) (hI : Hid (Irow w lo x.pa x.pn x.cm.ps)) (hy : Hid (x.cm = y.cm)) (hb : Hid (Nb y)) (hF : Hid (frm y.cm = true)) :
  Calls Tryd.prog 36 #[.agg A] w fun e w' => ∃ a n c, e = .returned (.tuple #[.slice a n c, .nilIface]) /\ Hid (Own w' w.heap.size a n c y.by /\ Below w.heap.size w w' /\ n <= 2000) := by
 have hbl := by_len hb.out
 obtain rfl := hA.out
 obtain ⟨cm, pa, pn, pc⟩ := x
 obtain rfl : cm = y.cm := hy.out
 have hI2 := hI.out
 obtain ⟨K, I0, I1, I2, bu, ke, U0, U1, U2, B0, B1, B2, SZ, et, PT, PS, TM, DY⟩ := y
 obtain ⟨b1, b2, b3, b4, b5, b6, b7, b8, b9, b10, b11, b12, b13, b14, b15, b16, b17, b18, b19⟩ := hb.out
 simp only at b1 b2 b3 b4 b5 b6 b7 b8 b9 b10 b11 b12 b13 b14 b15 b16 b17 b18 b19
 have hl : pn = PS.length := by have := hI2.len; simpa [Nm.cm] using this
 refine (put_ok (K := K) (I0 := I0) (I1 := I1) (I2 := I2) (U0 := U0) (U1 := U1) (U2 := U2) (B0 := B0) (B1 := B1) (B2 := B2) (SZ := SZ) (PT := PT) (TM := TM) (DY := DY) (bu := bu) (ke := ke) (et := et) (PS := PS) (pa := pa) (pn := pn) (pc := pc) (hI2.mono (Nat.zero_le _)) (by omega) (by omega) (by omega) (by omega) (by omega) (by omega) (by omega) (by omega) (by omega) (by omega) (by omega) (by omega) (by omega) (by omega) (by omega) (by omega) (by omega) (by omega) (fun y hy => by have := b17 y hy; omega) hF).mono ?_
 rintro e w' ⟨a, n, c, h1, h2⟩
 exact ⟨a, n, c, h1, h2.out.1, h2.out.2, by have := h2.out.1.len; rw [this]; exact hbl⟩
theorem refputx_yes (hA : Hid (A = (encX x).toArray)) (hI : Hid (Irow w lo x.pa x.pn x.cm.ps)) (hy : Hid (x.cm = y.cm)) (hb : Hid (Nb y)) :
  Calls Tryd.prog 46 #[.agg A] w fun e w' => ∃ a n c, e = .returned (.slice a n c) /\ Hid (Own w' w.heap.size a n c y.by /\ Below w.heap.size w w' /\ n <= 2000) := by
 have hbl := by_len hb.out
 obtain rfl := hA.out
 obtain ⟨cm, pa, pn, pc⟩ := x
 obtain rfl : cm = y.cm := hy.out
 have hI2 := hI.out
 obtain ⟨K, I0, I1, I2, bu, ke, U0, U1, U2, B0, B1, B2, SZ, et, PT, PS, TM, DY⟩ := y
 obtain ⟨b1, b2, b3, b4, b5, b6, b7, b8, b9, b10, b11, b12, b13, b14, b15, b16, b17, b18, b19⟩ := hb.out
 simp only at b1 b2 b3 b4 b5 b6 b7 b8 b9 b10 b11 b12 b13 b14 b15 b16 b17 b18 b19
 have hl : pn = PS.length := by have := hI2.len; simpa [Nm.cm] using this
 refine (refput_n (K := K) (I0 := I0) (I1 := I1) (I2 := I2) (U0 := U0) (U1 := U1) (U2 := U2) (B0 := B0) (B1 := B1) (B2 := B2) (SZ := SZ) (PT := PT) (TM := TM) (DY := DY) (bu := bu) (ke := ke) (et := et) (PS := PS) (pa := pa) (pn := pn) (pc := pc) (hI2.mono (Nat.zero_le _)) (by omega) (by omega) (by omega) (by omega) (by omega) (by omega) (by omega) (by omega) (by omega) (by omega) (by omega) (by omega) (by omega) (by omega) (by omega) (by omega) (by omega) (by omega) (fun y hy => by have := b17 y hy; omega)).mono ?_
 rintro e w' ⟨a, n, c, h1, h2⟩
 exact ⟨a, n, c, h1, h2.out.1, h2.out.2.1, by have := h2.out.1.len; rw [this]; exact hbl⟩
end
theorem getx_no {w : World} {a : Option Addr} {n c : Nat} {l : List Nat} {M : Nat -> Prop} {E : Nat -> Addr} (hS : Hid (Sln w a n l)) (hc : Hid (a = none -> c = 0)) (hE : Hid (Sent w M E)) (hM : M 1) (hr : Hid (rdG l = none)) :
  Calls Tryd.prog 97 #[.slice a n c] w fun e w' => ∃ A, e = .returned (.tuple #[.agg A, er (E 1)]) /\ Hid (A = (encX ⟨⟨0, 0, 0, 0, ⟨#[]⟩, ⟨#[]⟩, 0, 0, 0, 0, 0, 0, 0, ⟨#[]⟩, 0, [], 0, 0⟩, none, 0, 0⟩).toArray /\ Below w.heap.size w w') := by
 refine (get_n hS hc hE hM).mono ?_
 rintro e w' (⟨_, h1, h2⟩ | ⟨x, pa, pn, pc, h, _⟩)
 . exact ⟨_, h1, rfl, h2⟩
 . rw [hr.out] at h; cases h
theorem getx_yes {w : World} {a : Option Addr} {n c : Nat} {l : List Nat} {M : Nat -> Prop} {E : Nat -> Addr} {y : Nm} (hS : Hid (Sln w a n l)) (hc : Hid (a = none -> c = 0)) (hE : Hid (Sent w M E)) (hM : M 1) (hr : Hid (rdG l = some y)) :
  Calls Tryd.prog 97 #[.slice a n c] w fun e w' => ∃ A, e = .returned (.tuple #[.agg A, .nilIface]) /\ Hid (∃ x : Cx, A = (encX x).toArray /\ x.cm = y.cm /\ w'.ownsRow w.heap.size 3 1 (.slice x.pa x.pn x.pc) x.pn (x.cm.ps.map iv) /\ x.pn <= 16 /\ Below w.heap.size w w') := by
 refine (get_n hS hc hE hM).mono ?_
 rintro e w' (⟨h, _⟩ | ⟨x, pa, pn, pc, h, h1, h2, h3, h4⟩)
 . rw [hr.out] at h; cases h
 . rw [hr.out] at h
   cases h
   exact ⟨_, h1, ⟨y.cm, pa, pn, pc⟩, rfl, rfl, h3, h4, h2⟩
theorem all_take {X : List Cx} {n : Nat} (hn : n = X.length) (h : ∀ x ∈ X.take n, frm x.cm = true) : (led X).all frm = true := by
 rw [List.all_eq_true]
 intro y hy
 obtain ⟨x, hx, rfl⟩ := List.mem_map.1 hy
 exact h x (by rw [hn, List.take_length]; exact hx)
set_option maxHeartbeats 4000000 in
theorem goodLedger_n {w : World} {M : Nat -> Prop} {E : Nat -> Addr} {a : Option Addr} {n c : Nat} {X : List Cx} (hE : Hid (Sent w M E)) (hM0 : M 0) (hC : Hid (Cms w 0 a n X)) :
  Calls Tryd.prog 33 #[.slice a n c] w fun e w' => e = .returned (.bool (ldT n (led X))) /\ Hid (Below w.heap.size w w') := by
 have LX : Hid (n = X.length) := hC.out.len
 by_cases hn : 4096 < n
 . have i1 : (4096 : Int) < (n : Int) := by omega
   have EV : Hid (ldT n (led X) = false) := by
    show _ = _
    unfold ldT
    rw [decide_eq_false (by omega), Bool.false_and]
   rw [EV.out]
   clear EV LX
   go_enter Tryd.func33, Tryd.ntmps33
   go_wp2
   go_ret
   exact ⟨rfl, Below.refl _ _⟩
 have i1 : ¬ ((4096 : Int) < (n : Int)) := by omega
 have N4 : Hid (n <= 4096) := by show _ <= _; omega
 clear hn
 obtain ⟨v, Hv⟩ := nm (ldT n (led X))
 rw [Hv.out]
 have VT : Hid ((∀ x ∈ X.take n, frm x.cm = true) -> v = true) := fun h => by
  rw [<- Hv.out]
  unfold ldT
  rw [all_take LX.out h, decide_eq_true N4.out]
  rfl
 have VF : Hid (∀ x ∈ X, frm x.cm = false -> v = false) := fun x hx h => by
  rw [<- Hv.out]
  unfold ldT
  have h2 : (led X).all frm = false := by
   rw [List.all_eq_false]
   exact ⟨x.cm, List.mem_map.2 ⟨x, hx, rfl⟩, by rw [h]; decide⟩
  rw [h2, Bool.and_false]
 clear Hv
 have NN : n <= 4096 := N4.out
 go_enter Tryd.func33, Tryd.ntmps33
 go_wp2
 go_loopw [10] (fun ti wr => ∃ i : Nat, i <= n /\ ti = .int .i64 (i : Int) /\ Hid (Below w.heap.size w wr) /\ Hid (∀ x ∈ X.take i, frm x.cm = true)) (fun ti _ => n - (intOf ti).toNat)
 case atStart => exact ⟨0, by omega, rfl, Below.refl _ _, (fun x hx => by simp at hx)⟩
 case round =>
  obtain ⟨i, hi, rfl, S, HY⟩ := hrel
  by_cases hlt : i < n
  . have i2 : (i : Int) < (n : Int) := by omega
    have CR : Hid (Cms wr 0 a n X) := hC.out.below S.out
    have iX : i < X.length := by have := LX.out; omega
    obtain ⟨b, o, rfl, R1⟩ := CR.out.at_ iX
    obtain ⟨x, Hx⟩ := nm (X[i])
    have MX : x ∈ X := by rw [<- Hx.out]; exact List.getElem_mem iX
    rw [Hx.out] at R1
    obtain ⟨A, HA⟩ : ∃ A, Hid (A = (encX x).toArray) := ⟨_, rfl⟩
    have a18 : A.size = 18 := encX_sz HA.out
    have RA : wr.rangeAt b (o + i * 18) A.toList := by rw [HA.out]; exact R1
    have PX : Hid (Irow wr 0 x.pa x.pn x.cm.ps) := (CR.out.ps x MX).1
    have TK : Hid (X.take (i + 1) = X.take i ++ [x]) := by
     show _ = _
     rw [List.take_succ_eq_append_getElem iX, Hx.out]
    have HMX : Hid (x ∈ X) := MX
    clear R1 MX
    obtain ⟨g6, Hg6⟩ := nm (wr.heap.size)
    obtain ⟨w6, Hw6⟩ := nm ((wr.alloc (.cells #[.int .i64 0,.int .i64 0,.int .i64 0,.int .i64 0,.string ⟨#[]⟩,.string ⟨#[]⟩,.int .i64 0,.int .i64 0,.int .i64 0,.int .i64 0,.int .i64 0,.int .i64 0,.int .i64 0,.string ⟨#[]⟩,.int .i64 0,.slice none 0 0,.int .i64 0,.int .i64 0] 60)).setRow wr.heap.size A)
    have b6 : Hid (Below wr.heap.size wr w6) := by rw [<- Hw6.out]; exact below_setRow (alloc1 wr _) (Nat.le_refl _) A
    have k6 : Hid (w6.heap[g6]? = some (.cells A 60 (0, 0))) := by rw [<- Hw6.out, <- Hg6.out]; exact setRow_heap _ _ _ _ _ _ (heap_alloc_new wr _)
    have P6 : Hid (Irow w6 0 x.pa x.pn x.cm.ps) := PX.out.below b6.out
    have S6 := bt S b6
    have E6 : Hid (Sent w6 M E) := hE.out.below S6.out
    go_upto_region 6 with first
     | (refine wpList_load_mid (by rfl) 60 (.tmp 12) (by rfl) b (o + i * 18) (by rfl) _ _ RA Tryd.underlying60 rfl (by rw [Array.length_toList]; exact info28 a18) ?_)
     | (refine wpList_store_row (by rfl) 60 (.tmp 4) (.tmp 13) (by rfl) wr.heap.size A (by rfl) (by rfl) 60 _ (heap_alloc_new wr _) (info28 a18) a18.symm (encX_all HA.out) ?_)
    rw [Hw6.out, Hg6.out]
    try simp only [Act.put]
    clear Hw6 Hg6 RA PX CR
    rcases Bool.eq_false_or_eq_true (frm x.cm) with hf | hf
    . have HF : Hid (frm x.cm = true) := hf
      clear hf
      go_wp2_with first
       | (refine wpList_load_row (by rfl) 60 (.tmp 4) (by rfl) g6 (by rfl) 60 A (0, 0) _ k6.out Tryd.underlying60 rfl (info28 a18) ?_)
       | (go_at_call 54; refine (chk_yes HA P6 HF).mono ?_; rintro e w7 ⟨rfl, h7⟩)
      go_roundw
      case rel =>
       refine ⟨i + 1, by omega, by go_num, S6.out.trans (h7.out.mono S6.out.size), (fun z hz => ?_)⟩
       rw [TK.out] at hz
       rcases List.mem_append.1 hz with h | h
       . exact HY.out z h
       . obtain rfl := List.mem_singleton.1 h
         exact HF.out
      case measure => simp [intOf]; omega
    . have HF : Hid (frm x.cm = false) := hf
      clear hf
      go_wp2_with first
       | (refine wpList_load_row (by rfl) 60 (.tmp 4) (by rfl) g6 (by rfl) 60 A (0, 0) _ k6.out Tryd.underlying60 rfl (info28 a18) ?_)
       | (go_at_call 54; refine (chk_no HA P6 E6 hM0 HF).mono ?_; rintro e w7 ⟨rfl, h7⟩)
      go_ret
      exact ⟨by rw [VF.out x HMX.out HF.out]; first | done | rfl, S6.out.trans (h7.out.mono S6.out.size)⟩
  . obtain rfl : i = n := by omega
    have VV : Hid (v = true) := VT.out HY.out
    clear hlt
    go_wp2
    go_ret
    exact ⟨by rw [VV.out]; first | done | rfl, S.out⟩
end Go.Proofs.YtppibcambhmomaaDoor
