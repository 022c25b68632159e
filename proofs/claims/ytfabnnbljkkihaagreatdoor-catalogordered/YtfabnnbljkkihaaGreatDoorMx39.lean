import Derived.Test.YtfabnnbljkkihaaGreatDoorMxp
import Derived.Test.YtfabnnbljkkihaaGreatDoorMx32
import Derived.Test.YtfabnnbljkkihaaGreatDoorMx33
import Derived.Test.YtfabnnbljkkihaaGreatDoorMx34
import Derived.Test.YtfabnnbljkkihaaGreatDoorMx35
import Derived.Test.YtfabnnbljkkihaaGreatDoorMx36
import Derived.Test.YtfabnnbljkkihaaGreatDoorMx37
import Derived.Test.YtfabnnbljkkihaaGreatDoorMx38
import Derived.Test.YtfabnnbljkkihaaGreatDoorMx14
namespace Go.Proofs.YtfabnnbljkkihaaGreatDoor.Fo
open Go.ChangeShapes Go.WideShapes Go.ChangeAt Go.RowKit
set_option maxRecDepth 20000
set_option linter.unusedVariables false
set_option linter.unusedSimpArgs false
set_option maxHeartbeats 4000000 in
theorem inF_11 {w : World} {i0 i1 i2 : Int} {bu ke : ByteArray} {u0 u1 u2 b0 b1 b2 sz : Int} {et : ByteArray} {pt : Int} {ps : List Int} {pa : Option Addr} {pn pc : Nat} {tm dy : Int} (hI : Hid (Irow w 0 pa pn ps)) (HG : Hid (gdI i0 i1 i2 = true)) (hbu : bu.size <= 281474976710656) (hke : ke.size <= 281474976710656) (het : et.size <= 281474976710656) :
  Calls Tryz.prog 24 #[.agg #[.int .i64 11,.int .i64 i0,.int .i64 i1,.int .i64 i2,.string bu,.string ke,.int .i64 u0,.int .i64 u1,.int .i64 u2,.int .i64 b0,.int .i64 b1,.int .i64 b2,.int .i64 sz,.string et,.int .i64 pt,.slice pa pn pc,.int .i64 tm,.int .i64 dy]] w fun e w' => e = .returned (.bool (frm ⟨11, i0, i1, i2, bu, ke, u0, u1, u2, b0, b1, b2, sz, et, pt, ps, tm, dy⟩)) /\ Hid (Below w.heap.size w w') := by
 obtain ⟨g1, Hg1⟩ := nm (w.heap.size)
 obtain ⟨w1, Hw1⟩ := nm (w.alloc (.cells #[.int .i64 11,.int .i64 i0,.int .i64 i1,.int .i64 i2,.string bu,.string ke,.int .i64 u0,.int .i64 u1,.int .i64 u2,.int .i64 b0,.int .i64 b1,.int .i64 b2,.int .i64 sz,.string et,.int .i64 pt,.slice pa pn pc,.int .i64 tm,.int .i64 dy] 29))
 have B1 : Hid (Below w.heap.size w w1) := by rw [<- Hw1.out]; exact alloc1 w _
 have k1 : Hid (w1.heap[g1]? = some (.cells #[.int .i64 11,.int .i64 i0,.int .i64 i1,.int .i64 i2,.string bu,.string ke,.int .i64 u0,.int .i64 u1,.int .i64 u2,.int .i64 b0,.int .i64 b1,.int .i64 b2,.int .i64 sz,.string et,.int .i64 pt,.slice pa pn pc,.int .i64 tm,.int .i64 dy] 29 (0, 0))) := by rw [<- Hw1.out, <- Hg1.out]; exact heap_alloc_new w _
 have x1 : w1.cell? ⟨g1, 1, none⟩ = some (.int .i64 i0) := by simp [World.cell?, k1.out]
 have x2 : w1.cell? ⟨g1, 2, none⟩ = some (.int .i64 i1) := by simp [World.cell?, k1.out]
 have x3 : w1.cell? ⟨g1, 3, none⟩ = some (.int .i64 i2) := by simp [World.cell?, k1.out]
 go_enter Tryz.func24, Tryz.ntmps24
 go_upto_region 1 with (fail)
 rw [Hw1.out, Hg1.out]
 go_upto_region 3 with (go_at_call 41; refine (refGoodId_n _ _ _ _).mono ?_; rintro e w2 ⟨rfl, h2⟩; rw [HG.out])
 clear x1 x2 x3
 have hb2 : Hid (Below w1.heap.size w1 w2) := by rw [h2.out]; exact alloc1 _ _
 have k2 := sh hb2 k1
 have x0 : w2.cell? ⟨g1, 0, none⟩ = some (.int .i64 11) := by simp [World.cell?, k2.out]
 have x1 : w2.cell? ⟨g1, 1, none⟩ = some (.int .i64 i0) := by simp [World.cell?, k2.out]
 have x2 : w2.cell? ⟨g1, 2, none⟩ = some (.int .i64 i1) := by simp [World.cell?, k2.out]
 have x3 : w2.cell? ⟨g1, 3, none⟩ = some (.int .i64 i2) := by simp [World.cell?, k2.out]
 obtain ⟨g3, Hg3⟩ := nm (w2.heap.size)
 obtain ⟨w3, Hw3⟩ := nm (w2.alloc (.cells #[.int .i64 11,.int .i64 i0,.int .i64 i1,.int .i64 i2,.string ⟨#[]⟩,.string ⟨#[]⟩,.int .i64 0,.int .i64 0,.int .i64 0,.int .i64 0,.int .i64 0,.int .i64 0,.int .i64 0,.string ⟨#[]⟩,.int .i64 0,.slice none 0 0,.int .i64 0,.int .i64 0] 29))
 have hb3 : Hid (Below w2.heap.size w2 w3) := by rw [<- Hw3.out]; exact alloc1 _ _
 have HC : Hid (Tw w w3 g1 g3 #[.int .i64 11,.int .i64 i0,.int .i64 i1,.int .i64 i2,.string bu,.string ke,.int .i64 u0,.int .i64 u1,.int .i64 u2,.int .i64 b0,.int .i64 b1,.int .i64 b2,.int .i64 sz,.string et,.int .i64 pt,.slice pa pn pc,.int .i64 tm,.int .i64 dy] #[.int .i64 11,.int .i64 i0,.int .i64 i1,.int .i64 i2,.string ⟨#[]⟩,.string ⟨#[]⟩,.int .i64 0,.int .i64 0,.int .i64 0,.int .i64 0,.int .i64 0,.int .i64 0,.int .i64 0,.string ⟨#[]⟩,.int .i64 0,.slice none 0 0,.int .i64 0,.int .i64 0]) := by
  refine ⟨(hb3.out.block g1 (gl k2.out)).trans k2.out, ?_, (B1.out.trans (hb2.out.mono B1.out.size)).trans (hb3.out.mono (Nat.le_trans B1.out.size hb2.out.size))⟩
  rw [<- Hw3.out, <- Hg3.out]
  exact heap_alloc_new w2 _
 have gne : Hid (g1 ≠ g3) := by
  have h := (gl k2.out)
  rw [Hg3.out] at h
  exact Nat.ne_of_lt h
 have GB0 : Hid (w.heap.size <= g3) := by
  have h := Nat.le_trans B1.out.size hb2.out.size
  rw [Hg3.out] at h
  exact h
 go_upto_region 5 with (fail)
 rw [Hw3.out, Hg3.out]
 clear x0 x1 x2 x3 h2 hb2 hb3 k1 k2 B1 Hw1 Hg1 Hw3 Hg3
 have gB : Hid (w.heap.size <= g3) := GB0.out
 have x0 : w3.cell? ⟨g1, 0, none⟩ = some (.int .i64 11) := HC.out.c 0 _ rfl
 go_upto_region 40 with (fail)
 clear x0
 refine chain40 (fun _ _ _ d _ h => by cases d <;> exact h) HC ?_
 intro a' W' q1 q2 q3
 refine (by assumption : ∀ (a : Act) (w : World), Code.wp Tryz.prog Code.ret _ a w -> _) a' W' ?_
 go_wp2
 refine bodyPost_ret (results_tmp Tryz.results24 _ _ _) q2 ?_
 rw [q1]
 refine ⟨congrArg (fun b => Ending.returned (Value.bool b)) ?_, q3⟩
 rw [<- fr11 HG.out hI.out.len]
end Go.Proofs.YtfabnnbljkkihaaGreatDoor.Fo
namespace Go.Proofs.YtfabnnbljkkihaaGreatDoor.Fo
open Go.ChangeShapes Go.WideShapes Go.ChangeAt Go.RowKit
set_option linter.unusedVariables false
theorem refInForm_n {w : World} {k i0 i1 i2 : Int} {bu ke : ByteArray} {u0 u1 u2 b0 b1 b2 sz : Int} {et : ByteArray} {pt : Int} {ps : List Int} {pa : Option Addr} {pn pc : Nat} {tm dy : Int} (hI : Hid (Irow w 0 pa pn ps)) (hbu : bu.size <= 281474976710656) (hke : ke.size <= 281474976710656) (het : et.size <= 281474976710656) :
  Calls Tryz.prog 24 #[.agg #[.int .i64 k,.int .i64 i0,.int .i64 i1,.int .i64 i2,.string bu,.string ke,.int .i64 u0,.int .i64 u1,.int .i64 u2,.int .i64 b0,.int .i64 b1,.int .i64 b2,.int .i64 sz,.string et,.int .i64 pt,.slice pa pn pc,.int .i64 tm,.int .i64 dy]] w fun e w' => e = .returned (.bool (frm ⟨k, i0, i1, i2, bu, ke, u0, u1, u2, b0, b1, b2, sz, et, pt, ps, tm, dy⟩)) /\ Hid (Below w.heap.size w w') := by
 rcases Bool.eq_false_or_eq_true (gdI i0 i1 i2) with hg | hg
 . by_cases hk : k < 1 ∨ 11 < k
   . exact inF_no hI hg hbu hke het hk
   . rcases (by omega : k = 1 ∨ k = 2 ∨ k = 3 ∨ k = 4 ∨ k = 5 ∨ k = 6 ∨ k = 7 ∨ k = 8 ∨ k = 9 ∨ k = 10 ∨ k = 11) with rfl | rfl | rfl | rfl | rfl | rfl | rfl | rfl | rfl | rfl | rfl
     . exact inF_1 hI hg hbu hke het
     . exact inF_2 hI hg hbu hke het
     . exact inF_3 hI hg hbu hke het
     . exact inF_4 hI hg hbu hke het
     . exact inF_5 hI hg hbu hke het
     . exact inF_6 hI hg hbu hke het
     . exact inF_7 hI hg hbu hke het
     . exact inF_8 hI hg hbu hke het
     . exact inF_9 hI hg hbu hke het
     . exact inF_10 hI hg hbu hke het
     . exact inF_11 hI hg hbu hke het
 . exact inF_bad hg
end Go.Proofs.YtfabnnbljkkihaaGreatDoor.Fo
namespace Go.Proofs.YtfabnnbljkkihaaGreatDoor
open Go.ChangeShapes Go.WideShapes Go.ChangeAt Go.RowKit
set_option maxRecDepth 20000
set_option linter.unusedVariables false
set_option linter.unusedSimpArgs false
theorem inform_x {w : World} {A : Array Value} {x : Cx} (hX : Hid (A = (encX x).toArray)) (hI : Hid (Irow w 0 x.pa x.pn x.cm.ps)) (hT : Hid (x.cm.bu.size <= 281474976710656 /\ x.cm.ke.size <= 281474976710656 /\ x.cm.et.size <= 281474976710656)) :
  Calls Tryz.prog 24 #[.agg A] w fun e w' => e = .returned (.bool (Fo.frm x.cm)) /\ Hid (Below w.heap.size w w') := by
 rw [hX.out]
 exact Fo.refInForm_n hI hT.out.1 hT.out.2.1 hT.out.2.2
structure FoL (w W : World) (a : Option Addr) (m c : Nat) (Y : List Cx) : Prop where
 row : W.ownsRow w.heap.size 29 18 (.slice a m c) m (flat Y)
 f : Below w.heap.size w W
theorem FoL.len {w W : World} {a : Option Addr} {m c : Nat} {Y : List Cx} (h : FoL w W a m c Y) : m = Y.length := by
 have := h.row.1
 rw [flat_len] at this
 omega
theorem FoL.below {w W W' : World} {a : Option Addr} {m c : Nat} {Y : List Cx} (h : FoL w W a m c Y) (hb : Below W.heap.size W W') : FoL w W' a m c Y := ⟨rown_bel h.row (fun q e => hb.block q (h.row.lt q e).2), h.f.trans (hb.mono h.f.size)⟩
theorem FoL.cms {w W : World} {a a0 : Option Addr} {m c n : Nat} {X : List Cx} {p : Cx -> Bool} (h : FoL w W a m c (X.filter p)) (hA : Cms w 0 a0 n X) : Cms W 0 a m (X.filter p) := by
 have hl := List.length_filter_le p X
 refine ⟨h.len, by have := h.len; have := hA.len; have := hA.sz; omega, ?_, fun x hx => ?_, fun x hx => hA.st x (List.mem_filter.1 hx).1⟩
 . by_cases h0 : m = 0
   . exact .inl h0
   . obtain ⟨g, rfl, h2, h3, _⟩ := rown_at h.row (by omega)
     refine .inr ⟨g, 0, rfl, Nat.zero_le _, h3, fun j v hv => ?_⟩
     have hj := (List.getElem?_eq_some_iff.1 hv).1
     rw [flat_len, <- h.len] at hj
     rw [Nat.zero_add, h.row.cellAt j hj]
     exact hv
 . have := hA.ps x (List.mem_filter.1 hx).1
   exact ⟨this.1.below h.f, this.2⟩
set_option maxHeartbeats 8000000 in
theorem forms11_n {w : World} {a : Option Addr} {n c : Nat} {X : List Cx} (hA : Hid (Cms w 0 a n X)) :
  Calls Tryz.prog 23 #[.slice a n c] w fun e w' => ∃ a' m c', e = .returned (.tuple #[.slice a' m c', .bool (decide ((m : Int) <= 600))]) /\ Hid (FoL w w' a' m c' (X.filter (fun x => Fo.frm x.cm))) := by
 have hn : n <= 764877654082 := hA.out.sz
 have LX : Hid (n = X.length) := hA.out.len
 have O0 : Hid (FoL w (w.alloc (.cells #[] 29)) (some ⟨w.heap.size, 0, none⟩) 0 0 ((X.take 0).filter (fun x => Fo.frm x.cm))) := ⟨World.ownsRow_made (size := 18) w #[] 0 (Nat.le_refl _) (by unfold maxLen; omega) rfl, alloc1 w _⟩
 go_enter Tryz.func23, Tryz.ntmps23
 go_wp2
 go_loopw [4, 10] (fun t4 t10 wr => ∃ (i m : Nat) (a' : Option Addr) (c' : Nat), i <= n /\ t10 = .int .i64 i /\ t4 = .slice a' m c' /\ Hid (FoL w wr a' m c' ((X.take i).filter (fun x => Fo.frm x.cm)))) (fun _ t10 _ => n - (intOf t10).toNat)
 case atStart => exact ⟨0, 0, _, 0, by omega, rfl, rfl, O0⟩
 case round =>
  clear O0
  obtain ⟨i, m, a', c', hi, rfl, rfl, HL⟩ := hrel
  by_cases hlt : i < n
  . have i3 : (i : Int) < (n : Int) := by omega
    have kx : i < X.length := by rw [<- LX.out]; omega
    have HB : Hid (Below w.heap.size w wr) := HL.out.f
    have CW : Hid (Cms wr 0 a n X) := hA.out.below HB.out
    obtain ⟨b1, o1, rfl, e1⟩ := CW.out.at_ kx
    obtain ⟨x, Hx⟩ := nm (X[i])
    rw [Hx.out] at e1
    have EX : Hid (X[i]? = some x) := by show _ = _; rw [<- Hx.out]; exact List.getElem?_eq_getElem kx
    have MX : x ∈ X := List.mem_of_getElem? EX.out
    have PX : Hid (Irow w 0 x.pa x.pn x.cm.ps /\ (x.pa = none -> x.pc = 0)) := hA.out.ps x MX
    have ST : Hid (x.cm.bu.size <= 281474976710656 /\ x.cm.ke.size <= 281474976710656 /\ x.cm.et.size <= 281474976710656) := hA.out.st x MX
    clear MX Hx
    obtain ⟨A, HA⟩ : ∃ A, Hid (A = (encX x).toArray) := ⟨_, rfl⟩
    have a18 : A.size = 18 := encX_sz HA.out
    have AA : Hid (A.all (·.oneCell') = true) := encX_all HA.out
    have E1 : Hid (wr.rangeAt b1 (o1 + i * 18) (encX x)) := e1
    clear e1
    obtain ⟨w2, Hw2, K2⟩ := box_new wr A
    obtain ⟨g1, Hg1⟩ := nm (wr.heap.size)
    go_upto_region 5 with first
     | (refine wpList_ldA (by rfl) (.tmp 12) (by rfl) b1 (o1 + i * 18) (by rfl) HA.out E1.out ?_)
     | (refine wpList_store_row (by rfl) 29 (.tmp 6) (.tmp 13) (by rfl) wr.heap.size A (by rfl) (by rfl) 29 _ (heap_alloc_new wr _) (info29 a18) a18.symm AA.out ?_)
    rw [Hw2.out, Hg1.out]
    have k1 : Hid (w2.heap[g1]? = some (.cells A 29 (0, 0))) := by rw [<- Hg1.out]; exact K2.out.1
    have B2 : Hid (Below wr.heap.size wr w2) := K2.out.2.1
    have BW2 := bt HB B2
    have I2 : Hid (Irow w2 0 x.pa x.pn x.cm.ps) := PX.out.1.below BW2.out
    clear K2 Hw2 Hg1 E1
    by_cases hf : Fo.frm x.cm = true
    . go_upto_region 6 with (first
       | (refine wpList_load_row (by rfl) 29 (.tmp 6) (by rfl) g1 (by rfl) 29 A (0, 0) _ k1.out Tryz.underlying29 rfl (info29 a18) ?_)
       | (go_at_call 24; refine (inform_x HA I2 ST).mono ?_; rintro e w3 ⟨rfl, H3⟩; rw [hf]))
      have HF : Hid (Fo.frm x.cm = true) := hf
      clear hf
      have k3 := sh H3 k1
      have BW3 := bt B2 H3
      obtain ⟨g3, Hg3⟩ := nm (w3.heap.size)
      obtain ⟨w4, Hw4⟩ := nm (w3.alloc (.cells A 29))
      have b4 : Hid (Below w3.heap.size w3 w4) := by rw [<- Hw4.out]; exact alloc1 w3 _
      have k4 : Hid (w4.heap[g3]? = some (.cells (encX x).toArray 29 (0, 0))) := by rw [<- Hw4.out, <- Hg3.out, <- HA.out]; exact heap_alloc_new w3 _
      have BW4 := bt BW3 b4
      have FD : Hid (Array.foldl (fun cs (x : Value × Nat) => cs.setIfInBounds x.snd x.fst) #[.int .i64 0,.int .i64 0,.int .i64 0,.int .i64 0,.string ⟨#[]⟩,.string ⟨#[]⟩,.int .i64 0,.int .i64 0,.int .i64 0,.int .i64 0,.int .i64 0,.int .i64 0,.int .i64 0,.string ⟨#[]⟩,.int .i64 0,.slice none 0 0,.int .i64 0,.int .i64 0] A.zipIdx 0 18 = A) := fold18 HA.out
      have Y4 : FoL w w4 a' m c' ((X.take i).filter (fun x => Fo.frm x.cm)) := HL.out.below BW4.out
      have hmn : m <= n := by
       have h1 := Y4.len
       have h2 := List.length_filter_le (fun x : Cx => Fo.frm x.cm) (X.take i)
       rw [List.length_take] at h2
       omega
      obtain ⟨a6, c6, w6, AR0, OR0, GR0⟩ := app_cm (c := 1) (X := [x]) (a := some ⟨g3, 0, none⟩) (n := 1) Y4.row rfl (.inr ⟨g3, 0, rfl, by have := range_blk k4.out; simpa [flat] using this⟩) (by simp) (by omega) (Nat.le_trans HB.out.size BW4.out.size)
      have AR : Hid ((Builtin.append_ #[22, 22] 22 #[.slice a' m c',.slice (some ⟨g3, 0, none⟩) 1 1]).run Tryz.prog w4 = .ok (.slice a6 (m + 1) c6) w6) := AR0
      have FIN : Hid (FoL w w6 a6 (m + 1) c6 ((X.take (i + 1)).filter (fun x => Fo.frm x.cm))) := by
       rw [ownBlock_slice] at GR0
       refine ⟨?_, Y4.f.trans (grown_below GR0 Y4.f.size (fun q e => (Y4.row.lt q (by rw [ownBlock_slice]; exact e)).1))⟩
       rw [List.take_add_one, EX.out, List.filter_append]
       simpa [HF.out] using OR0
      clear AR0 OR0 GR0 Y4
      go_wp2_with (first
       | (refine wpList_load_row (by rfl) 29 (.tmp 6) (by rfl) g1 (by rfl) 29 A (0, 0) _ k3.out Tryz.underlying29 rfl (info29 a18) ?_)
       | (at_builtin; rw [FD.out, Hw4.out, Hg3.out]; refine wpList_appt (by rfl) (.tmp 16) (.tmp 18) (by rfl) (by rfl) (by rfl) (by rfl) AR ?_))
      go_roundw
      case rel => exact ⟨i + 1, m + 1, a6, c6, by omega, by go_num, rfl, FIN⟩
      case measure => simp [intOf]; omega
    . have hf2 : Fo.frm x.cm = false := by simpa using hf
      clear hf
      go_wp2_with (first
       | (refine wpList_load_row (by rfl) 29 (.tmp 6) (by rfl) g1 (by rfl) 29 A (0, 0) _ k1.out Tryz.underlying29 rfl (info29 a18) ?_)
       | (go_at_call 24; refine (inform_x HA I2 ST).mono ?_; rintro e w3 ⟨rfl, H3⟩; rw [hf2]))
      have FIN : Hid (FoL w w3 a' m c' ((X.take (i + 1)).filter (fun x => Fo.frm x.cm))) := by
       have h := HL.out.below (B2.out.trans (H3.out.mono B2.out.size))
       show FoL _ _ _ _ _ _
       rw [List.take_add_one, EX.out, List.filter_append]
       simpa [hf2] using h
      go_roundw
      case rel => exact ⟨i + 1, m, a', c', by omega, by go_num, rfl, FIN⟩
      case measure => simp [intOf]; omega
  . have ein : i = n := by omega
    subst ein
    go_wp2
    go_ret2
    refine ⟨a', m, c', rfl, ?_⟩
    have h := HL.out
    rw [List.take_of_length_le (by have := LX.out; omega)] at h
    exact h
end Go.Proofs.YtfabnnbljkkihaaGreatDoor
