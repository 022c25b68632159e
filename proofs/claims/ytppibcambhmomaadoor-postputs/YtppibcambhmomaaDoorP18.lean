import Derived.Test.YtppibcambhmomaaDoorPp
import Derived.Test.YtppibcambhmomaaDoorP12
import Derived.Test.YtppibcambhmomaaDoorP13
import Derived.Test.YtppibcambhmomaaDoorP17
import Derived.Test.YtppibcambhmomaaDoorP04
import Derived.Test.YtppibcambhmomaaDoorP05
namespace Go.Proofs.YtppibcambhmomaaDoor
open Go.ChangeShapes Go.WideShapes Go.ChangeAt Go.RowKit
set_option maxRecDepth 20000
set_option linter.unusedVariables false
set_option linter.unusedSimpArgs false
theorem Own.le {w : World} {B B' : Nat} {a : Option Addr} {n c : Nat} {L : List Nat} (h : Own w B a n c L) (hb : B' <= B) : Own w B' a n c L := ⟨h.len, rown_mono h.own hb, h.lt⟩
theorem newW_n (w : World) (B : Nat) : Calls Tryd.prog 34 #[] w fun e w' => ∃ gW, e = .returned (.agg #[.pointer (some ⟨gW, 0, none⟩)]) /\ Hid (w.heap.size <= gW /\ Below w.heap.size w w' /\ Wri w' gW B none 0 0 [] false) := by
 obtain ⟨g, Hg⟩ := nm (w.heap.size)
 obtain ⟨w1, Hw1⟩ := nm (w.alloc (.cells #[.pointer none] 70))
 obtain ⟨gW, HgW⟩ := nm (w1.heap.size)
 have b1 := al1 Hw1
 have k1 : Hid (w1.heap[g]? = some (.cells #[.pointer none] 70 (0, 0))) := by rw [<- Hw1.out, <- Hg.out]; exact heap_alloc_new w _
 go_enter Tryd.func34, Tryd.ntmps34
 go_upto_region 1 with (fail)
 rw [Hw1.out, Hg.out]
 obtain ⟨w2, Hw2⟩ := nm (w1.alloc (.cells #[.slice none 0 0,.bool false] 96))
 have b2 := al1 Hw2
 have W2 : Hid (Wri w2 gW B none 0 0 [] false) := by rw [<- Hw2.out, <- HgW.out]; exact Wri.new w1 B
 have k2 : w2.heap[g]? = some (.cells #[.pointer none] 70 (0, 0)) := (b2.out.block g (gl k1.out)).trans k1.out
 have c0 : w2.cell? ⟨g, 0, none⟩ = some (.pointer none) := by simp [World.cell?, k2]
 have f0 : w2.frozen? ⟨g, 0, none⟩ = false := by simp [World.frozen?, k2]
 obtain ⟨w3, Hw3⟩ := nm (w2.setCell ⟨g, 0, none⟩ (.pointer (some ⟨gW, 0, none⟩)))
 have gne : Hid (g ≠ gW) := by
  have h1 := (gl k1.out)
  rw [HgW.out] at h1
  exact Nat.ne_of_lt h1
 have W3 : Hid (Wri w3 gW B none 0 0 [] false) := by
  rw [<- Hw3.out]
  exact ⟨(Below.heap_setCell _ _ _ _ gne.out.symm).trans W2.out.blk, Own.nil _ _, by simp [blkOf]⟩
 have b3 : Hid (Below w.heap.size w w3) := by
  rw [<- Hw3.out]
  have h := (Ch.set w2 g 0 (.pointer (some ⟨gW, 0, none⟩))).toBelow (B := w.heap.size) (Nat.le_trans b1.out.size b2.out.size) (fun q hq e => by have := Hg.out; have e2 : q = g := e; omega)
  exact (b1.out.trans (b2.out.mono b1.out.size)).trans h
 have c3 : w3.cell? ⟨g, 0, none⟩ = some (.pointer (some ⟨gW, 0, none⟩)) := by rw [<- Hw3.out]; simp [World.cell?, set_blk k2]
 go_wp2_with (go_at_call 39; refine (newWriter_n _).mono ?_; rintro e w0 ⟨rfl, h0⟩; rw [h0.out, Hw2.out, HgW.out]; clear h0)
 rw [Hw3.out]
 refine bodyPost_ret (v := .agg #[.pointer (some ⟨gW, 0, none⟩)]) (by simp [results, Tryd.results34, go_sem, c3]) rfl ⟨gW, rfl, ?_, b3.out, W3.out⟩
 have := b1.out.size
 have := HgW.out
 omega
set_option maxHeartbeats 2000000 in
theorem check_ok {w : World} {k i0 i1 i2 : Int} {bu ke : ByteArray} {u0 u1 u2 b0 b1 b2 sz : Int} {et : ByteArray} {pt : Int} {ps : List Int} {pa : Option Addr} {pn pc : Nat} {tm dy : Int} (hI : Hid (Irow w 0 pa pn ps)) (HF : Hid (frm ⟨k, i0, i1, i2, bu, ke, u0, u1, u2, b0, b1, b2, sz, et, pt, ps, tm, dy⟩ = true)) :
  Calls Tryd.prog 54 #[.agg #[.int .i64 k,.int .i64 i0,.int .i64 i1,.int .i64 i2,.string bu,.string ke,.int .i64 u0,.int .i64 u1,.int .i64 u2,.int .i64 b0,.int .i64 b1,.int .i64 b2,.int .i64 sz,.string et,.int .i64 pt,.slice pa pn pc,.int .i64 tm,.int .i64 dy]] w fun e w' => e = .returned (.nilIface) /\ Hid (Below w.heap.size w w') := by
 obtain ⟨g1, Hg1⟩ := nm (w.heap.size)
 obtain ⟨w1, Hw1⟩ := nm (w.alloc (.cells #[.int .i64 k,.int .i64 i0,.int .i64 i1,.int .i64 i2,.string bu,.string ke,.int .i64 u0,.int .i64 u1,.int .i64 u2,.int .i64 b0,.int .i64 b1,.int .i64 b2,.int .i64 sz,.string et,.int .i64 pt,.slice pa pn pc,.int .i64 tm,.int .i64 dy] 60))
 have B1 := al1 Hw1
 have k1 : Hid (w1.heap[g1]? = some (.cells #[.int .i64 k,.int .i64 i0,.int .i64 i1,.int .i64 i2,.string bu,.string ke,.int .i64 u0,.int .i64 u1,.int .i64 u2,.int .i64 b0,.int .i64 b1,.int .i64 b2,.int .i64 sz,.string et,.int .i64 pt,.slice pa pn pc,.int .i64 tm,.int .i64 dy] 60 (0, 0))) := by rw [<- Hw1.out, <- Hg1.out]; exact heap_alloc_new w _
 have I1 : Hid (Irow w1 0 pa pn ps) := hI.out.keep B1.out.size (fun q _ hq => B1.out.block q hq)
 have R1 : w1.rangeAt g1 0 [.int .i64 k,.int .i64 i0,.int .i64 i1,.int .i64 i2,.string bu,.string ke,.int .i64 u0,.int .i64 u1,.int .i64 u2,.int .i64 b0,.int .i64 b1,.int .i64 b2,.int .i64 sz,.string et,.int .i64 pt,.slice pa pn pc,.int .i64 tm,.int .i64 dy] := range_blk k1.out
 go_enter Tryd.func54, Tryd.ntmps54
 go_upto_region 1 with (fail)
 rw [Hw1.out, Hg1.out]
 go_wp2_with first
  | (refine wpList_load_mid (by rfl) 60 (.tmp 1) (by rfl) g1 0 (by rfl) _ _ R1 Tryd.underlying60 rfl (by kernel_rfl) ?_)
  | (go_at_call 69; refine (inForm_n I1).mono ?_; rintro e w2 ⟨rfl, h2⟩; rw [HF.out])
 go_ret
 exact ⟨rfl, B1.out.trans (h2.out.mono B1.out.size)⟩
set_option maxHeartbeats 2000000 in
theorem check_no {w : World} {M : Nat -> Prop} {E : Nat -> Addr} {k i0 i1 i2 : Int} {bu ke : ByteArray} {u0 u1 u2 b0 b1 b2 sz : Int} {et : ByteArray} {pt : Int} {ps : List Int} {pa : Option Addr} {pn pc : Nat} {tm dy : Int} (hI : Hid (Irow w 0 pa pn ps)) (hE : Hid (Sent w M E)) (hM : M 0) (HF : Hid (frm ⟨k, i0, i1, i2, bu, ke, u0, u1, u2, b0, b1, b2, sz, et, pt, ps, tm, dy⟩ = false)) :
  Calls Tryd.prog 54 #[.agg #[.int .i64 k,.int .i64 i0,.int .i64 i1,.int .i64 i2,.string bu,.string ke,.int .i64 u0,.int .i64 u1,.int .i64 u2,.int .i64 b0,.int .i64 b1,.int .i64 b2,.int .i64 sz,.string et,.int .i64 pt,.slice pa pn pc,.int .i64 tm,.int .i64 dy]] w fun e w' => e = .returned (er (E 0)) /\ Hid (Below w.heap.size w w') := by
 obtain ⟨g1, Hg1⟩ := nm (w.heap.size)
 obtain ⟨w1, Hw1⟩ := nm (w.alloc (.cells #[.int .i64 k,.int .i64 i0,.int .i64 i1,.int .i64 i2,.string bu,.string ke,.int .i64 u0,.int .i64 u1,.int .i64 u2,.int .i64 b0,.int .i64 b1,.int .i64 b2,.int .i64 sz,.string et,.int .i64 pt,.slice pa pn pc,.int .i64 tm,.int .i64 dy] 60))
 have B1 := al1 Hw1
 have k1 : Hid (w1.heap[g1]? = some (.cells #[.int .i64 k,.int .i64 i0,.int .i64 i1,.int .i64 i2,.string bu,.string ke,.int .i64 u0,.int .i64 u1,.int .i64 u2,.int .i64 b0,.int .i64 b1,.int .i64 b2,.int .i64 sz,.string et,.int .i64 pt,.slice pa pn pc,.int .i64 tm,.int .i64 dy] 60 (0, 0))) := by rw [<- Hw1.out, <- Hg1.out]; exact heap_alloc_new w _
 have I1 : Hid (Irow w1 0 pa pn ps) := hI.out.keep B1.out.size (fun q _ hq => B1.out.block q hq)
 have R1 : w1.rangeAt g1 0 [.int .i64 k,.int .i64 i0,.int .i64 i1,.int .i64 i2,.string bu,.string ke,.int .i64 u0,.int .i64 u1,.int .i64 u2,.int .i64 b0,.int .i64 b1,.int .i64 b2,.int .i64 sz,.string et,.int .i64 pt,.slice pa pn pc,.int .i64 tm,.int .i64 dy] := range_blk k1.out
 go_enter Tryd.func54, Tryd.ntmps54
 go_upto_region 1 with (fail)
 rw [Hw1.out, Hg1.out]
 go_upto_region 2 with first
  | (refine wpList_load_mid (by rfl) 60 (.tmp 1) (by rfl) g1 0 (by rfl) _ _ R1 Tryd.underlying60 rfl (by kernel_rfl) ?_)
  | (go_at_call 69; refine (inForm_n I1).mono ?_; rintro e w2 ⟨rfl, h2⟩; rw [HF.out])
 have B2 := bt B1 h2
 have ce : w2.cell? ⟨0, 0, none⟩ = some (er (E 0)) := (hE.out.below B2.out).c 0 hM
 clear R1
 go_wp2
 go_ret
 exact ⟨rfl, B2.out⟩
set_option maxHeartbeats 2000000 in
theorem put_no {w : World} {M : Nat -> Prop} {E : Nat -> Addr} {k i0 i1 i2 : Int} {bu ke : ByteArray} {u0 u1 u2 b0 b1 b2 sz : Int} {et : ByteArray} {pt : Int} {ps : List Int} {pa : Option Addr} {pn pc : Nat} {tm dy : Int} (hI : Hid (Irow w 0 pa pn ps)) (hE : Hid (Sent w M E)) (hM : M 0) (hF : Hid (frm ⟨k, i0, i1, i2, bu, ke, u0, u1, u2, b0, b1, b2, sz, et, pt, ps, tm, dy⟩ = false)) :
  Calls Tryd.prog 36 #[.agg #[.int .i64 k,.int .i64 i0,.int .i64 i1,.int .i64 i2,.string bu,.string ke,.int .i64 u0,.int .i64 u1,.int .i64 u2,.int .i64 b0,.int .i64 b1,.int .i64 b2,.int .i64 sz,.string et,.int .i64 pt,.slice pa pn pc,.int .i64 tm,.int .i64 dy]] w fun e w' => e = .returned (.tuple #[.slice none 0 0, er (E 0)]) /\ Hid (Below w.heap.size w w') := by
 obtain ⟨g1, Hg1⟩ := nm (w.heap.size)
 obtain ⟨w1, Hw1⟩ := nm (w.alloc (.cells #[.int .i64 k,.int .i64 i0,.int .i64 i1,.int .i64 i2,.string bu,.string ke,.int .i64 u0,.int .i64 u1,.int .i64 u2,.int .i64 b0,.int .i64 b1,.int .i64 b2,.int .i64 sz,.string et,.int .i64 pt,.slice pa pn pc,.int .i64 tm,.int .i64 dy] 60))
 have B1 := al1 Hw1
 have k1 : Hid (w1.heap[g1]? = some (.cells #[.int .i64 k,.int .i64 i0,.int .i64 i1,.int .i64 i2,.string bu,.string ke,.int .i64 u0,.int .i64 u1,.int .i64 u2,.int .i64 b0,.int .i64 b1,.int .i64 b2,.int .i64 sz,.string et,.int .i64 pt,.slice pa pn pc,.int .i64 tm,.int .i64 dy] 60 (0, 0))) := by rw [<- Hw1.out, <- Hg1.out]; exact heap_alloc_new w _
 have I1 : Hid (Irow w1 0 pa pn ps) := hI.out.keep B1.out.size (fun q _ hq => B1.out.block q hq)
 have E1 : Hid (Sent w1 M E) := hE.out.below B1.out
 have R1 : w1.rangeAt g1 0 [.int .i64 k,.int .i64 i0,.int .i64 i1,.int .i64 i2,.string bu,.string ke,.int .i64 u0,.int .i64 u1,.int .i64 u2,.int .i64 b0,.int .i64 b1,.int .i64 b2,.int .i64 sz,.string et,.int .i64 pt,.slice pa pn pc,.int .i64 tm,.int .i64 dy] := range_blk k1.out
 go_enter Tryd.func36, Tryd.ntmps36
 go_upto_region 1 with (fail)
 rw [Hw1.out, Hg1.out]
 go_wp2_with first
  | (refine wpList_load_mid (by rfl) 60 (.tmp 1) (by rfl) g1 0 (by rfl) _ _ R1 Tryd.underlying60 rfl (by kernel_rfl) ?_)
  | (go_at_call 54; refine (check_no I1 E1 hM hF).mono ?_; rintro e w2 ⟨rfl, h2⟩)
 go_ret2
 exact ⟨rfl, B1.out.trans (h2.out.mono B1.out.size)⟩
section
variable {P : Program} {ops : Array Oper} {Q : Exit -> Act -> World -> Prop} {md : Region.Mode} {S : Array Bool -> World -> Prop} {C : World -> Prop}
def TillOp (P : Program) (md : Region.Mode) (ops : Array Oper) (Q : Exit -> Act -> World -> Prop) (S : Array Bool -> World -> Prop) (f : Nat) (L : Array Bool) (a : Act) (w : World) (i : Nat) : Prop :=
 ∃ o, ops[i]? = some o /\ ∀ K' : Act -> World -> Prop, Shut (∀ a w, S (L.setIfInBounds i true) w -> (S (L.setIfInBounds i true) w -> wpTill P md ops Q S f (L.setIfInBounds i true) a w) -> K' a w) -> if Region.wanted o (yielded ops a.tmps) = true then Oper.wp P o a w K' Q else K' (a.put o.dst undef) w
theorem till_some {is : List Nat} {f : Nat} {L : Array Bool} {a : Act} {w : World} (hr : Region.ready md ops L = is) (hne : is ≠ []) (h : ∀ i ∈ is, TillOp P md ops Q S f L a w i) : wpTill P md ops Q S (f + 1) L a w := by
 refine ⟨fun h0 => (by rw [hr] at h0; exact absurd h0 hne), fun j hj => ?_⟩
 rw [hr] at hj
 obtain ⟨o, ho, hK⟩ := h j hj
 exact wpOp_step ho (fun K' hK' => hK K' (fun a w hS hW => hK' a w ⟨hS, hW hS⟩))
theorem till_two {i j : Nat} {f : Nat} {L : Array Bool} {a : Act} {w : World} (hr : Region.ready md ops L = [i, j]) (h1 : TillOp P md ops Q S f L a w i) (h2 : TillOp P md ops Q S f L a w j) : wpTill P md ops Q S (f + 1) L a w :=
 till_some hr (by simp) (fun k hk => by
  rcases List.mem_cons.1 hk with rfl | hk
  . exact h1
  . obtain rfl : k = j := by simpa using hk
    exact h2)
theorem till_load {i : Nat} {oi : Oper} {v : Value} {f : Nat} {L : Array Bool} {a : Act} {w : World} (hi : ops[i]? = some oi) (hs : Region.noSelect ops = true) (hf : Region.free md ops L i = true) (hr : (Region.ready md ops L).contains i = true)
  (hQ : ∀ c a w, Q (.panic c) (a.put oi.dst v) w -> Q (.panic c) a w) (hy : YieldsIf P ops C oi v a) (hw : C w)
  (h : wpTill P md ops Q (fun _ w => C w) f (L.setIfInBounds i true) (a.put oi.dst v) w) : wpTill P md ops Q (fun _ w => C w) (f + 1) L a w :=
 till_first (S := fun _ w => C w) (T := C) (I := fun _ => True) hi (Region.noSelect_spec hs) hQ (fun _ _ => Iff.rfl) (fun _ _ _ _ _ _ => trivial) (fun _ _ _ h => h) f L a w (Region.free_spec hi hf) (by simpa using hr) trivial hy hw h
end
noncomputable def ops16 : Array Oper := match Tryd.f46.body with
 | some c => match regIn 7 c with
   | some o => o
   | none => #[]
 | none => #[]
theorem own_nil (w : World) (B : Nat) : Own w B none 0 0 [] := ⟨rfl, ⟨rfl, .inl ⟨rfl, rfl⟩⟩, by simp⟩
theorem Rp.app {w W W1 : World} {g1 : Nat} {A : Array Value} {a : Option Addr} {n c : Nat} {L : List Nat} {m : Nat} {a2 : Option Addr} {m2 c2 : Nat} {l : List Nat} (h : Rp w W g1 A a n c L m) (hb : Below W.heap.size W W1) (ho : Own W1 W.heap.size a2 m2 c2 l) (hm : m <= 900000) (hm2 : m2 <= 10000) :
  ∃ a' c' W', (Builtin.append_ #[27, 27] 27 #[.slice a n c,.slice a2 m2 c2]).run Tryd.prog W1 = .ok (.slice a' (n + m2) c') W' /\ Rp w W' g1 A a' (n + m2) c' (L ++ l) (m + m2) := by
 have h1 := h.below hb
 have := h.ln
 obtain ⟨a', c', W', hrun, own, gr, nw⟩ := app_any (c2 := c2) h1.own (ho.sln (by omega)) ho.cap0 (by omega) h1.lt
 refine ⟨a', c', W', hrun, h1.ch ⟨gr.os, gr.tape, gr.output, gr.size, fun q h1 h3 => gr.block q h1 (fun e => h3 e.symm)⟩ own (by omega)⟩
theorem Rp.numsC {w W : World} {g1 : Nat} {A : Array Value} {a : Option Addr} {n c : Nat} {L : List Nat} {m : Nat} {PS : List Nat} {pa : Option Addr} {pn pc : Nat} (h : Hid (Rp w W g1 A a n c L m)) (hI : Hid (Irow W 0 pa pn (PS.map fun x : Nat => (x : Int)))) (hP : Hid (∀ x ∈ PS, x < 9223372036854775808)) (hap : Hid (0 < pn -> ∀ q, blkOf pa = some q -> q < g1 ∨ blkOf a ≠ some q)) (hm : m <= 900000) (hpn : pn <= 1000) :
  Calls Tryd.prog 62 #[.slice a n c,.slice pa pn pc] W fun e W' => ∃ a' n' c', e = .returned (.slice a' n' c') /\ Hid (Rp w W' g1 A a' n' c' (L ++ encs PS) (m + pn * 9) /\ Ch W W' (fun q => blkOf a = some q) /\ New W a a') := by
 have k := h.out
 refine (nums_n k.own hI hP (fun h0 q hq e => ?_) k.lt (by have := k.ln; omega) hpn).mono ?_
 . rcases hap.out h0 q hq with h1 | h1
   . have := (k.own.ge q e).1; omega
   . exact h1 e
 . rintro e W' ⟨a', n', c', h1, h2⟩
   refine ⟨a', n', c', h1, k.gr h2.out ?_, h2.out.ch, h2.out.nw⟩
   have hl : PS.length = pn := by have := hI.out.len; simp at this; omega
   have h3 := encs_le hP.out
   have h4 := h2.out.own.len
   rw [List.length_append, <- k.own.len] at h4
   have := k.ln
   omega
set_option maxHeartbeats 1500000 in
theorem refput_n {w : World} {K I0 I1 I2 U0 U1 U2 B0 B1 B2 SZ PT TM DY : Nat} {bu ke et : ByteArray} {PS : List Nat} {pa : Option Addr} {pn pc : Nat} (hI : Hid (Irow w 0 pa pn (PS.map fun x : Nat => (x : Int)))) (qK : K < 9223372036854775808) (qI0 : I0 < 9223372036854775808) (qI1 : I1 < 9223372036854775808) (qI2 : I2 < 9223372036854775808) (qU0 : U0 < 9223372036854775808) (qU1 : U1 < 9223372036854775808) (qU2 : U2 < 9223372036854775808) (qB0 : B0 < 9223372036854775808) (qB1 : B1 < 9223372036854775808) (qB2 : B2 < 9223372036854775808) (qSZ : SZ < 9223372036854775808) (qPT : PT < 9223372036854775808) (qTM : TM < 9223372036854775808) (qDY : DY < 9223372036854775808) (s1 : bu.size <= 1000) (s2 : ke.size <= 1000) (s3 : et.size <= 1000) (pn9 : pn <= 1000) (PB : Hid (∀ x ∈ PS, x < 9223372036854775808)) :
  Calls Tryd.prog 46 #[.agg #[.int .i64 (K : Int),.int .i64 (I0 : Int),.int .i64 (I1 : Int),.int .i64 (I2 : Int),.string bu,.string ke,.int .i64 (U0 : Int),.int .i64 (U1 : Int),.int .i64 (U2 : Int),.int .i64 (B0 : Int),.int .i64 (B1 : Int),.int .i64 (B2 : Int),.int .i64 (SZ : Int),.string et,.int .i64 (PT : Int),.slice pa pn pc,.int .i64 (TM : Int),.int .i64 (DY : Int)]] w fun e w' => ∃ a n c, e = .returned (.slice a n c) /\ Hid (Own w' w.heap.size a n c (cmdL K I0 I1 I2 bu ke U0 U1 U2 B0 B1 B2 SZ et PT PS TM DY) /\ Below w.heap.size w w' /\ n <= 100000) := by
 obtain ⟨g1, Hg1⟩ := nm (w.heap.size)
 obtain ⟨w1, Hw1⟩ := nm (w.alloc (.cells #[.int .i64 (K : Int),.int .i64 (I0 : Int),.int .i64 (I1 : Int),.int .i64 (I2 : Int),.string bu,.string ke,.int .i64 (U0 : Int),.int .i64 (U1 : Int),.int .i64 (U2 : Int),.int .i64 (B0 : Int),.int .i64 (B1 : Int),.int .i64 (B2 : Int),.int .i64 (SZ : Int),.string et,.int .i64 (PT : Int),.slice pa pn pc,.int .i64 (TM : Int),.int .i64 (DY : Int)] 60))
 have S : Hid (Rp w w1 g1 #[.int .i64 (K : Int),.int .i64 (I0 : Int),.int .i64 (I1 : Int),.int .i64 (I2 : Int),.string bu,.string ke,.int .i64 (U0 : Int),.int .i64 (U1 : Int),.int .i64 (U2 : Int),.int .i64 (B0 : Int),.int .i64 (B1 : Int),.int .i64 (B2 : Int),.int .i64 (SZ : Int),.string et,.int .i64 (PT : Int),.slice pa pn pc,.int .i64 (TM : Int),.int .i64 (DY : Int)] none 0 0 [] 0) := by
  have b : Below w.heap.size w w1 := by rw [<- Hw1.out]; exact alloc1 w _
  refine ⟨own_nil _ _, ?_, b, Nat.le_refl _, by have := Hg1.out; omega⟩
  rw [<- Hw1.out, <- Hg1.out]
  exact heap_alloc_new w _
 have LP : Hid (PS.length = pn) := by have := hI.out.len; simp at this; show _ = _; omega
 have GL : Hid (∀ q, blkOf pa = some q -> q < g1 ∨ pn = 0) := fun q hq => by
  rcases hI.out.row with h0 | ⟨b, off, h1, _, h3, _⟩
  . exact .inr h0
  . rw [h1] at hq
    left
    have : b = q := by simpa [blkOf] using hq
    have := Hg1.out
    omega
 go_enter Tryd.func46, Tryd.ntmps46
 go_upto_region 1 with (fail)
 rw [Hw1.out, Hg1.out]
 clear Hw1
 have q0 := S.out.cell 0 _ rfl
 have q1 := S.out.cell 1 _ rfl
 have q2 := S.out.cell 2 _ rfl
 have q3 := S.out.cell 3 _ rfl
 have SV : Hid (Rp w (w1.alloc (.cells #[.int .i64 (K : Int),.int .i64 (I0 : Int),.int .i64 (I1 : Int),.int .i64 (I2 : Int)] 3)) g1 #[.int .i64 (K : Int),.int .i64 (I0 : Int),.int .i64 (I1 : Int),.int .i64 (I2 : Int),.string bu,.string ke,.int .i64 (U0 : Int),.int .i64 (U1 : Int),.int .i64 (U2 : Int),.int .i64 (B0 : Int),.int .i64 (B1 : Int),.int .i64 (B2 : Int),.int .i64 (SZ : Int),.string et,.int .i64 (PT : Int),.slice pa pn pc,.int .i64 (TM : Int),.int .i64 (DY : Int)] none 0 0 [] (0)) := S.out.below (alloc1 w1 _)
 have IV : Hid (Irow (w1.alloc (.cells #[.int .i64 (K : Int),.int .i64 (I0 : Int),.int .i64 (I1 : Int),.int .i64 (I2 : Int)] 3)) 0 (some ⟨w1.heap.size, 0, none⟩) 4 ([K, I0, I1, I2].map fun x : Nat => (x : Int))) := irow_new (W := w) (l := [K, I0, I1, I2]) (heap_alloc_new w1 _) rfl (by simp)
 have PV : Hid (∀ x ∈ [K, I0, I1, I2], x < 9223372036854775808) := fun x hx => by simp only [List.mem_cons, List.not_mem_nil, or_false] at hx; omega
 have AV : Hid (0 < 4 -> ∀ q, blkOf (some (⟨w1.heap.size, 0, none⟩ : Addr)) = some q -> q < g1 ∨ blkOf none ≠ some q) := fun _ q hq => by
  right
  intro e
  have h1 := (S.out.own.ge q e).2
  have h2 : w1.heap.size = q := by simpa [blkOf] using hq
  omega
 go_upto_region 2 with (go_at_call 62; refine (Rp.nums SV IV PV AV (by omega) (by omega)).mono ?_; rintro e w2 ⟨a2, n2, c2, rfl, T⟩)
 clear S SV IV PV AV q0 q1 q2 q3
 have S := T
 clear T
 have q4 := S.out.cell 4 _ rfl
 have cv := run_cv w2 bu
 obtain ⟨u3, Hu⟩ := nm (cvW w2 bu)
 obtain ⟨x3, Hx⟩ := nm (cvC w2 bu)
 rw [Hu.out, Hx.out] at cv
 have SL : Hid (Sln u3 (some ⟨w2.heap.size, 0, none⟩) bu.size (bl bu)) := by rw [<- Hu.out]; exact cvW_sln w2 bu (by omega)
 have BU : Hid (Below w2.heap.size w2 u3) := by rw [<- Hu.out]; exact cvW_below w2 bu
 have NU : Hid (some (⟨w2.heap.size, 0, none⟩ : Addr) = none -> x3 = 0) := fun h => by cases h
 clear Hu Hx
 go_upto_region 3 with first
  | (go_at_call 26; refine (refbytes_n SL NU (by omega)).mono ?_; rintro e v3 ⟨b3, m3, d3, rfl, H⟩
     have ML : m3 <= 1009 := by have h1 := H.out.1.len; rw [List.length_append, bl_len] at h1; have := enc_nine (n := bu.size) (by omega); omega
     have BL : Below w2.heap.size w2 v3 := BU.out.trans (H.out.2.mono BU.out.size)
     obtain ⟨a3, c3, w3, hrun, hR⟩ := S.out.app BL (H.out.1.le BU.out.size) (by omega) (by omega)
     have AP : Hid ((Builtin.append_ #[27, 27] 27 #[.slice a2 n2 c2,.slice b3 m3 d3]).run Tryd.prog v3 = .ok (.slice a3 (n2 + m3) c3) w3) := hrun
     have HR := show Hid _ from hR
     clear hrun hR)
  | (at_builtin; refine wpList_app (by rfl) (.tmp 17) (.tmp 21) (by rfl) (by rfl) (by rfl) (by rfl) AP ?_)
 obtain ⟨n3, Hn⟩ := nm (n2 + m3)
 rw [Hn.out]
 have T : Hid (Rp w w3 g1 #[.int .i64 (K : Int),.int .i64 (I0 : Int),.int .i64 (I1 : Int),.int .i64 (I2 : Int),.string bu,.string ke,.int .i64 (U0 : Int),.int .i64 (U1 : Int),.int .i64 (U2 : Int),.int .i64 (B0 : Int),.int .i64 (B1 : Int),.int .i64 (B2 : Int),.int .i64 (SZ : Int),.string et,.int .i64 (PT : Int),.slice pa pn pc,.int .i64 (TM : Int),.int .i64 (DY : Int)] a3 n3 c3 (([] ++ encs [K, I0, I1, I2]) ++ (enc bu.size ++ bl bu)) (0 + 4 * 9 + 1009)) := by
  rw [<- Hn.out]
  exact ⟨HR.out.own, HR.out.h1, HR.out.bel, by have := HR.out.ln; omega, HR.out.lw⟩
 clear S SL cv H ML BL HR BU NU AP Hn q4
 have S := T
 clear T
 have q5 := S.out.cell 5 _ rfl
 have cv := run_cv w3 ke
 obtain ⟨u4, Hu⟩ := nm (cvW w3 ke)
 obtain ⟨x4, Hx⟩ := nm (cvC w3 ke)
 rw [Hu.out, Hx.out] at cv
 have SL : Hid (Sln u4 (some ⟨w3.heap.size, 0, none⟩) ke.size (bl ke)) := by rw [<- Hu.out]; exact cvW_sln w3 ke (by omega)
 have BU : Hid (Below w3.heap.size w3 u4) := by rw [<- Hu.out]; exact cvW_below w3 ke
 have NU : Hid (some (⟨w3.heap.size, 0, none⟩ : Addr) = none -> x4 = 0) := fun h => by cases h
 clear Hu Hx
 go_upto_region 4 with first
  | (go_at_call 26; refine (refbytes_n SL NU (by omega)).mono ?_; rintro e v4 ⟨b4, m4, d4, rfl, H⟩
     have ML : m4 <= 1009 := by have h1 := H.out.1.len; rw [List.length_append, bl_len] at h1; have := enc_nine (n := ke.size) (by omega); omega
     have BL : Below w3.heap.size w3 v4 := BU.out.trans (H.out.2.mono BU.out.size)
     obtain ⟨a4, c4, w4, hrun, hR⟩ := S.out.app BL (H.out.1.le BU.out.size) (by omega) (by omega)
     have AP : Hid ((Builtin.append_ #[27, 27] 27 #[.slice a3 n3 c3,.slice b4 m4 d4]).run Tryd.prog v4 = .ok (.slice a4 (n3 + m4) c4) w4) := hrun
     have HR := show Hid _ from hR
     clear hrun hR)
  | (at_builtin; refine wpList_app (by rfl) (.tmp 23) (.tmp 27) (by rfl) (by rfl) (by rfl) (by rfl) AP ?_)
 obtain ⟨n4, Hn⟩ := nm (n3 + m4)
 rw [Hn.out]
 have T : Hid (Rp w w4 g1 #[.int .i64 (K : Int),.int .i64 (I0 : Int),.int .i64 (I1 : Int),.int .i64 (I2 : Int),.string bu,.string ke,.int .i64 (U0 : Int),.int .i64 (U1 : Int),.int .i64 (U2 : Int),.int .i64 (B0 : Int),.int .i64 (B1 : Int),.int .i64 (B2 : Int),.int .i64 (SZ : Int),.string et,.int .i64 (PT : Int),.slice pa pn pc,.int .i64 (TM : Int),.int .i64 (DY : Int)] a4 n4 c4 ((([] ++ encs [K, I0, I1, I2]) ++ (enc bu.size ++ bl bu)) ++ (enc ke.size ++ bl ke)) (0 + 4 * 9 + 1009 + 1009)) := by
  rw [<- Hn.out]
  exact ⟨HR.out.own, HR.out.h1, HR.out.bel, by have := HR.out.ln; omega, HR.out.lw⟩
 clear S SL cv H ML BL HR BU NU AP Hn q5
 have S := T
 clear T
 have q6 := S.out.cell 6 _ rfl
 have q7 := S.out.cell 7 _ rfl
 have q8 := S.out.cell 8 _ rfl
 have q9 := S.out.cell 9 _ rfl
 have q10 := S.out.cell 10 _ rfl
 have q11 := S.out.cell 11 _ rfl
 have q12 := S.out.cell 12 _ rfl
 have SV : Hid (Rp w (w4.alloc (.cells #[.int .i64 (U0 : Int),.int .i64 (U1 : Int),.int .i64 (U2 : Int),.int .i64 (B0 : Int),.int .i64 (B1 : Int),.int .i64 (B2 : Int),.int .i64 (SZ : Int)] 3)) g1 #[.int .i64 (K : Int),.int .i64 (I0 : Int),.int .i64 (I1 : Int),.int .i64 (I2 : Int),.string bu,.string ke,.int .i64 (U0 : Int),.int .i64 (U1 : Int),.int .i64 (U2 : Int),.int .i64 (B0 : Int),.int .i64 (B1 : Int),.int .i64 (B2 : Int),.int .i64 (SZ : Int),.string et,.int .i64 (PT : Int),.slice pa pn pc,.int .i64 (TM : Int),.int .i64 (DY : Int)] a4 n4 c4 ((([] ++ encs [K, I0, I1, I2]) ++ (enc bu.size ++ bl bu)) ++ (enc ke.size ++ bl ke)) (0 + 4 * 9 + 1009 + 1009)) := S.out.below (alloc1 w4 _)
 have IV : Hid (Irow (w4.alloc (.cells #[.int .i64 (U0 : Int),.int .i64 (U1 : Int),.int .i64 (U2 : Int),.int .i64 (B0 : Int),.int .i64 (B1 : Int),.int .i64 (B2 : Int),.int .i64 (SZ : Int)] 3)) 0 (some ⟨w4.heap.size, 0, none⟩) 7 ([U0, U1, U2, B0, B1, B2, SZ].map fun x : Nat => (x : Int))) := irow_new (W := w) (l := [U0, U1, U2, B0, B1, B2, SZ]) (heap_alloc_new w4 _) rfl (by simp)
 have PV : Hid (∀ x ∈ [U0, U1, U2, B0, B1, B2, SZ], x < 9223372036854775808) := fun x hx => by simp only [List.mem_cons, List.not_mem_nil, or_false] at hx; omega
 have AV : Hid (0 < 7 -> ∀ q, blkOf (some (⟨w4.heap.size, 0, none⟩ : Addr)) = some q -> q < g1 ∨ blkOf a4 ≠ some q) := fun _ q hq => by
  right
  intro e
  have h1 := (S.out.own.ge q e).2
  have h2 : w4.heap.size = q := by simpa [blkOf] using hq
  omega
 go_upto_region 5 with (go_at_call 62; refine (Rp.nums SV IV PV AV (by omega) (by omega)).mono ?_; rintro e w5 ⟨a5, n5, c5, rfl, T⟩)
 clear S SV IV PV AV q6 q7 q8 q9 q10 q11 q12
 have S := T
 clear T
 have q13 := S.out.cell 13 _ rfl
 have cv := run_cv w5 et
 obtain ⟨u6, Hu⟩ := nm (cvW w5 et)
 obtain ⟨x6, Hx⟩ := nm (cvC w5 et)
 rw [Hu.out, Hx.out] at cv
 have SL : Hid (Sln u6 (some ⟨w5.heap.size, 0, none⟩) et.size (bl et)) := by rw [<- Hu.out]; exact cvW_sln w5 et (by omega)
 have BU : Hid (Below w5.heap.size w5 u6) := by rw [<- Hu.out]; exact cvW_below w5 et
 have NU : Hid (some (⟨w5.heap.size, 0, none⟩ : Addr) = none -> x6 = 0) := fun h => by cases h
 clear Hu Hx
 go_upto_region 6 with first
  | (go_at_call 26; refine (refbytes_n SL NU (by omega)).mono ?_; rintro e v6 ⟨b6, m6, d6, rfl, H⟩
     have ML : m6 <= 1009 := by have h1 := H.out.1.len; rw [List.length_append, bl_len] at h1; have := enc_nine (n := et.size) (by omega); omega
     have BL : Below w5.heap.size w5 v6 := BU.out.trans (H.out.2.mono BU.out.size)
     obtain ⟨a6, c6, w6, hrun, hR⟩ := S.out.app BL (H.out.1.le BU.out.size) (by omega) (by omega)
     have AP : Hid ((Builtin.append_ #[27, 27] 27 #[.slice a5 n5 c5,.slice b6 m6 d6]).run Tryd.prog v6 = .ok (.slice a6 (n5 + m6) c6) w6) := hrun
     have HR := show Hid _ from hR
     clear hrun hR)
  | (at_builtin; refine wpList_app (by rfl) (.tmp 56) (.tmp 61) (by rfl) (by rfl) (by rfl) (by rfl) AP ?_)
 obtain ⟨n6, Hn⟩ := nm (n5 + m6)
 rw [Hn.out]
 have T : Hid (Rp w w6 g1 #[.int .i64 (K : Int),.int .i64 (I0 : Int),.int .i64 (I1 : Int),.int .i64 (I2 : Int),.string bu,.string ke,.int .i64 (U0 : Int),.int .i64 (U1 : Int),.int .i64 (U2 : Int),.int .i64 (B0 : Int),.int .i64 (B1 : Int),.int .i64 (B2 : Int),.int .i64 (SZ : Int),.string et,.int .i64 (PT : Int),.slice pa pn pc,.int .i64 (TM : Int),.int .i64 (DY : Int)] a6 n6 c6 ((((([] ++ encs [K, I0, I1, I2]) ++ (enc bu.size ++ bl bu)) ++ (enc ke.size ++ bl ke)) ++ encs [U0, U1, U2, B0, B1, B2, SZ]) ++ (enc et.size ++ bl et)) (0 + 4 * 9 + 1009 + 1009 + 7 * 9 + 1009)) := by
  rw [<- Hn.out]
  exact ⟨HR.out.own, HR.out.h1, HR.out.bel, by have := HR.out.ln; omega, HR.out.lw⟩
 clear S SL cv H ML BL HR BU NU AP Hn q13
 have S := T
 clear T
 have qpn : (pn : Int) < 9223372036854775808 := by omega
 have q15 := S.out.cell 15 _ rfl
 have q14 := S.out.cell 14 _ rfl
 have SV : Hid (Rp w (w6.alloc (.cells #[.int .i64 (PT : Int),.int .i64 (pn : Int)] 3)) g1 #[.int .i64 (K : Int),.int .i64 (I0 : Int),.int .i64 (I1 : Int),.int .i64 (I2 : Int),.string bu,.string ke,.int .i64 (U0 : Int),.int .i64 (U1 : Int),.int .i64 (U2 : Int),.int .i64 (B0 : Int),.int .i64 (B1 : Int),.int .i64 (B2 : Int),.int .i64 (SZ : Int),.string et,.int .i64 (PT : Int),.slice pa pn pc,.int .i64 (TM : Int),.int .i64 (DY : Int)] a6 n6 c6 ((((([] ++ encs [K, I0, I1, I2]) ++ (enc bu.size ++ bl bu)) ++ (enc ke.size ++ bl ke)) ++ encs [U0, U1, U2, B0, B1, B2, SZ]) ++ (enc et.size ++ bl et)) (0 + 4 * 9 + 1009 + 1009 + 7 * 9 + 1009)) := S.out.below (alloc1 w6 _)
 have IV : Hid (Irow (w6.alloc (.cells #[.int .i64 (PT : Int),.int .i64 (pn : Int)] 3)) 0 (some ⟨w6.heap.size, 0, none⟩) 2 ([PT, pn].map fun x : Nat => (x : Int))) := irow_new (W := w) (l := [PT, pn]) (heap_alloc_new w6 _) rfl (by simp)
 have PV : Hid (∀ x ∈ [PT, pn], x < 9223372036854775808) := fun x hx => by simp only [List.mem_cons, List.not_mem_nil, or_false] at hx; omega
 have AV : Hid (0 < 2 -> ∀ q, blkOf (some (⟨w6.heap.size, 0, none⟩ : Addr)) = some q -> q < g1 ∨ blkOf a6 ≠ some q) := fun _ q hq => by
  right
  intro e
  have h1 := (S.out.own.ge q e).2
  have h2 : w6.heap.size = q := by simpa [blkOf] using hq
  omega
 go_upto_region 7 with (go_at_call 62; refine (Rp.nums SV IV PV AV (by omega) (by omega)).mono ?_; rintro e w7 ⟨a7, n7, c7, rfl, T⟩)
 clear S SV IV PV AV q14
 have S := T
 clear T
 obtain ⟨v1, Hv1⟩ := nm (w7.drew)
 have S1 : Hid (Rp w v1 g1 #[.int .i64 (K : Int),.int .i64 (I0 : Int),.int .i64 (I1 : Int),.int .i64 (I2 : Int),.string bu,.string ke,.int .i64 (U0 : Int),.int .i64 (U1 : Int),.int .i64 (U2 : Int),.int .i64 (B0 : Int),.int .i64 (B1 : Int),.int .i64 (B2 : Int),.int .i64 (SZ : Int),.string et,.int .i64 (PT : Int),.slice pa pn pc,.int .i64 (TM : Int),.int .i64 (DY : Int)] a7 n7 c7 (((((([] ++ encs [K, I0, I1, I2]) ++ (enc bu.size ++ bl bu)) ++ (enc ke.size ++ bl ke)) ++ encs [U0, U1, U2, B0, B1, B2, SZ]) ++ (enc et.size ++ bl et)) ++ encs [PT, pn]) (0 + 4 * 9 + 1009 + 1009 + 7 * 9 + 1009 + 2 * 9)) := by rw [<- Hv1.out]; exact S.out.below (below_drewN (Below.refl _ _) 1)
 have CW : Hid (∀ (W : World) (j : Nat) (v : Value), W.heap[g1]? = some (.cells #[.int .i64 (K : Int),.int .i64 (I0 : Int),.int .i64 (I1 : Int),.int .i64 (I2 : Int),.string bu,.string ke,.int .i64 (U0 : Int),.int .i64 (U1 : Int),.int .i64 (U2 : Int),.int .i64 (B0 : Int),.int .i64 (B1 : Int),.int .i64 (B2 : Int),.int .i64 (SZ : Int),.string et,.int .i64 (PT : Int),.slice pa pn pc,.int .i64 (TM : Int),.int .i64 (DY : Int)] 60 (0, 0)) -> (#[.int .i64 (K : Int),.int .i64 (I0 : Int),.int .i64 (I1 : Int),.int .i64 (I2 : Int),.string bu,.string ke,.int .i64 (U0 : Int),.int .i64 (U1 : Int),.int .i64 (U2 : Int),.int .i64 (B0 : Int),.int .i64 (B1 : Int),.int .i64 (B2 : Int),.int .i64 (SZ : Int),.string et,.int .i64 (PT : Int),.slice pa pn pc,.int .i64 (TM : Int),.int .i64 (DY : Int)] : Array Value)[j]? = some v -> W.cell? ⟨g1, j, none⟩ = some v) := fun W j v h hv => by simp [World.cell?, h, hv]
 clear S
 have LE : Hid ((((((([] ++ encs [K, I0, I1, I2]) ++ (enc bu.size ++ bl bu)) ++ (enc ke.size ++ bl ke)) ++ encs [U0, U1, U2, B0, B1, B2, SZ]) ++ (enc et.size ++ bl et)) ++ encs [PT, pn]) ++ encs PS ++ (enc TM ++ enc DY) = cmdL K I0 I1 I2 bu ke U0 U1 U2 B0 B1 B2 SZ et PT PS TM DY) := by
  show _ = _
  unfold cmdL
  simp only [encs, List.flatMap_cons, List.flatMap_nil, List.append_nil, List.nil_append, List.append_assoc, LP.out]
 refine wp_region_till (ops := ops16) (S := fun _ W => W.heap[g1]? = some (.cells #[.int .i64 (K : Int),.int .i64 (I0 : Int),.int .i64 (I1 : Int),.int .i64 (I2 : Int),.string bu,.string ke,.int .i64 (U0 : Int),.int .i64 (U1 : Int),.int .i64 (U2 : Int),.int .i64 (B0 : Int),.int .i64 (B1 : Int),.int .i64 (B2 : Int),.int .i64 (SZ : Int),.string et,.int .i64 (PT : Int),.slice pa pn pc,.int .i64 (TM : Int),.int .i64 (DY : Int)] 60 (0, 0))) (by kernel_rfl) (by rw [Hv1.out]; exact S1.out.h1) (fun hS => ?_)
 rw [Hv1.out]
 clear hS Hv1
 refine till_load (i := 0) (oi := ⟨some 71, .move (.tmp 3), 27, "ref.go:93", #[], none⟩) (v := .slice a7 n7 c7) (by kernel_rfl) (by kernel_rfl) (by kernel_rfl) (by kernel_rfl) (fun _ _ _ h => h) (Or.inl ⟨by kernel_rfl, fun W hW => by go_simp⟩) S1.out.h1 ?_
 simp only [pG,Act.put]
 refine till_load (i := 1) (oi := ⟨some 72, .fieldAddr 60 (.tmp 1) 7, 0, "ref.go:93", #[], none⟩) (v := .pointer (some ⟨g1, 15, none⟩)) (by kernel_rfl) (by kernel_rfl) (by kernel_rfl) (by kernel_rfl) (fun _ _ _ h => h) (Or.inl ⟨by kernel_rfl, fun W hW => by go_simp⟩) S1.out.h1 ?_
 simp only [pG,Act.put]
 refine till_load (i := 2) (oi := ⟨some 73, .load 55 (.tmp 72), 55, "ref.go:93", #[⟨1, .data⟩], none⟩) (v := .slice pa pn pc) (by kernel_rfl) (by kernel_rfl) (by kernel_rfl) (by kernel_rfl) (fun _ _ _ h => h) (Or.inl ⟨by kernel_rfl, fun W hW => by have q0 := CW.out W 15 _ hW rfl; go_simp⟩) S1.out.h1 ?_
 simp only [pG,Act.put]
 refine till_load (i := 4) (oi := ⟨some 75, .fieldAddr 60 (.tmp 1) 8, 0, "ref.go:93", #[], none⟩) (v := .pointer (some ⟨g1, 16, none⟩)) (by kernel_rfl) (by kernel_rfl) (by kernel_rfl) (by kernel_rfl) (fun _ _ _ h => h) (Or.inl ⟨by kernel_rfl, fun W hW => by go_simp⟩) S1.out.h1 ?_
 simp only [pG,Act.put]
 refine till_load (i := 5) (oi := ⟨some 76, .load 3 (.tmp 75), 3, "ref.go:93", #[⟨4, .data⟩], none⟩) (v := .int .i64 (TM : Int)) (by kernel_rfl) (by kernel_rfl) (by kernel_rfl) (by kernel_rfl) (fun _ _ _ h => h) (Or.inl ⟨by kernel_rfl, fun W hW => by have q0 := CW.out W 16 _ hW rfl; go_simp⟩) S1.out.h1 ?_
 simp only [pG,Act.put]
 refine till_load (i := 6) (oi := ⟨some 77, .fieldAddr 60 (.tmp 1) 9, 0, "ref.go:93", #[], none⟩) (v := .pointer (some ⟨g1, 17, none⟩)) (by kernel_rfl) (by kernel_rfl) (by kernel_rfl) (by kernel_rfl) (fun _ _ _ h => h) (Or.inl ⟨by kernel_rfl, fun W hW => by go_simp⟩) S1.out.h1 ?_
 simp only [pG,Act.put]
 refine till_load (i := 7) (oi := ⟨some 78, .load 3 (.tmp 77), 3, "ref.go:93", #[⟨6, .data⟩], none⟩) (v := .int .i64 (DY : Int)) (by kernel_rfl) (by kernel_rfl) (by kernel_rfl) (by kernel_rfl) (fun _ _ _ h => h) (Or.inl ⟨by kernel_rfl, fun W hW => by have q0 := CW.out W 17 _ hW rfl; go_simp⟩) S1.out.h1 ?_
 simp only [pG,Act.put]
 have AVP : Hid (0 < pn -> ∀ q, blkOf pa = some q -> q < g1 ∨ blkOf a7 ≠ some q) := fun hp q hq => by
  rcases hI.out.row with h0 | ⟨b, off, h1, _, h3, _⟩
  . omega
  . left
    rw [h1] at hq
    have : b = q := by simpa [blkOf] using hq
    have := Hg1.out
    omega
 have P2 : Hid (∀ x ∈ [TM, DY], x < 9223372036854775808) := fun x hx => by simp only [List.mem_cons, List.not_mem_nil, or_false] at hx; omega
 have I1w : Hid (Irow v1 0 pa pn (PS.map fun x : Nat => (x : Int))) := hI.out.keep S1.out.bel.size (fun q _ hq => S1.out.bel.block q hq)
 refine till_two (i := 3) (j := 8) (by kernel_rfl) ?_ ?_
 . refine ⟨⟨some 74, .call { callee := .value (.func 62), args := #[.tmp 71, .tmp 73], argTypes := #[27, 55] }, 27, "ref.go:93", #[⟨0, .data⟩, ⟨2, .data⟩], none⟩, by kernel_rfl, fun KK hK => ?_⟩
   rw [if_pos (by kernel_rfl)]
   go_simp
   go_wp2_with (go_at_call 62; refine (Rp.nums S1 I1w PB AVP (by omega) pn9).mono ?_; rintro e v2 ⟨a8, n8, c8, rfl, S2⟩)
   refine hK.out _ _ S2.out.h1 (fun _ => ?_)
   clear hK KK
   try simp only [pG,Act.put]
   obtain ⟨b, Hb⟩ := nm (v2.heap.size)
   obtain ⟨v3, Hv3⟩ := nm (v2.alloc (.cells #[.int .i64 (TM : Int),.int .i64 (DY : Int)] 3))
   have b3 := al1 Hv3
   have k3 : Hid (v3.heap[b]? = some (.cells #[.int .i64 (TM : Int),.int .i64 (DY : Int)] 3 (0, 0))) := by rw [<- Hv3.out, <- Hb.out]; exact heap_alloc_new v2 _
   have S3 := S2.out.below b3.out
   have T3 : Hid (Rp w v3 g1 #[.int .i64 (K : Int),.int .i64 (I0 : Int),.int .i64 (I1 : Int),.int .i64 (I2 : Int),.string bu,.string ke,.int .i64 (U0 : Int),.int .i64 (U1 : Int),.int .i64 (U2 : Int),.int .i64 (B0 : Int),.int .i64 (B1 : Int),.int .i64 (B2 : Int),.int .i64 (SZ : Int),.string et,.int .i64 (PT : Int),.slice pa pn pc,.int .i64 (TM : Int),.int .i64 (DY : Int)] a8 n8 c8 ((((((([] ++ encs [K, I0, I1, I2]) ++ (enc bu.size ++ bl bu)) ++ (enc ke.size ++ bl ke)) ++ encs [U0, U1, U2, B0, B1, B2, SZ]) ++ (enc et.size ++ bl et)) ++ encs [PT, pn]) ++ encs PS) (0 + 4 * 9 + 1009 + 1009 + 7 * 9 + 1009 + 2 * 9 + pn * 9)) := S3
   have AV : Hid (0 < 2 -> ∀ q, blkOf (some (⟨b, 0, none⟩ : Addr)) = some q -> q < g1 ∨ blkOf a8 ≠ some q) := fun _ q hq => by
    right
    intro e
    have h1 := (S2.out.own.ge q e).2
    have h2 : b = q := by simpa [blkOf] using hq
    have := Hb.out
    omega
   refine till_one (i := 8) (by kernel_rfl) (o := ⟨some 79, .buildSlice 55 2 #[(0, .tmp 76), (1, .tmp 78)], 55, "ref.go:93", #[⟨5, .data⟩, ⟨7, .data⟩], none⟩) (by kernel_rfl) (fun KK hK => ?_)
   rw [if_pos (by kernel_rfl)]
   go_simp
   try go_wp2
   rw [Hv3.out, Hb.out]
   refine hK.out _ _ T3.out.h1 (fun _ => ?_)
   clear hK KK S3 S2
   try simp only [pG,Act.put]
   have I3 : Hid (Irow v3 0 (some ⟨b, 0, none⟩) 2 ([TM, DY].map fun x : Nat => (x : Int))) := irow_new (W := w) (l := [TM, DY]) k3.out rfl (by simp)
   refine till_one (i := 9) (by kernel_rfl) (o := ⟨some 80, .call { callee := .value (.func 62), args := #[.tmp 74, .tmp 79], argTypes := #[27, 55] }, 27, "ref.go:93", #[⟨3, .data⟩, ⟨8, .data⟩, ⟨3, .chain⟩], none⟩) (by kernel_rfl) (fun KK hK => ?_)
   rw [if_pos (by kernel_rfl)]
   go_simp
   go_wp2_with (go_at_call 62; refine (Rp.nums T3 I3 P2 AV (by omega) (by omega)).mono ?_; rintro e v4 ⟨a9, n9, c9, rfl, T4⟩)
   refine hK.out _ _ T4.out.h1 (fun _ => ?_)
   clear hK KK
   try simp only [pG,Act.put]
   refine till_one (i := 10) (by kernel_rfl) (o := ⟨some 2, .assign (.tmp 80), 27, "ref.go:93", #[⟨9, .data⟩, ⟨9, .chain⟩, ⟨0, .phase⟩, ⟨1, .phase⟩, ⟨2, .phase⟩, ⟨3, .phase⟩, ⟨4, .phase⟩, ⟨5, .phase⟩, ⟨6, .phase⟩, ⟨7, .phase⟩, ⟨8, .phase⟩, ⟨9, .phase⟩], none⟩) (by kernel_rfl) (fun KK hK => ?_)
   rw [if_pos (by kernel_rfl)]
   go_simp
   refine hK.out _ _ T4.out.h1 (fun _ => ?_)
   clear hK KK
   try simp only [pG,Act.put]
   refine till_done (by kernel_rfl) ?_ _
   show (Exit.then _ _) .normal _ _
   go_wp2
   go_ret
   have h := T4.out
   rw [show encs [TM, DY] = enc TM ++ enc DY by simp [encs], LE.out] at h
   exact ⟨a9, n9, c9, rfl, h.own.le (by have := h.lw; omega), h.bel, by have := h.ln; omega⟩
 . refine ⟨⟨some 79, .buildSlice 55 2 #[(0, .tmp 76), (1, .tmp 78)], 55, "ref.go:93", #[⟨5, .data⟩, ⟨7, .data⟩], none⟩, by kernel_rfl, fun KK hK => ?_⟩
   rw [if_pos (by kernel_rfl)]
   obtain ⟨b, Hb⟩ := nm (v1.heap.size)
   obtain ⟨v2, Hv2⟩ := nm (v1.alloc (.cells #[.int .i64 (TM : Int),.int .i64 (DY : Int)] 3))
   have b2 := al1 Hv2
   have k2 : Hid (v2.heap[b]? = some (.cells #[.int .i64 (TM : Int),.int .i64 (DY : Int)] 3 (0, 0))) := by rw [<- Hv2.out, <- Hb.out]; exact heap_alloc_new v1 _
   have T2 : Hid (Rp w v2 g1 #[.int .i64 (K : Int),.int .i64 (I0 : Int),.int .i64 (I1 : Int),.int .i64 (I2 : Int),.string bu,.string ke,.int .i64 (U0 : Int),.int .i64 (U1 : Int),.int .i64 (U2 : Int),.int .i64 (B0 : Int),.int .i64 (B1 : Int),.int .i64 (B2 : Int),.int .i64 (SZ : Int),.string et,.int .i64 (PT : Int),.slice pa pn pc,.int .i64 (TM : Int),.int .i64 (DY : Int)] a7 n7 c7 (((((([] ++ encs [K, I0, I1, I2]) ++ (enc bu.size ++ bl bu)) ++ (enc ke.size ++ bl ke)) ++ encs [U0, U1, U2, B0, B1, B2, SZ]) ++ (enc et.size ++ bl et)) ++ encs [PT, pn]) (0 + 4 * 9 + 1009 + 1009 + 7 * 9 + 1009 + 2 * 9)) := S1.out.below b2.out
   have I2w : Hid (Irow v2 0 pa pn (PS.map fun x : Nat => (x : Int))) := I1w.out.below b2.out
   go_simp
   try go_wp2
   rw [Hv2.out, Hb.out]
   refine hK.out _ _ T2.out.h1 (fun _ => ?_)
   clear hK KK
   try simp only [pG,Act.put]
   refine till_one (i := 3) (by kernel_rfl) (o := ⟨some 74, .call { callee := .value (.func 62), args := #[.tmp 71, .tmp 73], argTypes := #[27, 55] }, 27, "ref.go:93", #[⟨0, .data⟩, ⟨2, .data⟩], none⟩) (by kernel_rfl) (fun KK hK => ?_)
   rw [if_pos (by kernel_rfl)]
   go_simp
   go_wp2_with (go_at_call 62; refine (Rp.numsC T2 I2w PB AVP (by omega) pn9).mono ?_; rintro e v3 ⟨a8, n8, c8, rfl, S2⟩)
   have T3 : Hid (Rp w v3 g1 #[.int .i64 (K : Int),.int .i64 (I0 : Int),.int .i64 (I1 : Int),.int .i64 (I2 : Int),.string bu,.string ke,.int .i64 (U0 : Int),.int .i64 (U1 : Int),.int .i64 (U2 : Int),.int .i64 (B0 : Int),.int .i64 (B1 : Int),.int .i64 (B2 : Int),.int .i64 (SZ : Int),.string et,.int .i64 (PT : Int),.slice pa pn pc,.int .i64 (TM : Int),.int .i64 (DY : Int)] a8 n8 c8 ((((((([] ++ encs [K, I0, I1, I2]) ++ (enc bu.size ++ bl bu)) ++ (enc ke.size ++ bl ke)) ++ encs [U0, U1, U2, B0, B1, B2, SZ]) ++ (enc et.size ++ bl et)) ++ encs [PT, pn]) ++ encs PS) (0 + 4 * 9 + 1009 + 1009 + 7 * 9 + 1009 + 2 * 9 + pn * 9)) := S2.out.1
   have NB : Hid (blkOf a7 ≠ some b) := fun e => by
    have h1 := (S1.out.own.ge b e).2
    have := Hb.out
    omega
   have k3 : Hid (v3.heap[b]? = some (.cells #[.int .i64 (TM : Int),.int .i64 (DY : Int)] 3 (0, 0))) := (S2.out.2.1.block b (gl k2.out) NB.out).trans k2.out
   have AV : Hid (0 < 2 -> ∀ q, blkOf (some (⟨b, 0, none⟩ : Addr)) = some q -> q < g1 ∨ blkOf a8 ≠ some q) := fun _ q hq => by
    right
    intro e
    have h2 : b = q := by simpa [blkOf] using hq
    subst h2
    rcases S2.out.2.2 b e with h3 | h3
    . exact NB.out h3
    . have := (gl k2.out)
      omega
   refine hK.out _ _ T3.out.h1 (fun _ => ?_)
   clear hK KK
   try simp only [pG,Act.put]
   have I3 : Hid (Irow v3 0 (some ⟨b, 0, none⟩) 2 ([TM, DY].map fun x : Nat => (x : Int))) := irow_new (W := w) (l := [TM, DY]) k3.out rfl (by simp)
   refine till_one (i := 9) (by kernel_rfl) (o := ⟨some 80, .call { callee := .value (.func 62), args := #[.tmp 74, .tmp 79], argTypes := #[27, 55] }, 27, "ref.go:93", #[⟨3, .data⟩, ⟨8, .data⟩, ⟨3, .chain⟩], none⟩) (by kernel_rfl) (fun KK hK => ?_)
   rw [if_pos (by kernel_rfl)]
   go_simp
   go_wp2_with (go_at_call 62; refine (Rp.nums T3 I3 P2 AV (by omega) (by omega)).mono ?_; rintro e v4 ⟨a9, n9, c9, rfl, T4⟩)
   refine hK.out _ _ T4.out.h1 (fun _ => ?_)
   clear hK KK
   try simp only [pG,Act.put]
   refine till_one (i := 10) (by kernel_rfl) (o := ⟨some 2, .assign (.tmp 80), 27, "ref.go:93", #[⟨9, .data⟩, ⟨9, .chain⟩, ⟨0, .phase⟩, ⟨1, .phase⟩, ⟨2, .phase⟩, ⟨3, .phase⟩, ⟨4, .phase⟩, ⟨5, .phase⟩, ⟨6, .phase⟩, ⟨7, .phase⟩, ⟨8, .phase⟩, ⟨9, .phase⟩], none⟩) (by kernel_rfl) (fun KK hK => ?_)
   rw [if_pos (by kernel_rfl)]
   go_simp
   refine hK.out _ _ T4.out.h1 (fun _ => ?_)
   clear hK KK
   try simp only [pG,Act.put]
   refine till_done (by kernel_rfl) ?_ _
   show (Exit.then _ _) .normal _ _
   go_wp2
   go_ret
   have h := T4.out
   rw [show encs [TM, DY] = enc TM ++ enc DY by simp [encs], LE.out] at h
   exact ⟨a9, n9, c9, rfl, h.own.le (by have := h.lw; omega), h.bel, by have := h.ln; omega⟩
set_option maxHeartbeats 4000000 in
theorem put_ok {w : World} {K I0 I1 I2 U0 U1 U2 B0 B1 B2 SZ PT TM DY : Nat} {bu ke et : ByteArray} {PS : List Nat} {pa : Option Addr} {pn pc : Nat} (hI : Hid (Irow w 0 pa pn (PS.map fun x : Nat => (x : Int)))) (qK : K < 9223372036854775808) (qI0 : I0 < 9223372036854775808) (qI1 : I1 < 9223372036854775808) (qI2 : I2 < 9223372036854775808) (qU0 : U0 < 9223372036854775808) (qU1 : U1 < 9223372036854775808) (qU2 : U2 < 9223372036854775808) (qB0 : B0 < 9223372036854775808) (qB1 : B1 < 9223372036854775808) (qB2 : B2 < 9223372036854775808) (qSZ : SZ < 9223372036854775808) (qPT : PT < 9223372036854775808) (qTM : TM < 9223372036854775808) (qDY : DY < 9223372036854775808) (s1 : bu.size <= 1000) (s2 : ke.size <= 1000) (s3 : et.size <= 1000) (pn9 : pn <= 1000) (PB : Hid (∀ x ∈ PS, x < 9223372036854775808)) (HF : Hid (frm ⟨(K : Int), I0, I1, I2, bu, ke, U0, U1, U2, B0, B1, B2, SZ, et, PT, PS.map fun x : Nat => (x : Int), TM, DY⟩ = true)) :
  Calls Tryd.prog 36 #[.agg #[.int .i64 (K : Int),.int .i64 (I0 : Int),.int .i64 (I1 : Int),.int .i64 (I2 : Int),.string bu,.string ke,.int .i64 (U0 : Int),.int .i64 (U1 : Int),.int .i64 (U2 : Int),.int .i64 (B0 : Int),.int .i64 (B1 : Int),.int .i64 (B2 : Int),.int .i64 (SZ : Int),.string et,.int .i64 (PT : Int),.slice pa pn pc,.int .i64 (TM : Int),.int .i64 (DY : Int)]] w fun e w' => ∃ a n c, e = .returned (.tuple #[.slice a n c, .nilIface]) /\ Hid (Own w' w.heap.size a n c (cmdL K I0 I1 I2 bu ke U0 U1 U2 B0 B1 B2 SZ et PT PS TM DY) /\ Below w.heap.size w w') := by
 obtain ⟨g1, Hg1⟩ := nm (w.heap.size)
 obtain ⟨w1, Hw1⟩ := nm (w.alloc (.cells #[.int .i64 (K : Int),.int .i64 (I0 : Int),.int .i64 (I1 : Int),.int .i64 (I2 : Int),.string bu,.string ke,.int .i64 (U0 : Int),.int .i64 (U1 : Int),.int .i64 (U2 : Int),.int .i64 (B0 : Int),.int .i64 (B1 : Int),.int .i64 (B2 : Int),.int .i64 (SZ : Int),.string et,.int .i64 (PT : Int),.slice pa pn pc,.int .i64 (TM : Int),.int .i64 (DY : Int)] 60))
 have HB1 := al1 Hw1
 have k1 : Hid (w1.heap[g1]? = some (.cells #[.int .i64 (K : Int),.int .i64 (I0 : Int),.int .i64 (I1 : Int),.int .i64 (I2 : Int),.string bu,.string ke,.int .i64 (U0 : Int),.int .i64 (U1 : Int),.int .i64 (U2 : Int),.int .i64 (B0 : Int),.int .i64 (B1 : Int),.int .i64 (B2 : Int),.int .i64 (SZ : Int),.string et,.int .i64 (PT : Int),.slice pa pn pc,.int .i64 (TM : Int),.int .i64 (DY : Int)] 60 (0, 0))) := by rw [<- Hw1.out, <- Hg1.out]; exact heap_alloc_new w _
 have HI1 : Hid (Irow w1 0 pa pn (PS.map fun x : Nat => (x : Int))) := hI.out.keep HB1.out.size (fun q _ hq => HB1.out.block q hq)
 have R1 : w1.rangeAt g1 0 [.int .i64 (K : Int),.int .i64 (I0 : Int),.int .i64 (I1 : Int),.int .i64 (I2 : Int),.string bu,.string ke,.int .i64 (U0 : Int),.int .i64 (U1 : Int),.int .i64 (U2 : Int),.int .i64 (B0 : Int),.int .i64 (B1 : Int),.int .i64 (B2 : Int),.int .i64 (SZ : Int),.string et,.int .i64 (PT : Int),.slice pa pn pc,.int .i64 (TM : Int),.int .i64 (DY : Int)] := range_blk k1.out
 go_enter Tryd.func36, Tryd.ntmps36
 go_upto_region 1 with (fail)
 rw [Hw1.out, Hg1.out]
 go_upto_region 4 with first
  | (refine wpList_load_mid (by rfl) 60 (.tmp 1) (by rfl) g1 0 (by rfl) _ _ R1 Tryd.underlying60 rfl (by kernel_rfl) ?_)
  | (go_at_call 54; refine (check_ok HI1 HF).mono ?_; rintro e w2 ⟨rfl, h2⟩)
 have HB2 := bt HB1 h2
 have k2 := sh h2 k1
 clear h2 k1 HI1 HB1 HF R1
 go_upto_region 5 with (go_at_call 34; refine (newW_n _ w.heap.size).mono ?_; rintro e w3 ⟨gW, rfl, h3⟩)
 obtain ⟨g5, Hg5⟩ := nm (w3.heap.size)
 obtain ⟨w4, Hw4⟩ := nm (w3.alloc (.cells #[.pointer (some ⟨gW, 0, none⟩)] 70))
 have b34 := al1 Hw4
 have W4 : Hid (Wri w4 gW w.heap.size none 0 0 [] false) := h3.out.2.2.below b34.out
 have B4 : Hid (Below w.heap.size w w4) := (HB2.out.trans (h3.out.2.1.mono HB2.out.size)).trans (b34.out.mono (Nat.le_trans HB2.out.size h3.out.2.1.size))
 have k4 : Hid (w4.heap[g1]? = some (.cells #[.int .i64 (K : Int),.int .i64 (I0 : Int),.int .i64 (I1 : Int),.int .i64 (I2 : Int),.string bu,.string ke,.int .i64 (U0 : Int),.int .i64 (U1 : Int),.int .i64 (U2 : Int),.int .i64 (B0 : Int),.int .i64 (B1 : Int),.int .i64 (B2 : Int),.int .i64 (SZ : Int),.string et,.int .i64 (PT : Int),.slice pa pn pc,.int .i64 (TM : Int),.int .i64 (DY : Int)] 60 (0, 0))) := (b34.out.block g1 (Nat.lt_of_lt_of_le (gl k2.out) h3.out.2.1.size)).trans ((h3.out.2.1.block g1 (gl k2.out)).trans k2.out)
 have k5 : Hid (w4.heap[g5]? = some (.cells #[.pointer (some ⟨gW, 0, none⟩)] 70 (0, 0))) := by rw [<- Hw4.out, <- Hg5.out]; exact heap_alloc_new w3 _
 have GB : Hid (w.heap.size <= gW) := Nat.le_trans HB2.out.size h3.out.1
 have G5 : Hid (g5 ≠ gW) := by
  have h1 := h3.out.2.2.lt
  rw [Hg5.out] at h1
  exact (Nat.ne_of_lt h1).symm
 rw [Hw4.out, Hg5.out]
 clear h3 k2 HB2 Hw4 Hg5
 have R4 : w4.rangeAt g1 0 [.int .i64 (K : Int),.int .i64 (I0 : Int),.int .i64 (I1 : Int),.int .i64 (I2 : Int),.string bu,.string ke,.int .i64 (U0 : Int),.int .i64 (U1 : Int),.int .i64 (U2 : Int),.int .i64 (B0 : Int),.int .i64 (B1 : Int),.int .i64 (B2 : Int),.int .i64 (SZ : Int),.string et,.int .i64 (PT : Int),.slice pa pn pc,.int .i64 (TM : Int),.int .i64 (DY : Int)] := range_blk k4.out
 have d0 : w4.cell? ⟨g5, 0, none⟩ = some (.pointer (some ⟨gW, 0, none⟩)) := by simp [World.cell?, k5.out]
 have IW : Hid (∀ W', Below w.heap.size w4 W' -> Irow W' 0 pa pn (PS.map fun x : Nat => (x : Int))) := fun W' hb => hI.out.keep (B4.out.trans hb).size (fun q _ hq => (B4.out.trans hb).block q hq)
 have HB4 : Hid (w.heap.size <= w4.heap.size) := B4.out.size
 go_upto_region 6 with first
  | (refine wpList_load_mid (by rfl) 60 (.tmp 1) (by rfl) g1 0 (by rfl) _ _ R4 Tryd.underlying60 rfl (by kernel_rfl) ?_)
  | (go_at_call 56; refine (wcmd_n W4 IW PB qK qI0 qI1 qI2 qU0 qU1 qU2 qB0 qB1 qB2 qSZ qPT qTM qDY s1 s2 s3 pn9 HB4 GB (by omega)).mono ?_; rintro e w5 ⟨a5, n5, c5', rfl, h5⟩)
 clear R4 d0
 have k55 : w5.heap[g5]? = some (.cells #[.pointer (some ⟨gW, 0, none⟩)] 70 (0, 0)) := (h5.out.2.1.block g5 (gl k5.out) G5.out (by simp [blkOf])).trans k5.out
 have d0 : w5.cell? ⟨g5, 0, none⟩ = some (.pointer (some ⟨gW, 0, none⟩)) := by simp [World.cell?, k55]
 have W5 : Hid (Wri w5 gW w.heap.size a5 n5 c5' ([] ++ cmdL K I0 I1 I2 bu ke U0 U1 U2 B0 B1 B2 SZ et PT PS TM DY) false) := h5.out.1
 have B5 : Hid (Below w.heap.size w w5) := Wfr.below B4.out h5.out.2.1 GB.out (fun q hq => by cases hq) HB4.out
 have N5 : Hid (n5 <= 140737488352256) := by have := h5.out.2.2.2; show _ <= _; omega
 clear k55 h5 k4 k5 W4
 go_wp2_with (go_at_call 38; refine (done_n W5 N5).mono ?_; rintro e w6 ⟨a6, c6', rfl, h6⟩)
 go_ret2
 have h := h6.out
 rw [List.nil_append] at h
 exact ⟨a6, n5, c6', rfl, h.1.le B5.out.size, B5.out.trans (h.2.mono B5.out.size)⟩
end Go.Proofs.YtppibcambhmomaaDoor
