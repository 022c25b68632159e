import Derived.Test.YtoegfckafnlknaaDoorMKb
import Derived.Test.YtoegfckafnlknaaDoorMCm
/- Kd -/
/- CommandLengths: the walk. -/
namespace Go.Proofs.YtoegfckafnlknaaDoor
open Go.ChangeShapes Go.WideShapes Go.ChangeAt Go.RowKit
set_option maxRecDepth 20000
set_option linter.unusedVariables false
set_option linter.unusedSimpArgs false
noncomputable def opr8a : Array Oper := match Tryd.f8.body with
  | some c => match regIn 5 c with
    | some o => o
    | none => #[]
  | none => #[]
noncomputable def opr8b : Array Oper := match Tryd.f8.body with
  | some c => match regIn 13 c with
    | some o => o
    | none => #[]
  | none => #[]
theorem fold36 {A D : Array Value} {x y : Cx} (h : A = (encX x).toArray) (h2 : D = (encX y).toArray) : Array.foldl (fun cs (x : Value × Nat) => cs.setIfInBounds (18 + x.snd) x.fst) (Array.foldl (fun cs (x : Value × Nat) => cs.setIfInBounds x.snd x.fst) #[.int .i64 0, .int .i64 0, .int .i64 0, .int .i64 0, .string ⟨#[]⟩, .string ⟨#[]⟩, .int .i64 0, .int .i64 0, .int .i64 0, .int .i64 0, .int .i64 0, .int .i64 0, .int .i64 0, .string ⟨#[]⟩, .int .i64 0, .slice none 0 0, .int .i64 0, .int .i64 0, .int .i64 0, .int .i64 0, .int .i64 0, .int .i64 0, .string ⟨#[]⟩, .string ⟨#[]⟩, .int .i64 0, .int .i64 0, .int .i64 0, .int .i64 0, .int .i64 0, .int .i64 0, .int .i64 0, .string ⟨#[]⟩, .int .i64 0, .slice none 0 0, .int .i64 0, .int .i64 0] A.zipIdx 0 18) D.zipIdx 0 18 = (encX x ++ encX y).toArray := by
  obtain ⟨⟨k, i0, i1, i2, bu, ke, u0, u1, u2, b0, b1, b2, sz, et, pt, ps, tm, dy⟩, pa, pn, pc⟩ := x
  obtain ⟨⟨k', i0', i1', i2', bu', ke', u0', u1', u2', b0', b1', b2', sz', et', pt', ps', tm', dy'⟩, pa', pn', pc'⟩ := y
  subst h h2
  kernel_rfl
theorem fold36s {A : Array Value} {x : Cx} (h : A = (encX x).toArray) : (Array.foldl (fun cs (x : Value × Nat) => cs.setIfInBounds x.snd x.fst) #[.int .i64 0, .int .i64 0, .int .i64 0, .int .i64 0, .string ⟨#[]⟩, .string ⟨#[]⟩, .int .i64 0, .int .i64 0, .int .i64 0, .int .i64 0, .int .i64 0, .int .i64 0, .int .i64 0, .string ⟨#[]⟩, .int .i64 0, .slice none 0 0, .int .i64 0, .int .i64 0, .int .i64 0, .int .i64 0, .int .i64 0, .int .i64 0, .string ⟨#[]⟩, .string ⟨#[]⟩, .int .i64 0, .int .i64 0, .int .i64 0, .int .i64 0, .int .i64 0, .int .i64 0, .int .i64 0, .string ⟨#[]⟩, .int .i64 0, .slice none 0 0, .int .i64 0, .int .i64 0] A.zipIdx 0 18).size = 36 := by
  obtain ⟨⟨k, i0, i1, i2, bu, ke, u0, u1, u2, b0, b1, b2, sz, et, pt, ps, tm, dy⟩, pa, pn, pc⟩ := x
  subst h
  kernel_rfl
theorem led_two {Z : List Cx} {u v : Nm} (h : led Z = [u, v].map Nm.cm) : ∃ p1 p2, Z = [p1, p2] ∧ p1.cm = u.cm ∧ p2.cm = v.cm := by
  rw [led_cm] at h
  match Z, h with
  | [], h => simp at h
  | [_], h => simp at h
  | [p1, p2], h => exact ⟨p1, p2, rfl, by simpa using h⟩
  | _ :: _ :: _ :: _, h => simp at h
theorem toL_eq {b : Bool} {s t : ByteArray} (h : decide (s = t) = b) : (s.toList == t.toList) = b := by
  rw [← h, ByteArray.toList_eq, ByteArray.toList_eq]
  by_cases h : s = t
  · subst h; simp
  · have h2 : ¬ (s.data.toList = t.data.toList) := fun e => h (ByteArray.ext (Array.toList_inj.1 e))
    rw [decide_eq_false h]
    simpa using h2
theorem cms_two {w : World} {g : Nat} {x y : Cx} (h : w.heap[g]? = some (.cells (encX x ++ encX y).toArray 28 (0, 0))) (hx : Irow w 0 x.pa x.pn x.cm.ps ∧ (x.pa = none → x.pc = 0)) (hy : Irow w 0 y.pa y.pn y.cm.ps ∧ (y.pa = none → y.pc = 0)) (hsx : x.cm.bu.size ≤ 281474976710656 ∧ x.cm.ke.size ≤ 281474976710656 ∧ x.cm.et.size ≤ 281474976710656) (hsy : y.cm.bu.size ≤ 281474976710656 ∧ y.cm.ke.size ≤ 281474976710656 ∧ y.cm.et.size ≤ 281474976710656) : Cms w 0 (some ⟨g, 0, none⟩) 2 [x, y] := by
  refine ⟨rfl, by omega, .inr ⟨g, 0, rfl, Nat.zero_le _, (Array.getElem?_eq_some_iff.1 h).1, ?_⟩, fun z hz => ?_, fun z hz => ?_⟩
  · have h2 := range_blk h
    have e : flat [x, y] = encX x ++ encX y := by simp [flat]
    rw [e]
    exact h2
  · rcases List.mem_cons.1 hz with rfl | hz
    · exact hx
    · obtain rfl := List.mem_singleton.1 hz
      exact hy
  · rcases List.mem_cons.1 hz with rfl | hz
    · exact hsx
    · obtain rfl := List.mem_singleton.1 hz
      exact hsy
theorem yl_mid {ops : Array Oper} {C : World → Prop} {op : Oper} {a : Act} {A : Array Value} {g o : Nat} {x : Operand} (hw : Region.wanted op (yielded ops a.tmps) = true) (ho : op.op = .load 28 x) (hx : a.eval x = .pointer (some ⟨g, o, none⟩)) (hS : ∀ W, C W → W.rangeAt g o A.toList) (h18 : A.size = 18) : YieldsIf Tryd.prog ops C op (.agg A) a := by
  have h := yieldsIf_load_mid (P := Tryd.prog) (S := C) hw 28 x ho g o hx A.toList _ hS Tryd.underlying28 rfl (by rw [Array.length_toList]; exact info28 h18)
  simpa using h
theorem wrL_bytes {ys : List Nm} (h : ∀ y ∈ ys, ∀ x ∈ y.by, x < 256) : ∀ x ∈ wrL ys, x < 256 := by
  intro x hx
  unfold wrL at hx
  rcases List.mem_append.1 hx with hx | hx
  · exact enc_bytes _ x hx
  · obtain ⟨y, hy, hx⟩ := List.mem_flatMap.1 hx
    rcases List.mem_append.1 hx with hx | hx
    · exact enc_bytes _ x hx
    · exact h y hy x hx
theorem spell_injB {a b : List Nat} (ha : ∀ x ∈ a, x < 256) (hb : ∀ x ∈ b, x < 256) (h : spell a = spell b) : a = b := by rw [← bl_spell ha, ← bl_spell hb, h]
theorem by_inj {u v : Nm} (hu : Nb u ∧ frm u.cm = true) (hv : Nb v ∧ frm v.cm = true) (h : u.by = v.by) : u = v := by
  have h1 := rdG_there hu.1 hu.2
  rw [h, rdG_there hv.1 hv.2] at h1
  exact (Option.some.inj h1).symm
theorem two_inj {u v : Nm} (hu : Nb u ∧ frm u.cm = true) (hv : Nb v ∧ frm v.cm = true) (h : sealL (wrL [u, v]) = sealL (wrL [v, u])) : u = v := by
  have h1 : wrL [u, v] = wrL [v, u] := by rw [← seal_take (wrL [u, v]), h, seal_take]
  have a1 : ∀ y ∈ [u, v], Nb y ∧ frm y.cm = true := fun y hy => by
    rcases List.mem_cons.1 hy with rfl | hy
    · exact hu
    · obtain rfl := List.mem_singleton.1 hy; exact hv
  have a2 : ∀ y ∈ [v, u], Nb y ∧ frm y.cm = true := fun y hy => by
    rcases List.mem_cons.1 hy with rfl | hy
    · exact hv
    · obtain rfl := List.mem_singleton.1 hy; exact hu
  have h2 := rdW_there (ys := [u, v]) (by simp) a1
  rw [h1, rdW_there (ys := [v, u]) (by simp) a2] at h2
  exact (List.cons.inj (Option.some.inj h2)).1.symm
theorem eq_strb {b : Bool} {s t : ByteArray} (h : decide (s = t) = b) (d : Nat) (w : World) : (Op.equalIn (d + 1) 9 (.string s) (.string t)).run Tryd.prog w = .ok b w := by rw [eqS, h]
structure Tbx (w W : World) (g2 g3 : Nat) (A D : Array Value) (x y : Cx) : Prop where
  k2 : W.heap[g2]? = some (.cells A 28 (0, 0))
  k3 : W.heap[g3]? = some (.cells D 28 (0, 0))
  rx : Irow W 0 x.pa x.pn x.cm.ps
  ry : Irow W 0 y.pa y.pn y.cm.ps
  bel : Below w.heap.size w W
theorem Tbx.below {w W W' : World} {g2 g3 : Nat} {A D : Array Value} {x y : Cx} (h : Tbx w W g2 g3 A D x y) (hb : Below W.heap.size W W') : Tbx w W' g2 g3 A D x y :=
  ⟨(hb.block g2 (Array.getElem?_eq_some_iff.1 h.k2).1).trans h.k2, (hb.block g3 (Array.getElem?_eq_some_iff.1 h.k3).1).trans h.k3, h.rx.below hb, h.ry.below hb, h.bel.trans (hb.mono h.bel.size)⟩
set_option maxHeartbeats 2000000 in
theorem len_ff {w : World} {M : Nat → Prop} {E : Nat → Addr} {x y : Cx} {A D : Array Value} (hE : Hid (Sent w M E)) (hM0 : M 0) (hM1 : M 1) (hM7 : M 7) (hA : Hid (A = (encX x).toArray)) (hIx : Hid (Irow w 0 x.pa x.pn x.cm.ps)) (hzx : Hid (x.pa = none → x.pc = 0)) (hsx : Hid (x.cm.bu.size ≤ 281474976710656 ∧ x.cm.ke.size ≤ 281474976710656 ∧ x.cm.et.size ≤ 281474976710656)) (hD : Hid (D = (encX y).toArray)) (hIy : Hid (Irow w 0 y.pa y.pn y.cm.ps)) (hzy : Hid (y.pa = none → y.pc = 0)) (hsy : Hid (y.cm.bu.size ≤ 281474976710656 ∧ y.cm.ke.size ≤ 281474976710656 ∧ y.cm.et.size ≤ 281474976710656)) (fx : Hid (frm x.cm = false)) (fy : Hid (frm y.cm = false)) :
    Calls Tryd.prog 8 #[.agg A, .agg D] w fun e w' => e = .returned (.bool true) ∧ Hid (Below w.heap.size w w') := by
  have a18 : A.size = 18 := encX_sz hA.out
  have d18 : D.size = 18 := encX_sz hD.out
  obtain ⟨g2, Hg2⟩ : ∃ g, Hid (w.heap.size = g) := ⟨_, rfl⟩
  obtain ⟨g3, Hg3⟩ : ∃ g, Hid (w.heap.size + 1 = g) := ⟨_, rfl⟩
  obtain ⟨w1, Hw1⟩ : ∃ w1, Hid ((w.alloc (.cells A 28)).alloc (.cells D 28) = w1) := ⟨_, rfl⟩
  have X1 : Hid (Tbx w w1 g2 g3 A D x y) := by
    have b : Below w.heap.size w w1 := by rw [← Hw1.out]; exact alloc2 w _ _
    refine ⟨?_, ?_, hIx.out.below b, hIy.out.below b, b⟩
    · rw [← Hw1.out, ← Hg2.out]; exact heap_alloc2_old w _ _
    · rw [← Hw1.out, ← Hg3.out]; exact heap_alloc2_new w _ _
  go_enter Tryd.func8, Tryd.ntmps8
  go_upto_region 1 with (fail)
  rw [Hw1.out, Hg3.out, Hg2.out]
  clear Hw1
  go_upto_region 3 with (go_at_call 9; refine (alive_n _).mono ?_; rintro e w2 ⟨rfl, h2⟩)
  have X2 : Hid (Tbx w w2 g2 g3 A D x y) := X1.out.below h2.out
  have RX2 : Hid (Irow w2 0 x.pa x.pn x.cm.ps) := X2.out.rx
  have E2 : Hid (Sent w2 M E) := hE.out.below X2.out.bel
  clear X1 h2
  go_upto_region 4 with first
    | (refine wpList_load_row (by rfl) 28 (.tmp 2) (by rfl) g2 (by rfl) 28 A (0, 0) _ X2.out.k2 Tryd.underlying28 rfl (info28 a18) ?_)
    | (go_at_call 12; refine (putx_no hA RX2 E2 hM0 fx).mono ?_; rintro e w3 ⟨rfl, h3⟩; have BW3 := h3.out)
  have X3 : Hid (Tbx w w3 g2 g3 A D x y) := X2.out.below BW3
  have RY3 : Hid (Irow w3 0 y.pa y.pn y.cm.ps) := X3.out.ry
  have E3 : Hid (Sent w3 M E) := hE.out.below X3.out.bel
  go_upto_region 5 with first
    | (refine wpList_load_row (by rfl) 28 (.tmp 3) (by rfl) g3 (by rfl) 28 D (0, 0) _ X3.out.k3 Tryd.underlying28 rfl (info28 d18) ?_)
    | (go_at_call 12; refine (putx_no hD RY3 E3 hM0 fy).mono ?_; rintro e w4 ⟨rfl, h4⟩; have BW4 := h4.out)
  have X4 : Hid (Tbx w w4 g2 g3 A D x y) := X3.out.below BW4
  have RX4 : Hid (Irow w4 0 x.pa x.pn x.cm.ps) := X4.out.rx
  go_upto_region 6 with first
    | (refine wpList_load_row (by rfl) 28 (.tmp 2) (by rfl) g2 (by rfl) 28 A (0, 0) _ X4.out.k2 Tryd.underlying28 rfl (info28 a18) ?_)
    | (go_at_call 14; refine (inf_x hA RX4 hsx).mono ?_; rintro e w5 ⟨rfl, h5⟩; rw [fx.out])
  go_wp2
  go_ret
  exact ⟨rfl, X4.out.bel.trans (h5.out.mono X4.out.bel.size)⟩
set_option maxHeartbeats 2000000 in
theorem len_ft {w : World} {M : Nat → Prop} {E : Nat → Addr} {x y : Cx} {A D : Array Value} {v : Nm} (hE : Hid (Sent w M E)) (hM0 : M 0) (hM1 : M 1) (hM7 : M 7) (hA : Hid (A = (encX x).toArray)) (hIx : Hid (Irow w 0 x.pa x.pn x.cm.ps)) (hzx : Hid (x.pa = none → x.pc = 0)) (hsx : Hid (x.cm.bu.size ≤ 281474976710656 ∧ x.cm.ke.size ≤ 281474976710656 ∧ x.cm.et.size ≤ 281474976710656)) (hD : Hid (D = (encX y).toArray)) (hIy : Hid (Irow w 0 y.pa y.pn y.cm.ps)) (hzy : Hid (y.pa = none → y.pc = 0)) (hsy : Hid (y.cm.bu.size ≤ 281474976710656 ∧ y.cm.ke.size ≤ 281474976710656 ∧ y.cm.et.size ≤ 281474976710656)) (fx : Hid (frm x.cm = false)) (hy : Hid (y.cm = v.cm)) (by_ : Hid (Nb v)) (fv : Hid (frm v.cm = true)) :
    Calls Tryd.prog 8 #[.agg A, .agg D] w fun e w' => e = .returned (.bool true) ∧ Hid (Below w.heap.size w w') := by
  have a18 : A.size = 18 := encX_sz hA.out
  have d18 : D.size = 18 := encX_sz hD.out
  obtain ⟨g2, Hg2⟩ : ∃ g, Hid (w.heap.size = g) := ⟨_, rfl⟩
  obtain ⟨g3, Hg3⟩ : ∃ g, Hid (w.heap.size + 1 = g) := ⟨_, rfl⟩
  obtain ⟨w1, Hw1⟩ : ∃ w1, Hid ((w.alloc (.cells A 28)).alloc (.cells D 28) = w1) := ⟨_, rfl⟩
  have X1 : Hid (Tbx w w1 g2 g3 A D x y) := by
    have b : Below w.heap.size w w1 := by rw [← Hw1.out]; exact alloc2 w _ _
    refine ⟨?_, ?_, hIx.out.below b, hIy.out.below b, b⟩
    · rw [← Hw1.out, ← Hg2.out]; exact heap_alloc2_old w _ _
    · rw [← Hw1.out, ← Hg3.out]; exact heap_alloc2_new w _ _
  go_enter Tryd.func8, Tryd.ntmps8
  go_upto_region 1 with (fail)
  rw [Hw1.out, Hg3.out, Hg2.out]
  clear Hw1
  go_upto_region 3 with (go_at_call 9; refine (alive_n _).mono ?_; rintro e w2 ⟨rfl, h2⟩)
  have X2 : Hid (Tbx w w2 g2 g3 A D x y) := X1.out.below h2.out
  have RX2 : Hid (Irow w2 0 x.pa x.pn x.cm.ps) := X2.out.rx
  have E2 : Hid (Sent w2 M E) := hE.out.below X2.out.bel
  clear X1 h2
  go_upto_region 4 with first
    | (refine wpList_load_row (by rfl) 28 (.tmp 2) (by rfl) g2 (by rfl) 28 A (0, 0) _ X2.out.k2 Tryd.underlying28 rfl (info28 a18) ?_)
    | (go_at_call 12; refine (putx_no hA RX2 E2 hM0 fx).mono ?_; rintro e w3 ⟨rfl, h3⟩; have BW3 := h3.out)
  have X3 : Hid (Tbx w w3 g2 g3 A D x y) := X2.out.below BW3
  have RY3 : Hid (Irow w3 0 y.pa y.pn y.cm.ps) := X3.out.ry
  have E3 : Hid (Sent w3 M E) := hE.out.below X3.out.bel
  go_upto_region 5 with first
    | (refine wpList_load_row (by rfl) 28 (.tmp 3) (by rfl) g3 (by rfl) 28 D (0, 0) _ X3.out.k3 Tryd.underlying28 rfl (info28 d18) ?_)
    | (go_at_call 12; refine (putx_yes hD RY3 hy by_ fv).mono ?_; rintro e w4 ⟨aq, nq, cq, rfl, h4⟩; have BW4 := h4.out.2.1)
  have X4 : Hid (Tbx w w4 g2 g3 A D x y) := X3.out.below BW4
  have RX4 : Hid (Irow w4 0 x.pa x.pn x.cm.ps) := X4.out.rx
  go_upto_region 6 with first
    | (refine wpList_load_row (by rfl) 28 (.tmp 2) (by rfl) g2 (by rfl) 28 A (0, 0) _ X4.out.k2 Tryd.underlying28 rfl (info28 a18) ?_)
    | (go_at_call 14; refine (inf_x hA RX4 hsx).mono ?_; rintro e w5 ⟨rfl, h5⟩; rw [fx.out])
  go_wp2
  go_ret
  exact ⟨rfl, X4.out.bel.trans (h5.out.mono X4.out.bel.size)⟩
set_option maxHeartbeats 2000000 in
theorem len_tf {w : World} {M : Nat → Prop} {E : Nat → Addr} {x y : Cx} {A D : Array Value} {u : Nm} (hE : Hid (Sent w M E)) (hM0 : M 0) (hM1 : M 1) (hM7 : M 7) (hA : Hid (A = (encX x).toArray)) (hIx : Hid (Irow w 0 x.pa x.pn x.cm.ps)) (hzx : Hid (x.pa = none → x.pc = 0)) (hsx : Hid (x.cm.bu.size ≤ 281474976710656 ∧ x.cm.ke.size ≤ 281474976710656 ∧ x.cm.et.size ≤ 281474976710656)) (hD : Hid (D = (encX y).toArray)) (hIy : Hid (Irow w 0 y.pa y.pn y.cm.ps)) (hzy : Hid (y.pa = none → y.pc = 0)) (hsy : Hid (y.cm.bu.size ≤ 281474976710656 ∧ y.cm.ke.size ≤ 281474976710656 ∧ y.cm.et.size ≤ 281474976710656)) (hx : Hid (x.cm = u.cm)) (bu_ : Hid (Nb u)) (fu : Hid (frm u.cm = true)) (fy : Hid (frm y.cm = false)) :
    Calls Tryd.prog 8 #[.agg A, .agg D] w fun e w' => e = .returned (.bool true) ∧ Hid (Below w.heap.size w w') := by
  have a18 : A.size = 18 := encX_sz hA.out
  have d18 : D.size = 18 := encX_sz hD.out
  obtain ⟨g2, Hg2⟩ : ∃ g, Hid (w.heap.size = g) := ⟨_, rfl⟩
  obtain ⟨g3, Hg3⟩ : ∃ g, Hid (w.heap.size + 1 = g) := ⟨_, rfl⟩
  obtain ⟨w1, Hw1⟩ : ∃ w1, Hid ((w.alloc (.cells A 28)).alloc (.cells D 28) = w1) := ⟨_, rfl⟩
  have X1 : Hid (Tbx w w1 g2 g3 A D x y) := by
    have b : Below w.heap.size w w1 := by rw [← Hw1.out]; exact alloc2 w _ _
    refine ⟨?_, ?_, hIx.out.below b, hIy.out.below b, b⟩
    · rw [← Hw1.out, ← Hg2.out]; exact heap_alloc2_old w _ _
    · rw [← Hw1.out, ← Hg3.out]; exact heap_alloc2_new w _ _
  go_enter Tryd.func8, Tryd.ntmps8
  go_upto_region 1 with (fail)
  rw [Hw1.out, Hg3.out, Hg2.out]
  clear Hw1
  go_upto_region 3 with (go_at_call 9; refine (alive_n _).mono ?_; rintro e w2 ⟨rfl, h2⟩)
  have X2 : Hid (Tbx w w2 g2 g3 A D x y) := X1.out.below h2.out
  have RX2 : Hid (Irow w2 0 x.pa x.pn x.cm.ps) := X2.out.rx
  have E2 : Hid (Sent w2 M E) := hE.out.below X2.out.bel
  clear X1 h2
  go_upto_region 4 with first
    | (refine wpList_load_row (by rfl) 28 (.tmp 2) (by rfl) g2 (by rfl) 28 A (0, 0) _ X2.out.k2 Tryd.underlying28 rfl (info28 a18) ?_)
    | (go_at_call 12; refine (putx_yes hA RX2 hx bu_ fu).mono ?_; rintro e w3 ⟨ap, np, cp, rfl, h3⟩; have BW3 := h3.out.2.1)
  have X3 : Hid (Tbx w w3 g2 g3 A D x y) := X2.out.below BW3
  have RY3 : Hid (Irow w3 0 y.pa y.pn y.cm.ps) := X3.out.ry
  have E3 : Hid (Sent w3 M E) := hE.out.below X3.out.bel
  go_upto_region 5 with first
    | (refine wpList_load_row (by rfl) 28 (.tmp 3) (by rfl) g3 (by rfl) 28 D (0, 0) _ X3.out.k3 Tryd.underlying28 rfl (info28 d18) ?_)
    | (go_at_call 12; refine (putx_no hD RY3 E3 hM0 fy).mono ?_; rintro e w4 ⟨rfl, h4⟩; have BW4 := h4.out)
  have X4 : Hid (Tbx w w4 g2 g3 A D x y) := X3.out.below BW4
  have RX4 : Hid (Irow w4 0 x.pa x.pn x.cm.ps) := X4.out.rx
  have fx : Hid (frm x.cm = true) := by rw [hx.out]; exact fu.out
  refine wp_region_flat (ops := opr8a) (C := fun W => Tbx w W g2 g3 A D x y) [(0, false), (1, true), (2, false), (3, false), (4, false), (5, true), (6, false), (7, false)] (by kernel_rfl) X4.out ?_
  refine seq_take (o := { dst := some 28, op := Go.Op.load 28 (Go.Operand.tmp 2), type := 28, pos := "more.go:17", after := #[], guard := none }) (v := .agg A) (by kernel_rfl) (fun _ _ _ h => h) (yl_row (by kernel_rfl) (by rfl) (by rfl) (fun W hW => hW.k2) a18) ?_
  simp only [List.getElem_toArray, List.getElem_cons_zero, List.getElem_cons_succ, Act.put, List.setIfInBounds_toArray, List.set_cons_zero, List.set_cons_succ]
  refine seq_call (o := { dst := some 29, op := Go.Op.call { callee := Go.Callee.value (Go.Operand.func 14), args := #[Go.Operand.tmp 28], argTypes := #[28] }, type := 4, pos := "more.go:17", after := #[{ on := 0, ground := Go.Ground.data }], guard := none }) (by kernel_rfl) (fun KK hK => ?_)
  rw [if_pos (by kernel_rfl)]
  go_simp
  go_wp2_with (go_at_call 14; refine (inf_x hA RX4 hsx).mono ?_; rintro e w5 ⟨rfl, h5⟩; rw [fx.out])
  have X5 : Hid (Tbx w w5 g2 g3 A D x y) := X4.out.below h5.out
  have RY5 : Hid (Irow w5 0 y.pa y.pn y.cm.ps) := X5.out.ry
  refine hK.out _ _ (X5.out) ?_
  clear hK KK
  try simp only [List.getElem_toArray, List.getElem_cons_zero, List.getElem_cons_succ, Act.put, List.setIfInBounds_toArray, List.set_cons_zero, List.set_cons_succ]
  refine seq_take (o := { dst := some 30, op := Go.Op.unOp Go.UnOp.not 4 (Go.Operand.tmp 29), type := 4, pos := "more.go:17", after := #[{ on := 1, ground := Go.Ground.data }], guard := none }) (v := .bool false) (by kernel_rfl) (fun _ _ _ h => h) (Or.inl ⟨by kernel_rfl, fun W hW => by go_simp⟩) ?_
  simp only [List.getElem_toArray, List.getElem_cons_zero, List.getElem_cons_succ, Act.put, List.setIfInBounds_toArray, List.set_cons_zero, List.set_cons_succ]
  refine seq_take (o := { dst := some 31, op := Go.Op.move (Go.Operand.tmp 30), type := 4, pos := "more.go:17", after := #[{ on := 2, ground := Go.Ground.data }, { on := 1, ground := Go.Ground.chain }], guard := none }) (v := .bool false) (by kernel_rfl) (fun _ _ _ h => h) (Or.inl ⟨by kernel_rfl, fun W hW => by go_simp⟩) ?_
  simp only [List.getElem_toArray, List.getElem_cons_zero, List.getElem_cons_succ, Act.put, List.setIfInBounds_toArray, List.set_cons_zero, List.set_cons_succ]
  refine seq_take (o := { dst := some 32, op := Go.Op.load 28 (Go.Operand.tmp 3), type := 28, pos := "more.go:17", after := #[{ on := 3, ground := Go.Ground.guard }], guard := some (3, false) }) (v := .agg D) (by kernel_rfl) (fun _ _ _ h => h) (yl_row (by kernel_rfl) (by rfl) (by rfl) (fun W hW => hW.k3) d18) ?_
  simp only [List.getElem_toArray, List.getElem_cons_zero, List.getElem_cons_succ, Act.put, List.setIfInBounds_toArray, List.set_cons_zero, List.set_cons_succ]
  refine seq_call (o := { dst := some 33, op := Go.Op.call { callee := Go.Callee.value (Go.Operand.func 14), args := #[Go.Operand.tmp 32], argTypes := #[28] }, type := 4, pos := "more.go:17", after := #[{ on := 4, ground := Go.Ground.data }, { on := 3, ground := Go.Ground.chain }, { on := 3, ground := Go.Ground.guard }], guard := some (3, false) }) (by kernel_rfl) (fun KK hK => ?_)
  rw [if_pos (by kernel_rfl)]
  go_simp
  go_wp2_with (go_at_call 14; refine (inf_x hD RY5 hsy).mono ?_; rintro e w6 ⟨rfl, h6⟩; rw [fy.out])
  have X6 : Hid (Tbx w w6 g2 g3 A D x y) := X5.out.below h6.out
  refine hK.out _ _ (X6.out) ?_
  clear hK KK
  try simp only [List.getElem_toArray, List.getElem_cons_zero, List.getElem_cons_succ, Act.put, List.setIfInBounds_toArray, List.set_cons_zero, List.set_cons_succ]
  refine seq_take (o := { dst := some 34, op := Go.Op.unOp Go.UnOp.not 4 (Go.Operand.tmp 33), type := 4, pos := "more.go:17", after := #[{ on := 5, ground := Go.Ground.data }, { on := 3, ground := Go.Ground.guard }], guard := some (3, false) }) (v := .bool true) (by kernel_rfl) (fun _ _ _ h => h) (Or.inl ⟨by kernel_rfl, fun W hW => by go_simp⟩) ?_
  simp only [List.getElem_toArray, List.getElem_cons_zero, List.getElem_cons_succ, Act.put, List.setIfInBounds_toArray, List.set_cons_zero, List.set_cons_succ]
  refine seq_take (o := { dst := some 35, op := Go.Op.pick (Go.Operand.tmp 31) (Go.Operand.const (Go.Value.bool true)) (Go.Operand.tmp 34), type := 4, pos := "more.go:17", after := #[{ on := 3, ground := Go.Ground.data }, { on := 6, ground := Go.Ground.data }], guard := none }) (v := .bool true) (by kernel_rfl) (fun _ _ _ h => h) (Or.inl ⟨by kernel_rfl, fun W hW => by go_simp⟩) ?_
  simp only [List.getElem_toArray, List.getElem_cons_zero, List.getElem_cons_succ, Act.put, List.setIfInBounds_toArray, List.set_cons_zero, List.set_cons_succ]
  show (Exit.then _ _) .normal _ _
  go_wp2
  go_ret
  exact ⟨rfl, X6.out.bel⟩
set_option maxHeartbeats 2000000 in
theorem len_tt {w : World} {M : Nat → Prop} {E : Nat → Addr} {x y : Cx} {A D : Array Value} {u v : Nm} (hE : Hid (Sent w M E)) (hM0 : M 0) (hM1 : M 1) (hM7 : M 7) (hA : Hid (A = (encX x).toArray)) (hIx : Hid (Irow w 0 x.pa x.pn x.cm.ps)) (hzx : Hid (x.pa = none → x.pc = 0)) (hsx : Hid (x.cm.bu.size ≤ 281474976710656 ∧ x.cm.ke.size ≤ 281474976710656 ∧ x.cm.et.size ≤ 281474976710656)) (hD : Hid (D = (encX y).toArray)) (hIy : Hid (Irow w 0 y.pa y.pn y.cm.ps)) (hzy : Hid (y.pa = none → y.pc = 0)) (hsy : Hid (y.cm.bu.size ≤ 281474976710656 ∧ y.cm.ke.size ≤ 281474976710656 ∧ y.cm.et.size ≤ 281474976710656)) (hx : Hid (x.cm = u.cm)) (bu_ : Hid (Nb u)) (fu : Hid (frm u.cm = true)) (hy : Hid (y.cm = v.cm)) (by_ : Hid (Nb v)) (fv : Hid (frm v.cm = true)) :
    Calls Tryd.prog 8 #[.agg A, .agg D] w fun e w' => e = .returned (.bool true) ∧ Hid (Below w.heap.size w w') := by
  have a18 : A.size = 18 := encX_sz hA.out
  have d18 : D.size = 18 := encX_sz hD.out
  obtain ⟨g2, Hg2⟩ : ∃ g, Hid (w.heap.size = g) := ⟨_, rfl⟩
  obtain ⟨g3, Hg3⟩ : ∃ g, Hid (w.heap.size + 1 = g) := ⟨_, rfl⟩
  obtain ⟨w1, Hw1⟩ : ∃ w1, Hid ((w.alloc (.cells A 28)).alloc (.cells D 28) = w1) := ⟨_, rfl⟩
  have X1 : Hid (Tbx w w1 g2 g3 A D x y) := by
    have b : Below w.heap.size w w1 := by rw [← Hw1.out]; exact alloc2 w _ _
    refine ⟨?_, ?_, hIx.out.below b, hIy.out.below b, b⟩
    · rw [← Hw1.out, ← Hg2.out]; exact heap_alloc2_old w _ _
    · rw [← Hw1.out, ← Hg3.out]; exact heap_alloc2_new w _ _
  go_enter Tryd.func8, Tryd.ntmps8
  go_upto_region 1 with (fail)
  rw [Hw1.out, Hg3.out, Hg2.out]
  clear Hw1
  go_upto_region 3 with (go_at_call 9; refine (alive_n _).mono ?_; rintro e w2 ⟨rfl, h2⟩)
  have X2 : Hid (Tbx w w2 g2 g3 A D x y) := X1.out.below h2.out
  have RX2 : Hid (Irow w2 0 x.pa x.pn x.cm.ps) := X2.out.rx
  have E2 : Hid (Sent w2 M E) := hE.out.below X2.out.bel
  clear X1 h2
  go_upto_region 4 with first
    | (refine wpList_load_row (by rfl) 28 (.tmp 2) (by rfl) g2 (by rfl) 28 A (0, 0) _ X2.out.k2 Tryd.underlying28 rfl (info28 a18) ?_)
    | (go_at_call 12; refine (putx_yes hA RX2 hx bu_ fu).mono ?_; rintro e w3 ⟨ap, np, cp, rfl, h3⟩; have BW3 := h3.out.2.1)
  have X3 : Hid (Tbx w w3 g2 g3 A D x y) := X2.out.below BW3
  have RY3 : Hid (Irow w3 0 y.pa y.pn y.cm.ps) := X3.out.ry
  have E3 : Hid (Sent w3 M E) := hE.out.below X3.out.bel
  go_upto_region 5 with first
    | (refine wpList_load_row (by rfl) 28 (.tmp 3) (by rfl) g3 (by rfl) 28 D (0, 0) _ X3.out.k3 Tryd.underlying28 rfl (info28 d18) ?_)
    | (go_at_call 12; refine (putx_yes hD RY3 hy by_ fv).mono ?_; rintro e w4 ⟨aq, nq, cq, rfl, h4⟩; have BW4 := h4.out.2.1)
  have X4 : Hid (Tbx w w4 g2 g3 A D x y) := X3.out.below BW4
  have RX4 : Hid (Irow w4 0 x.pa x.pn x.cm.ps) := X4.out.rx
  have fx : Hid (frm x.cm = true) := by rw [hx.out]; exact fu.out
  have fy : Hid (frm y.cm = true) := by rw [hy.out]; exact fv.out
  refine wp_region_flat (ops := opr8a) (C := fun W => Tbx w W g2 g3 A D x y) [(0, false), (1, true), (2, false), (3, false), (4, false), (5, true), (6, false), (7, false)] (by kernel_rfl) X4.out ?_
  refine seq_take (o := { dst := some 28, op := Go.Op.load 28 (Go.Operand.tmp 2), type := 28, pos := "more.go:17", after := #[], guard := none }) (v := .agg A) (by kernel_rfl) (fun _ _ _ h => h) (yl_row (by kernel_rfl) (by rfl) (by rfl) (fun W hW => hW.k2) a18) ?_
  simp only [List.getElem_toArray, List.getElem_cons_zero, List.getElem_cons_succ, Act.put, List.setIfInBounds_toArray, List.set_cons_zero, List.set_cons_succ]
  refine seq_call (o := { dst := some 29, op := Go.Op.call { callee := Go.Callee.value (Go.Operand.func 14), args := #[Go.Operand.tmp 28], argTypes := #[28] }, type := 4, pos := "more.go:17", after := #[{ on := 0, ground := Go.Ground.data }], guard := none }) (by kernel_rfl) (fun KK hK => ?_)
  rw [if_pos (by kernel_rfl)]
  go_simp
  go_wp2_with (go_at_call 14; refine (inf_x hA RX4 hsx).mono ?_; rintro e w5 ⟨rfl, h5⟩; rw [fx.out])
  have X5 : Hid (Tbx w w5 g2 g3 A D x y) := X4.out.below h5.out
  have RY5 : Hid (Irow w5 0 y.pa y.pn y.cm.ps) := X5.out.ry
  refine hK.out _ _ (X5.out) ?_
  clear hK KK
  try simp only [List.getElem_toArray, List.getElem_cons_zero, List.getElem_cons_succ, Act.put, List.setIfInBounds_toArray, List.set_cons_zero, List.set_cons_succ]
  refine seq_take (o := { dst := some 30, op := Go.Op.unOp Go.UnOp.not 4 (Go.Operand.tmp 29), type := 4, pos := "more.go:17", after := #[{ on := 1, ground := Go.Ground.data }], guard := none }) (v := .bool false) (by kernel_rfl) (fun _ _ _ h => h) (Or.inl ⟨by kernel_rfl, fun W hW => by go_simp⟩) ?_
  simp only [List.getElem_toArray, List.getElem_cons_zero, List.getElem_cons_succ, Act.put, List.setIfInBounds_toArray, List.set_cons_zero, List.set_cons_succ]
  refine seq_take (o := { dst := some 31, op := Go.Op.move (Go.Operand.tmp 30), type := 4, pos := "more.go:17", after := #[{ on := 2, ground := Go.Ground.data }, { on := 1, ground := Go.Ground.chain }], guard := none }) (v := .bool false) (by kernel_rfl) (fun _ _ _ h => h) (Or.inl ⟨by kernel_rfl, fun W hW => by go_simp⟩) ?_
  simp only [List.getElem_toArray, List.getElem_cons_zero, List.getElem_cons_succ, Act.put, List.setIfInBounds_toArray, List.set_cons_zero, List.set_cons_succ]
  refine seq_take (o := { dst := some 32, op := Go.Op.load 28 (Go.Operand.tmp 3), type := 28, pos := "more.go:17", after := #[{ on := 3, ground := Go.Ground.guard }], guard := some (3, false) }) (v := .agg D) (by kernel_rfl) (fun _ _ _ h => h) (yl_row (by kernel_rfl) (by rfl) (by rfl) (fun W hW => hW.k3) d18) ?_
  simp only [List.getElem_toArray, List.getElem_cons_zero, List.getElem_cons_succ, Act.put, List.setIfInBounds_toArray, List.set_cons_zero, List.set_cons_succ]
  refine seq_call (o := { dst := some 33, op := Go.Op.call { callee := Go.Callee.value (Go.Operand.func 14), args := #[Go.Operand.tmp 32], argTypes := #[28] }, type := 4, pos := "more.go:17", after := #[{ on := 4, ground := Go.Ground.data }, { on := 3, ground := Go.Ground.chain }, { on := 3, ground := Go.Ground.guard }], guard := some (3, false) }) (by kernel_rfl) (fun KK hK => ?_)
  rw [if_pos (by kernel_rfl)]
  go_simp
  go_wp2_with (go_at_call 14; refine (inf_x hD RY5 hsy).mono ?_; rintro e w6 ⟨rfl, h6⟩; rw [fy.out])
  have X6 : Hid (Tbx w w6 g2 g3 A D x y) := X5.out.below h6.out
  refine hK.out _ _ (X6.out) ?_
  clear hK KK
  try simp only [List.getElem_toArray, List.getElem_cons_zero, List.getElem_cons_succ, Act.put, List.setIfInBounds_toArray, List.set_cons_zero, List.set_cons_succ]
  refine seq_take (o := { dst := some 34, op := Go.Op.unOp Go.UnOp.not 4 (Go.Operand.tmp 33), type := 4, pos := "more.go:17", after := #[{ on := 5, ground := Go.Ground.data }, { on := 3, ground := Go.Ground.guard }], guard := some (3, false) }) (v := .bool false) (by kernel_rfl) (fun _ _ _ h => h) (Or.inl ⟨by kernel_rfl, fun W hW => by go_simp⟩) ?_
  simp only [List.getElem_toArray, List.getElem_cons_zero, List.getElem_cons_succ, Act.put, List.setIfInBounds_toArray, List.set_cons_zero, List.set_cons_succ]
  refine seq_take (o := { dst := some 35, op := Go.Op.pick (Go.Operand.tmp 31) (Go.Operand.const (Go.Value.bool true)) (Go.Operand.tmp 34), type := 4, pos := "more.go:17", after := #[{ on := 3, ground := Go.Ground.data }, { on := 6, ground := Go.Ground.data }], guard := none }) (v := .bool false) (by kernel_rfl) (fun _ _ _ h => h) (Or.inl ⟨by kernel_rfl, fun W hW => by go_simp⟩) ?_
  simp only [List.getElem_toArray, List.getElem_cons_zero, List.getElem_cons_succ, Act.put, List.setIfInBounds_toArray, List.set_cons_zero, List.set_cons_succ]
  show (Exit.then _ _) .normal _ _
  have PO : Hid (Own w6 w2.heap.size ap np cp u.by) := (((h3.out.1.below BW4).below h5.out).below h6.out)
  have QO : Hid (Own w6 w3.heap.size aq nq cq v.by) := ((h4.out.1.below h5.out).below h6.out)
  have NP : Hid (np ≤ 2000) := h3.out.2.2
  have NQ : Hid (nq ≤ 2000) := h4.out.2.2
  clear h3 h4 h5 h6 BW3 BW4 X2 X3 X4 X5 RX2 RY3 RX4 RY5 E2 E3
  obtain ⟨gw1, Hg1⟩ : ∃ g, Hid (w6.heap.size = g) := ⟨_, rfl⟩
  obtain ⟨wb1, Hb1⟩ : ∃ W, Hid (w6.alloc (.cells (encX x ++ encX y).toArray 28) = W) := ⟨_, rfl⟩
  have bb1 : Hid (Below w6.heap.size w6 wb1) := by rw [← Hb1.out]; exact alloc1 w6 _
  have XB1 : Hid (Tbx w wb1 g2 g3 A D x y) := X6.out.below bb1.out
  have CB1 : Hid (Cms wb1 0 (some ⟨gw1, 0, none⟩) 2 [x, y]) := cms_two (by rw [← Hb1.out, ← Hg1.out]; exact heap_alloc_new w6 _) ⟨XB1.out.rx, hzx.out⟩ ⟨XB1.out.ry, hzy.out⟩ hsx.out hsy.out
  have EB1 : Hid (Sent wb1 M E) := hE.out.below XB1.out.bel
  have YB1 : Hid ([x, y].map Cx.cm = [u, v].map Nm.cm) := by show _ = _; simp [hx.out, hy.out]
  have AB1 : Hid (∀ z ∈ [u, v], Nb z ∧ frm z.cm = true) := fun z hz => by
    rcases List.mem_cons.1 hz with rfl | hz
    · exact ⟨bu_.out, fu.out⟩
    · obtain rfl := List.mem_singleton.1 hz
      exact ⟨by_.out, fv.out⟩
  have sz1 := fold36s hA.out
  have FD1 := show Hid (_ = (encX x ++ encX y).toArray) from fold36 hA.out hD.out
  go_upto_region 8 with first
    | (refine wpList_load_row (by rfl) 28 (.tmp 2) (by rfl) g2 (by rfl) 28 A (0, 0) _ X6.out.k2 Tryd.underlying28 rfl (info28 a18) ?_)
    | (refine wpList_load_row (by rfl) 28 (.tmp 3) (by rfl) g3 (by rfl) 28 D (0, 0) _ X6.out.k3 Tryd.underlying28 rfl (info28 d18) ?_)
    | (go_at_call 20; rw [FD1.out, Hb1.out, Hg1.out]; refine (write_yes EB1 hM0 CB1 (by omega) YB1 AB1).mono ?_; rintro e w7 ⟨go1, no1, rfl, ho1⟩)
  have B1a : Hid (Below w6.heap.size w6 w7) := bb1.out.trans (ho1.out.2.2.mono bb1.out.size)
  have X7 : Hid (Tbx w w7 g2 g3 A D x y) := X6.out.below B1a.out
  have KO1 : Hid (Blk w7 go1 (sealL (wrL [u, v])) ∧ no1 = (sealL (wrL [u, v])).length) := ⟨ho1.out.1, by rw [seal_len]; exact ho1.out.2.1⟩
  clear sz1 ho1 bb1 XB1 CB1 EB1 YB1 AB1 FD1 Hb1 Hg1
  obtain ⟨gw2, Hg2⟩ : ∃ g, Hid (w7.heap.size = g) := ⟨_, rfl⟩
  obtain ⟨wb2, Hb2⟩ : ∃ W, Hid (w7.alloc (.cells (encX y ++ encX x).toArray 28) = W) := ⟨_, rfl⟩
  have bb2 : Hid (Below w7.heap.size w7 wb2) := by rw [← Hb2.out]; exact alloc1 w7 _
  have XB2 : Hid (Tbx w wb2 g2 g3 A D x y) := X7.out.below bb2.out
  have CB2 : Hid (Cms wb2 0 (some ⟨gw2, 0, none⟩) 2 [y, x]) := cms_two (by rw [← Hb2.out, ← Hg2.out]; exact heap_alloc_new w7 _) ⟨XB2.out.ry, hzy.out⟩ ⟨XB2.out.rx, hzx.out⟩ hsy.out hsx.out
  have EB2 : Hid (Sent wb2 M E) := hE.out.below XB2.out.bel
  have YB2 : Hid ([y, x].map Cx.cm = [v, u].map Nm.cm) := by show _ = _; simp [hx.out, hy.out]
  have AB2 : Hid (∀ z ∈ [v, u], Nb z ∧ frm z.cm = true) := fun z hz => by
    rcases List.mem_cons.1 hz with rfl | hz
    · exact ⟨by_.out, fv.out⟩
    · obtain rfl := List.mem_singleton.1 hz
      exact ⟨bu_.out, fu.out⟩
  have sz2 := fold36s hD.out
  have FD2 := show Hid (_ = (encX y ++ encX x).toArray) from fold36 hD.out hA.out
  go_upto_region 9 with first
    | (refine wpList_load_row (by rfl) 28 (.tmp 2) (by rfl) g2 (by rfl) 28 A (0, 0) _ X7.out.k2 Tryd.underlying28 rfl (info28 a18) ?_)
    | (refine wpList_load_row (by rfl) 28 (.tmp 3) (by rfl) g3 (by rfl) 28 D (0, 0) _ X7.out.k3 Tryd.underlying28 rfl (info28 d18) ?_)
    | (go_at_call 20; rw [FD2.out, Hb2.out, Hg2.out]; refine (write_yes EB2 hM0 CB2 (by omega) YB2 AB2).mono ?_; rintro e w8 ⟨go2, no2, rfl, ho2⟩)
  have B2a : Hid (Below w7.heap.size w7 w8) := bb2.out.trans (ho2.out.2.2.mono bb2.out.size)
  have X8 : Hid (Tbx w w8 g2 g3 A D x y) := X7.out.below B2a.out
  have KO2 : Hid (Blk w8 go2 (sealL (wrL [v, u])) ∧ no2 = (sealL (wrL [v, u])).length) := ⟨ho2.out.1, by rw [seal_len]; exact ho2.out.2.1⟩
  clear sz2 ho2 bb2 XB2 CB2 EB2 YB2 AB2 FD2 Hb2 Hg2
  have BY : Hid ((∀ z ∈ sealL (wrL [u, v]), z < 256) ∧ (∀ z ∈ sealL (wrL [v, u]), z < 256)) := ⟨seal_bytes (wrL_bytes (fun z hz => by
    rcases List.mem_cons.1 hz with rfl | hz
    · exact PO.out.lt
    · obtain rfl := List.mem_singleton.1 hz
      exact QO.out.lt)), seal_bytes (wrL_bytes (fun z hz => by
    rcases List.mem_cons.1 hz with rfl | hz
    · exact QO.out.lt
    · obtain rfl := List.mem_singleton.1 hz
      exact PO.out.lt))⟩
  have ALL : Hid ((Nb u ∧ frm u.cm = true) ∧ (Nb v ∧ frm v.cm = true)) := ⟨⟨bu_.out, fu.out⟩, ⟨by_.out, fv.out⟩⟩
  have LL : Hid ((sealL (wrL [u, v])).length ≤ 10000100 ∧ (sealL (wrL [v, u])).length ≤ 10000100) := by
    have a1 := wrL_len (ys := [u, v]) (fun z hz => by
      rcases List.mem_cons.1 hz with rfl | hz
      · exact ALL.out.1
      · obtain rfl := List.mem_singleton.1 hz; exact ALL.out.2) (by simp)
    have a2 := wrL_len (ys := [v, u]) (fun z hz => by
      rcases List.mem_cons.1 hz with rfl | hz
      · exact ALL.out.2
      · obtain rfl := List.mem_singleton.1 hz; exact ALL.out.1) (by simp)
    rw [seal_len, seal_len]
    exact ⟨by omega, by omega⟩
  have K1 : Hid (Blk w8 go1 (sealL (wrL [u, v]))) := KO1.out.1.below B2a.out KO1.out.1.lt
  have S8 : Hid (Sln w8 (some ⟨go1, 0, none⟩) no1 (sealL (wrL [u, v]))) := by
    have h := Blk.sln K1.out BY.out.1 (by have := LL.out.1; omega)
    rwa [← KO1.out.2] at h
  have Z8 : Hid (some (⟨go1, 0, none⟩ : Addr) = none → no1 = 0) := fun h => by cases h
  have E8 : Hid (Sent w8 M E) := hE.out.below X8.out.bel
  have OP : Hid (opn (sealL (wrL [u, v])) = (wrL [u, v], 0)) := opn_seal _
  have OP2 : Hid ((opn (sealL (wrL [u, v]))).2 = 0) := by rw [OP.out]; rfl
  have OR : Hid (rdW (opn (sealL (wrL [u, v]))).1 = some [u, v]) := by
    rw [OP.out]
    exact rdW_there (by simp) (fun z hz => by
      rcases List.mem_cons.1 hz with rfl | hz
      · exact ALL.out.1
      · obtain rfl := List.mem_singleton.1 hz; exact ALL.out.2)
  go_upto_region 10 with (go_at_call 24; refine (readA_yes S8 Z8 (Nat.le_refl _) E8 hM1 hM7 OP2 OR).mono ?_; rintro e w9 ⟨la, ln, lc, rfl, h9⟩)
  obtain ⟨b9, Z, hZ, OZ⟩ := h9.out
  obtain ⟨p1, p2, hZe, hZ1, hZ2⟩ := led_two hZ
  subst hZe
  have hln : ln = 2 := OZ.len
  subst hln
  obtain ⟨gl, rfl, _, _, _⟩ := rown_at OZ.row (by omega)
  have X9 : Hid (Tbx w w9 g2 g3 A D x y) := X8.out.below b9
  have HP1 : Hid (p1.cm = u.cm) := hZ1
  have HP2 : Hid (p2.cm = v.cm) := hZ2
  have C9 : Hid (Cms w9 0 (some ⟨gl, 0, none⟩) 2 [p1, p2]) := OZ.cms.mono (Nat.zero_le _)
  have B69 : Hid (Below w6.heap.size w6 w9) := (B1a.out.trans (B2a.out.mono B1a.out.size)).trans (b9.mono (Nat.le_trans B1a.out.size B2a.out.size))
  have B79 : Hid (Below w7.heap.size w7 w9) := B2a.out.trans (b9.mono B2a.out.size)
  have P9 : Hid (Own w9 w2.heap.size ap np cp u.by) := PO.out.below B69.out
  have Q9 : Hid (Own w9 w3.heap.size aq nq cq v.by) := QO.out.below B69.out
  have K19 : Hid (Blk w9 go1 (sealL (wrL [u, v]))) := KO1.out.1.below B79.out KO1.out.1.lt
  have K29 : Hid (Blk w9 go2 (sealL (wrL [v, u]))) := KO2.out.1.below b9 KO2.out.1.lt
  have N1 : Hid (no1 = (sealL (wrL [u, v])).length) := KO1.out.2
  have N2 : Hid (no2 = (sealL (wrL [v, u])).length) := KO2.out.2
  have RX9 : Hid (Irow w9 0 x.pa x.pn x.cm.ps) := X9.out.rx
  have RY9 : Hid (Irow w9 0 y.pa y.pn y.cm.ps) := X9.out.ry
  clear h9 b9 hZ hZ1 hZ2 OZ X8 X7 X6 PO QO K1 S8 Z8 E8 OP OP2 OR KO1 KO2 B1a B2a B69 B79
  obtain ⟨sm, Hsm⟩ : ∃ b, Hid (decide (x.cm = y.cm) = b) := ⟨_, rfl⟩
  go_upto_region 12 with (fail)
  go_upto_region 13 with first
    | (refine wpList_load_row (by rfl) 28 (.tmp 2) (by rfl) g2 (by rfl) 28 A (0, 0) _ X9.out.k2 Tryd.underlying28 rfl (info28 a18) ?_)
    | (refine wpList_load_row (by rfl) 28 (.tmp 3) (by rfl) g3 (by rfl) 28 D (0, 0) _ X9.out.k3 Tryd.underlying28 rfl (info28 d18) ?_)
    | (go_at_call 13; refine (same_x hA RX9 hD RY9).mono ?_; rintro e w10 ⟨rfl, h10⟩)
  try rw [Hsm.out]
  try simp only [Hsm.out]
  obtain ⟨V, HV⟩ : ∃ V, Hid (w10.drew = V) := ⟨_, rfl⟩
  have b10 : Hid (Below w9.heap.size w9 V) := by rw [← HV.out]; exact h10.out.drew
  have XV : Hid (Tbx w V g2 g3 A D x y) := X9.out.below b10.out
  have CV : Hid (Cms V 0 (some ⟨gl, 0, none⟩) 2 [p1, p2]) := C9.out.below b10.out
  obtain ⟨P1, HA1⟩ : ∃ A, Hid (A = (encX p1).toArray) := ⟨_, rfl⟩
  obtain ⟨P2, HA2⟩ : ∃ A, Hid (A = (encX p2).toArray) := ⟨_, rfl⟩
  have p118 : P1.size = 18 := encX_sz HA1.out
  have p218 : P2.size = 18 := encX_sz HA2.out
  have L1 : Hid (∀ W : World, Below V.heap.size V W → W.rangeAt gl 0 P1.toList) := fun W hW => by
    obtain ⟨b, o, e, h⟩ := (CV.out.below hW).at_ (i := 0) (by simp)
    cases e
    rw [HA1.out]
    simpa using h
  have L2 : Hid (∀ W : World, Below V.heap.size V W → W.rangeAt gl 18 P2.toList) := fun W hW => by
    obtain ⟨b, o, e, h⟩ := (CV.out.below hW).at_ (i := 1) (by simp)
    cases e
    rw [HA2.out]
    simpa using h
  have Q1 : Hid (∀ W : World, Below V.heap.size V W → (convert 35 9 (.slice ap np cp)).run Tryd.prog W = .ok (.string (spell u.by)) W) := fun W hW => conv_n (((P9.out.below b10.out).below hW).sln (by have := NP.out; omega))
  have Q2 : Hid (∀ W : World, Below V.heap.size V W → (convert 35 9 (.slice aq nq cq)).run Tryd.prog W = .ok (.string (spell v.by)) W) := fun W hW => conv_n (((Q9.out.below b10.out).below hW).sln (by have := NQ.out; omega))
  have Q3 : Hid (∀ W : World, Below V.heap.size V W → (convert 35 9 (.slice (some ⟨go1, 0, none⟩) no1 no1)).run Tryd.prog W = .ok (.string (spell (sealL (wrL [u, v])))) W) := fun W hW => by
    have h := Blk.sln ((K19.out.below b10.out K19.out.lt).below hW (Nat.lt_of_lt_of_le K19.out.lt b10.out.size)) BY.out.1 (by have := LL.out.1; omega)
    rw [← N1.out] at h
    exact conv_n h
  have Q4 : Hid (∀ W : World, Below V.heap.size V W → (convert 35 9 (.slice (some ⟨go2, 0, none⟩) no2 no2)).run Tryd.prog W = .ok (.string (spell (sealL (wrL [v, u])))) W) := fun W hW => by
    have h := Blk.sln ((K29.out.below b10.out K29.out.lt).below hW (Nat.lt_of_lt_of_le K29.out.lt b10.out.size)) BY.out.2 (by have := LL.out.2; omega)
    rw [← N2.out] at h
    exact conv_n h
  have D1 : Hid (decide (spell u.by = spell v.by) = sm) := by
    show _ = _
    rw [← Hsm.out, decide_eq_decide]
    constructor
    · intro h
      have e := by_inj ALL.out.1 ALL.out.2 (spell_injB P9.out.lt Q9.out.lt h)
      rw [hx.out, hy.out, e]
    · intro h
      rw [hx.out, hy.out] at h
      rw [cm_inj h]
  have D2 : Hid (decide (spell (sealL (wrL [u, v])) = spell (sealL (wrL [v, u]))) = sm) := by
    show _ = _
    rw [← Hsm.out, decide_eq_decide]
    constructor
    · intro h
      have e := two_inj ALL.out.1 ALL.out.2 (spell_injB BY.out.1 BY.out.2 h)
      rw [hx.out, hy.out, e]
    · intro h
      rw [hx.out, hy.out] at h
      rw [cm_inj h]
  have BV : Hid (Below V.heap.size V V) := Below.refl _ _
  refine wp_region_seq (ops := opr8b) (C := fun W => Below V.heap.size V W) [(0, false), (1, false), (2, false), (3, false), (4, false), (5, false), (6, false), (7, false), (8, false), (9, false), (10, false), (11, false), (12, false), (13, false), (14, false), (15, false), (16, false), (17, false), (18, false), (19, false), (20, false), (21, true), (22, false), (23, false), (24, false), (25, false), (26, false), (27, false), (28, true), (29, false), (30, false)] (by kernel_rfl) (by kernel_rfl) (by rw [HV.out]; exact BV.out) ?_
  rw [HV.out]
  clear HV h10
  refine seq_take (o := { dst := some 87, op := Go.Op.move (Go.Operand.tmp 5), type := 35, pos := "more.go:27", after := #[], guard := none }) (v := .slice ap np cp) (by kernel_rfl) (fun _ _ _ h => h) (Or.inl ⟨by kernel_rfl, fun W hW => by go_simp⟩) ?_
  simp only [List.getElem_toArray, List.getElem_cons_zero, List.getElem_cons_succ, Act.put, List.setIfInBounds_toArray, List.set_cons_zero, List.set_cons_succ]
  refine seq_take (o := { dst := some 88, op := Go.Op.convert 35 9 (Go.Operand.tmp 87), type := 9, pos := "more.go:27", after := #[{ on := 0, ground := Go.Ground.data }], guard := none }) (v := .string (spell u.by)) (by kernel_rfl) (fun _ _ _ h => h) (Or.inl ⟨by kernel_rfl, fun W hW => by have q0 := Q1.out W hW; go_simp⟩) ?_
  simp only [List.getElem_toArray, List.getElem_cons_zero, List.getElem_cons_succ, Act.put, List.setIfInBounds_toArray, List.set_cons_zero, List.set_cons_succ]
  refine seq_take (o := { dst := some 89, op := Go.Op.move (Go.Operand.tmp 7), type := 35, pos := "more.go:27", after := #[], guard := none }) (v := .slice aq nq cq) (by kernel_rfl) (fun _ _ _ h => h) (Or.inl ⟨by kernel_rfl, fun W hW => by go_simp⟩) ?_
  simp only [List.getElem_toArray, List.getElem_cons_zero, List.getElem_cons_succ, Act.put, List.setIfInBounds_toArray, List.set_cons_zero, List.set_cons_succ]
  refine seq_take (o := { dst := some 90, op := Go.Op.convert 35 9 (Go.Operand.tmp 89), type := 9, pos := "more.go:27", after := #[{ on := 2, ground := Go.Ground.data }], guard := none }) (v := .string (spell v.by)) (by kernel_rfl) (fun _ _ _ h => h) (Or.inl ⟨by kernel_rfl, fun W hW => by have q0 := Q2.out W hW; go_simp⟩) ?_
  simp only [List.getElem_toArray, List.getElem_cons_zero, List.getElem_cons_succ, Act.put, List.setIfInBounds_toArray, List.set_cons_zero, List.set_cons_succ]
  refine seq_take (o := { dst := some 91, op := Go.Op.binOp Go.BinOp.eql 9 (Go.Operand.tmp 88) (Go.Operand.tmp 90) 9, type := 4, pos := "more.go:27", after := #[{ on := 1, ground := Go.Ground.data }, { on := 3, ground := Go.Ground.data }], guard := none }) (v := .bool sm) (by kernel_rfl) (fun _ _ _ h => h) (Or.inl ⟨by kernel_rfl, fun W hW => by go_simp; exact toL_eq D1.out⟩) ?_
  simp only [List.getElem_toArray, List.getElem_cons_zero, List.getElem_cons_succ, Act.put, List.setIfInBounds_toArray, List.set_cons_zero, List.set_cons_succ]
  refine seq_take (o := { dst := some 92, op := Go.Op.move (Go.Operand.tmp 15), type := 4, pos := "more.go:27", after := #[], guard := none }) (v := .bool sm) (by kernel_rfl) (fun _ _ _ h => h) (Or.inl ⟨by kernel_rfl, fun W hW => by go_simp⟩) ?_
  simp only [List.getElem_toArray, List.getElem_cons_zero, List.getElem_cons_succ, Act.put, List.setIfInBounds_toArray, List.set_cons_zero, List.set_cons_succ]
  refine seq_take (o := { dst := some 93, op := Go.Op.binOp Go.BinOp.eql 4 (Go.Operand.tmp 91) (Go.Operand.tmp 92) 4, type := 4, pos := "more.go:27", after := #[{ on := 4, ground := Go.Ground.data }, { on := 5, ground := Go.Ground.data }], guard := none }) (v := .bool true) (by kernel_rfl) (fun _ _ _ h => h) (Or.inl ⟨by kernel_rfl, fun W hW => by have q0 := fun d x w => eqB d x w; go_simp⟩) ?_
  simp only [List.getElem_toArray, List.getElem_cons_zero, List.getElem_cons_succ, Act.put, List.setIfInBounds_toArray, List.set_cons_zero, List.set_cons_succ]
  refine seq_take (o := { dst := some 94, op := Go.Op.move (Go.Operand.tmp 93), type := 4, pos := "more.go:27", after := #[{ on := 6, ground := Go.Ground.data }], guard := none }) (v := .bool true) (by kernel_rfl) (fun _ _ _ h => h) (Or.inl ⟨by kernel_rfl, fun W hW => by go_simp⟩) ?_
  simp only [List.getElem_toArray, List.getElem_cons_zero, List.getElem_cons_succ, Act.put, List.setIfInBounds_toArray, List.set_cons_zero, List.set_cons_succ]
  refine seq_take (o := { dst := some 95, op := Go.Op.move (Go.Operand.tmp 9), type := 35, pos := "more.go:27", after := #[{ on := 7, ground := Go.Ground.guard }], guard := some (7, true) }) (v := .slice (some ⟨go1, 0, none⟩) no1 no1) (by kernel_rfl) (fun _ _ _ h => h) (Or.inl ⟨by kernel_rfl, fun W hW => by go_simp⟩) ?_
  simp only [List.getElem_toArray, List.getElem_cons_zero, List.getElem_cons_succ, Act.put, List.setIfInBounds_toArray, List.set_cons_zero, List.set_cons_succ]
  refine seq_take (o := { dst := some 96, op := Go.Op.convert 35 9 (Go.Operand.tmp 95), type := 9, pos := "more.go:27", after := #[{ on := 8, ground := Go.Ground.data }, { on := 7, ground := Go.Ground.guard }], guard := some (7, true) }) (v := .string (spell (sealL (wrL [u, v])))) (by kernel_rfl) (fun _ _ _ h => h) (Or.inl ⟨by kernel_rfl, fun W hW => by have q0 := Q3.out W hW; go_simp⟩) ?_
  simp only [List.getElem_toArray, List.getElem_cons_zero, List.getElem_cons_succ, Act.put, List.setIfInBounds_toArray, List.set_cons_zero, List.set_cons_succ]
  refine seq_take (o := { dst := some 97, op := Go.Op.move (Go.Operand.tmp 11), type := 35, pos := "more.go:27", after := #[{ on := 7, ground := Go.Ground.guard }], guard := some (7, true) }) (v := .slice (some ⟨go2, 0, none⟩) no2 no2) (by kernel_rfl) (fun _ _ _ h => h) (Or.inl ⟨by kernel_rfl, fun W hW => by go_simp⟩) ?_
  simp only [List.getElem_toArray, List.getElem_cons_zero, List.getElem_cons_succ, Act.put, List.setIfInBounds_toArray, List.set_cons_zero, List.set_cons_succ]
  refine seq_take (o := { dst := some 98, op := Go.Op.convert 35 9 (Go.Operand.tmp 97), type := 9, pos := "more.go:27", after := #[{ on := 10, ground := Go.Ground.data }, { on := 7, ground := Go.Ground.guard }], guard := some (7, true) }) (v := .string (spell (sealL (wrL [v, u])))) (by kernel_rfl) (fun _ _ _ h => h) (Or.inl ⟨by kernel_rfl, fun W hW => by have q0 := Q4.out W hW; go_simp⟩) ?_
  simp only [List.getElem_toArray, List.getElem_cons_zero, List.getElem_cons_succ, Act.put, List.setIfInBounds_toArray, List.set_cons_zero, List.set_cons_succ]
  refine seq_take (o := { dst := some 99, op := Go.Op.binOp Go.BinOp.eql 9 (Go.Operand.tmp 96) (Go.Operand.tmp 98) 9, type := 4, pos := "more.go:27", after := #[{ on := 9, ground := Go.Ground.data }, { on := 11, ground := Go.Ground.data }, { on := 7, ground := Go.Ground.guard }], guard := some (7, true) }) (v := .bool sm) (by kernel_rfl) (fun _ _ _ h => h) (Or.inl ⟨by kernel_rfl, fun W hW => by go_simp; exact toL_eq D2.out⟩) ?_
  simp only [List.getElem_toArray, List.getElem_cons_zero, List.getElem_cons_succ, Act.put, List.setIfInBounds_toArray, List.set_cons_zero, List.set_cons_succ]
  refine seq_take (o := { dst := some 100, op := Go.Op.move (Go.Operand.tmp 15), type := 4, pos := "more.go:27", after := #[{ on := 7, ground := Go.Ground.guard }], guard := some (7, true) }) (v := .bool sm) (by kernel_rfl) (fun _ _ _ h => h) (Or.inl ⟨by kernel_rfl, fun W hW => by go_simp⟩) ?_
  simp only [List.getElem_toArray, List.getElem_cons_zero, List.getElem_cons_succ, Act.put, List.setIfInBounds_toArray, List.set_cons_zero, List.set_cons_succ]
  refine seq_take (o := { dst := some 101, op := Go.Op.binOp Go.BinOp.eql 4 (Go.Operand.tmp 99) (Go.Operand.tmp 100) 4, type := 4, pos := "more.go:27", after := #[{ on := 12, ground := Go.Ground.data }, { on := 13, ground := Go.Ground.data }, { on := 7, ground := Go.Ground.guard }], guard := some (7, true) }) (v := .bool true) (by kernel_rfl) (fun _ _ _ h => h) (Or.inl ⟨by kernel_rfl, fun W hW => by have q0 := fun d x w => eqB d x w; go_simp⟩) ?_
  simp only [List.getElem_toArray, List.getElem_cons_zero, List.getElem_cons_succ, Act.put, List.setIfInBounds_toArray, List.set_cons_zero, List.set_cons_succ]
  refine seq_take (o := { dst := some 102, op := Go.Op.pick (Go.Operand.tmp 94) (Go.Operand.tmp 101) (Go.Operand.const (Go.Value.bool false)), type := 4, pos := "more.go:27", after := #[{ on := 7, ground := Go.Ground.data }, { on := 14, ground := Go.Ground.data }], guard := none }) (v := .bool true) (by kernel_rfl) (fun _ _ _ h => h) (Or.inl ⟨by kernel_rfl, fun W hW => by go_simp⟩) ?_
  simp only [List.getElem_toArray, List.getElem_cons_zero, List.getElem_cons_succ, Act.put, List.setIfInBounds_toArray, List.set_cons_zero, List.set_cons_succ]
  refine seq_take (o := { dst := some 103, op := Go.Op.move (Go.Operand.tmp 102), type := 4, pos := "more.go:27", after := #[{ on := 15, ground := Go.Ground.data }, { on := 7, ground := Go.Ground.chain }], guard := none }) (v := .bool true) (by kernel_rfl) (fun _ _ _ h => h) (Or.inl ⟨by kernel_rfl, fun W hW => by go_simp⟩) ?_
  simp only [List.getElem_toArray, List.getElem_cons_zero, List.getElem_cons_succ, Act.put, List.setIfInBounds_toArray, List.set_cons_zero, List.set_cons_succ]
  refine seq_take (o := { dst := some 104, op := Go.Op.move (Go.Operand.tmp 13), type := 30, pos := "more.go:27", after := #[{ on := 16, ground := Go.Ground.guard }], guard := some (16, true) }) (v := .slice (some ⟨gl, 0, none⟩) 2 lc) (by kernel_rfl) (fun _ _ _ h => h) (Or.inl ⟨by kernel_rfl, fun W hW => by go_simp⟩) ?_
  simp only [List.getElem_toArray, List.getElem_cons_zero, List.getElem_cons_succ, Act.put, List.setIfInBounds_toArray, List.set_cons_zero, List.set_cons_succ]
  refine seq_take (o := { dst := some 105, op := Go.Op.indexAddr 30 (Go.Operand.tmp 104) (Go.Operand.const (Go.Value.int Go.IntKind.i64 0)), type := 0, pos := "more.go:27", after := #[{ on := 17, ground := Go.Ground.data }, { on := 16, ground := Go.Ground.guard }], guard := some (16, true) }) (v := .pointer (some ⟨gl, 0, none⟩)) (by kernel_rfl) (fun _ _ _ h => h) (Or.inl ⟨by kernel_rfl, fun W hW => by go_simp⟩) ?_
  simp only [List.getElem_toArray, List.getElem_cons_zero, List.getElem_cons_succ, Act.put, List.setIfInBounds_toArray, List.set_cons_zero, List.set_cons_succ]
  refine seq_take (o := { dst := some 106, op := Go.Op.load 28 (Go.Operand.tmp 105), type := 28, pos := "more.go:27", after := #[{ on := 18, ground := Go.Ground.data }, { on := 16, ground := Go.Ground.guard }], guard := some (16, true) }) (v := .agg P1) (by kernel_rfl) (fun _ _ _ h => h) (yl_mid (by kernel_rfl) (by rfl) (by rfl) L1.out p118) ?_
  simp only [List.getElem_toArray, List.getElem_cons_zero, List.getElem_cons_succ, Act.put, List.setIfInBounds_toArray, List.set_cons_zero, List.set_cons_succ]
  refine seq_take (o := { dst := some 107, op := Go.Op.load 28 (Go.Operand.tmp 2), type := 28, pos := "more.go:27", after := #[{ on := 16, ground := Go.Ground.guard }], guard := some (16, true) }) (v := .agg A) (by kernel_rfl) (fun _ _ _ h => h) (yl_row (by kernel_rfl) (by rfl) (by rfl) (fun W hW => (XV.out.below hW).k2) a18) ?_
  simp only [List.getElem_toArray, List.getElem_cons_zero, List.getElem_cons_succ, Act.put, List.setIfInBounds_toArray, List.set_cons_zero, List.set_cons_succ]
  refine seq_call (o := { dst := some 108, op := Go.Op.call { callee := Go.Callee.value (Go.Operand.func 13), args := #[Go.Operand.tmp 106, Go.Operand.tmp 107], argTypes := #[28, 28] }, type := 4, pos := "more.go:27", after := #[{ on := 19, ground := Go.Ground.data }, { on := 20, ground := Go.Ground.data }, { on := 16, ground := Go.Ground.chain }, { on := 16, ground := Go.Ground.guard }], guard := some (16, true) }) (by kernel_rfl) (fun KK hK => ?_)
  rw [if_pos (by kernel_rfl)]
  go_simp
  have J1 : Hid (Irow V 0 p1.pa p1.pn p1.cm.ps) := (CV.out.ps p1 (by simp)).1
  have JX : Hid (Irow V 0 x.pa x.pn x.cm.ps) := XV.out.rx
  have SM1 : Hid (decide (p1.cm = x.cm) = true) := decide_eq_true (HP1.out.trans hx.out.symm)
  go_wp2_with (go_at_call 13; refine (same_x HA1 J1 hA JX).mono ?_; rintro e v11 ⟨rfl, h11⟩; rw [SM1.out])
  refine hK.out _ _ (h11.out) ?_
  clear hK KK
  try simp only [List.getElem_toArray, List.getElem_cons_zero, List.getElem_cons_succ, Act.put, List.setIfInBounds_toArray, List.set_cons_zero, List.set_cons_succ]
  refine seq_take (o := { dst := some 109, op := Go.Op.pick (Go.Operand.tmp 103) (Go.Operand.tmp 108) (Go.Operand.const (Go.Value.bool false)), type := 4, pos := "more.go:27", after := #[{ on := 16, ground := Go.Ground.data }, { on := 21, ground := Go.Ground.data }], guard := none }) (v := .bool true) (by kernel_rfl) (fun _ _ _ h => h) (Or.inl ⟨by kernel_rfl, fun W hW => by go_simp⟩) ?_
  simp only [List.getElem_toArray, List.getElem_cons_zero, List.getElem_cons_succ, Act.put, List.setIfInBounds_toArray, List.set_cons_zero, List.set_cons_succ]
  refine seq_take (o := { dst := some 110, op := Go.Op.move (Go.Operand.tmp 109), type := 4, pos := "more.go:27", after := #[{ on := 22, ground := Go.Ground.data }, { on := 21, ground := Go.Ground.chain }], guard := none }) (v := .bool true) (by kernel_rfl) (fun _ _ _ h => h) (Or.inl ⟨by kernel_rfl, fun W hW => by go_simp⟩) ?_
  simp only [List.getElem_toArray, List.getElem_cons_zero, List.getElem_cons_succ, Act.put, List.setIfInBounds_toArray, List.set_cons_zero, List.set_cons_succ]
  refine seq_take (o := { dst := some 111, op := Go.Op.move (Go.Operand.tmp 13), type := 30, pos := "more.go:27", after := #[{ on := 23, ground := Go.Ground.guard }], guard := some (23, true) }) (v := .slice (some ⟨gl, 0, none⟩) 2 lc) (by kernel_rfl) (fun _ _ _ h => h) (Or.inl ⟨by kernel_rfl, fun W hW => by go_simp⟩) ?_
  simp only [List.getElem_toArray, List.getElem_cons_zero, List.getElem_cons_succ, Act.put, List.setIfInBounds_toArray, List.set_cons_zero, List.set_cons_succ]
  refine seq_take (o := { dst := some 112, op := Go.Op.indexAddr 30 (Go.Operand.tmp 111) (Go.Operand.const (Go.Value.int Go.IntKind.i64 1)), type := 0, pos := "more.go:27", after := #[{ on := 24, ground := Go.Ground.data }, { on := 23, ground := Go.Ground.guard }], guard := some (23, true) }) (v := .pointer (some ⟨gl, 18, none⟩)) (by kernel_rfl) (fun _ _ _ h => h) (Or.inl ⟨by kernel_rfl, fun W hW => by go_simp⟩) ?_
  simp only [List.getElem_toArray, List.getElem_cons_zero, List.getElem_cons_succ, Act.put, List.setIfInBounds_toArray, List.set_cons_zero, List.set_cons_succ]
  refine seq_take (o := { dst := some 113, op := Go.Op.load 28 (Go.Operand.tmp 112), type := 28, pos := "more.go:27", after := #[{ on := 25, ground := Go.Ground.data }, { on := 23, ground := Go.Ground.guard }], guard := some (23, true) }) (v := .agg P2) (by kernel_rfl) (fun _ _ _ h => h) (yl_mid (by kernel_rfl) (by rfl) (by rfl) L2.out p218) ?_
  simp only [List.getElem_toArray, List.getElem_cons_zero, List.getElem_cons_succ, Act.put, List.setIfInBounds_toArray, List.set_cons_zero, List.set_cons_succ]
  refine seq_take (o := { dst := some 114, op := Go.Op.load 28 (Go.Operand.tmp 3), type := 28, pos := "more.go:27", after := #[{ on := 23, ground := Go.Ground.guard }], guard := some (23, true) }) (v := .agg D) (by kernel_rfl) (fun _ _ _ h => h) (yl_row (by kernel_rfl) (by rfl) (by rfl) (fun W hW => (XV.out.below hW).k3) d18) ?_
  simp only [List.getElem_toArray, List.getElem_cons_zero, List.getElem_cons_succ, Act.put, List.setIfInBounds_toArray, List.set_cons_zero, List.set_cons_succ]
  refine seq_call (o := { dst := some 115, op := Go.Op.call { callee := Go.Callee.value (Go.Operand.func 13), args := #[Go.Operand.tmp 113, Go.Operand.tmp 114], argTypes := #[28, 28] }, type := 4, pos := "more.go:27", after := #[{ on := 26, ground := Go.Ground.data }, { on := 27, ground := Go.Ground.data }, { on := 23, ground := Go.Ground.chain }, { on := 23, ground := Go.Ground.guard }], guard := some (23, true) }) (by kernel_rfl) (fun KK hK => ?_)
  rw [if_pos (by kernel_rfl)]
  go_simp
  have J2 : Hid (Irow v11 0 p2.pa p2.pn p2.cm.ps) := ((CV.out.ps p2 (by simp)).1).below h11.out
  have JY : Hid (Irow v11 0 y.pa y.pn y.cm.ps) := (XV.out.below h11.out).ry
  have SM2 : Hid (decide (p2.cm = y.cm) = true) := decide_eq_true (HP2.out.trans hy.out.symm)
  go_wp2_with (go_at_call 13; refine (same_x HA2 J2 hD JY).mono ?_; rintro e v12 ⟨rfl, h12⟩; rw [SM2.out])
  have B12 : Hid (Below V.heap.size V v12) := h11.out.trans (h12.out.mono h11.out.size)
  refine hK.out _ _ (B12.out) ?_
  clear hK KK
  try simp only [List.getElem_toArray, List.getElem_cons_zero, List.getElem_cons_succ, Act.put, List.setIfInBounds_toArray, List.set_cons_zero, List.set_cons_succ]
  refine seq_take (o := { dst := some 116, op := Go.Op.pick (Go.Operand.tmp 110) (Go.Operand.tmp 115) (Go.Operand.const (Go.Value.bool false)), type := 4, pos := "more.go:27", after := #[{ on := 23, ground := Go.Ground.data }, { on := 28, ground := Go.Ground.data }], guard := none }) (v := .bool true) (by kernel_rfl) (fun _ _ _ h => h) (Or.inl ⟨by kernel_rfl, fun W hW => by go_simp⟩) ?_
  simp only [List.getElem_toArray, List.getElem_cons_zero, List.getElem_cons_succ, Act.put, List.setIfInBounds_toArray, List.set_cons_zero, List.set_cons_succ]
  refine seq_take (o := { dst := some 4, op := Go.Op.assign (Go.Operand.tmp 116), type := 4, pos := "more.go:27", after := #[{ on := 29, ground := Go.Ground.data }, { on := 28, ground := Go.Ground.chain }, { on := 0, ground := Go.Ground.phase }, { on := 1, ground := Go.Ground.phase }, { on := 2, ground := Go.Ground.phase }, { on := 3, ground := Go.Ground.phase }, { on := 4, ground := Go.Ground.phase }, { on := 5, ground := Go.Ground.phase }, { on := 6, ground := Go.Ground.phase }, { on := 7, ground := Go.Ground.phase }, { on := 8, ground := Go.Ground.phase }, { on := 9, ground := Go.Ground.phase }, { on := 10, ground := Go.Ground.phase }, { on := 11, ground := Go.Ground.phase }, { on := 12, ground := Go.Ground.phase }, { on := 13, ground := Go.Ground.phase }, { on := 14, ground := Go.Ground.phase }, { on := 15, ground := Go.Ground.phase }, { on := 16, ground := Go.Ground.phase }, { on := 17, ground := Go.Ground.phase }, { on := 18, ground := Go.Ground.phase }, { on := 19, ground := Go.Ground.phase }, { on := 20, ground := Go.Ground.phase }, { on := 21, ground := Go.Ground.phase }, { on := 22, ground := Go.Ground.phase }, { on := 23, ground := Go.Ground.phase }, { on := 24, ground := Go.Ground.phase }, { on := 25, ground := Go.Ground.phase }, { on := 26, ground := Go.Ground.phase }, { on := 27, ground := Go.Ground.phase }, { on := 28, ground := Go.Ground.phase }, { on := 29, ground := Go.Ground.phase }], guard := none }) (v := .bool true) (by kernel_rfl) (fun _ _ _ h => h) (Or.inl ⟨by kernel_rfl, fun W hW => by go_simp⟩) ?_
  simp only [List.getElem_toArray, List.getElem_cons_zero, List.getElem_cons_succ, Act.put, List.setIfInBounds_toArray, List.set_cons_zero, List.set_cons_succ]
  show (Exit.then _ _) .normal _ _
  go_wp2
  go_ret
  exact ⟨rfl, XV.out.bel.trans (B12.out.mono XV.out.bel.size)⟩
theorem lengths_n {w : World} {M : Nat → Prop} {E : Nat → Addr} {x y : Cx} {A D : Array Value} (hE : Hid (Sent w M E)) (hM0 : M 0) (hM1 : M 1) (hM7 : M 7) (hA : Hid (A = (encX x).toArray)) (hIx : Hid (Irow w 0 x.pa x.pn x.cm.ps)) (hzx : Hid (x.pa = none → x.pc = 0)) (hsx : Hid (x.cm.bu.size ≤ 281474976710656 ∧ x.cm.ke.size ≤ 281474976710656 ∧ x.cm.et.size ≤ 281474976710656)) (hD : Hid (D = (encX y).toArray)) (hIy : Hid (Irow w 0 y.pa y.pn y.cm.ps)) (hzy : Hid (y.pa = none → y.pc = 0)) (hsy : Hid (y.cm.bu.size ≤ 281474976710656 ∧ y.cm.ke.size ≤ 281474976710656 ∧ y.cm.et.size ≤ 281474976710656)) :
    Calls Tryd.prog 8 #[.agg A, .agg D] w fun e w' => e = .returned (.bool true) ∧ Hid (Below w.heap.size w w') := by
  rcases Bool.eq_false_or_eq_true (frm x.cm) with hfx | hfx
  · obtain ⟨u, hu, bu⟩ := frm_nat hfx
    have fu : frm u.cm = true := by rw [← hu]; exact hfx
    rcases Bool.eq_false_or_eq_true (frm y.cm) with hfy | hfy
    · obtain ⟨v, hv, bv⟩ := frm_nat hfy
      exact len_tt hE hM0 hM1 hM7 hA hIx hzx hsx hD hIy hzy hsy hu bu fu hv bv (by rw [← hv]; exact hfy)
    · exact len_tf hE hM0 hM1 hM7 hA hIx hzx hsx hD hIy hzy hsy hu bu fu hfy
  · rcases Bool.eq_false_or_eq_true (frm y.cm) with hfy | hfy
    · obtain ⟨v, hv, bv⟩ := frm_nat hfy
      exact len_ft hE hM0 hM1 hM7 hA hIx hzx hsx hD hIy hzy hsy hfx hv bv (by rw [← hv]; exact hfy)
    · exact len_ff hE hM0 hM1 hM7 hA hIx hzx hsx hD hIy hzy hsy hfx hfy
end Go.Proofs.YtoegfckafnlknaaDoor
