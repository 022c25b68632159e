import Derived.Test.YtoegfckafnlknaaDoorMGa
/- Gb -/
/- CommandForms: the walk. -/
namespace Go.Proofs.YtoegfckafnlknaaDoor
open Go.ChangeShapes Go.WideShapes Go.ChangeAt Go.RowKit
set_option maxRecDepth 20000
set_option linter.unusedVariables false
set_option linter.unusedSimpArgs false
theorem cms_one {w : World} {lo g : Nat} {x : Cx} (h : w.heap[g]? = some (.cells (encX x).toArray 28 (0, 0))) (hlo : lo ≤ g) (hp : Irow w lo x.pa x.pn x.cm.ps) (hz : x.pa = none → x.pc = 0) (hs : x.cm.bu.size ≤ 281474976710656 ∧ x.cm.ke.size ≤ 281474976710656 ∧ x.cm.et.size ≤ 281474976710656) : Cms w lo (some ⟨g, 0, none⟩) 1 [x] := by
  refine ⟨rfl, by omega, .inr ⟨g, 0, rfl, hlo, (Array.getElem?_eq_some_iff.1 h).1, ?_⟩, fun y hy => ?_, fun y hy => ?_⟩
  · have := range_blk h
    simpa [flat] using this
  · obtain rfl := List.mem_singleton.1 hy
    exact ⟨hp, hz⟩
  · obtain rfl := List.mem_singleton.1 hy
    exact hs
theorem fold18 {A : Array Value} {x : Cx} (h : A = (encX x).toArray) : Array.foldl (fun cs (x : Value × Nat) => cs.setIfInBounds x.snd x.fst) #[.int .i64 0, .int .i64 0, .int .i64 0, .int .i64 0, .string ⟨#[]⟩, .string ⟨#[]⟩, .int .i64 0, .int .i64 0, .int .i64 0, .int .i64 0, .int .i64 0, .int .i64 0, .int .i64 0, .string ⟨#[]⟩, .int .i64 0, .slice none 0 0, .int .i64 0, .int .i64 0] A.zipIdx 0 18 = A := by
  obtain ⟨⟨k, i0, i1, i2, bu, ke, u0, u1, u2, b0, b1, b2, sz, et, pt, ps, tm, dy⟩, pa, pn, pc⟩ := x
  subst h
  kernel_rfl
theorem led_one {x : Cx} {Y : List Cx} (h : led Y = led [x]) : ∃ y, Y = [y] ∧ y.cm = x.cm := by
  unfold led at h
  match Y, h with
  | [], h => simp at h
  | [y], h => exact ⟨y, rfl, by simpa using h⟩
  | _ :: _ :: _, h => simp at h
/- a command in a box of the call's own, and one that is handed in -/
structure Bx (w W : World) (g : Nat) (A : Array Value) (x : Cx) : Prop where
  k : W.heap[g]? = some (.cells A 28 (0, 0))
  row : Irow W 0 x.pa x.pn x.cm.ps
theorem Bx.below {w W W' : World} {g : Nat} {A : Array Value} {x : Cx} (h : Bx w W g A x) (hb : Below W.heap.size W W') : Bx w W' g A x := ⟨(hb.block g (Array.getElem?_eq_some_iff.1 h.k).1).trans h.k, h.row.below hb⟩
noncomputable def opr3 : Array Oper := match Tryd.f3.body with
  | some c => match regIn 11 c with
    | some o => o
    | none => #[]
  | none => #[]
theorem yl_row {ops : Array Oper} {C : World → Prop} {op : Oper} {a : Act} {A : Array Value} {g : Nat} {x : Operand} (hw : Region.wanted op (yielded ops a.tmps) = true) (ho : op.op = .load 28 x) (hx : a.eval x = .pointer (some ⟨g, 0, none⟩)) (hS : ∀ W, C W → W.heap[g]? = some (.cells A 28 (0, 0))) (h18 : A.size = 18) : YieldsIf Tryd.prog ops C op (.agg A) a :=
  .inl ⟨hw, fun W hW => by
    unfold execOp
    simp only [ho, hx, Instr.loadAt, Instr.sureAddr, Sem.run_bind, Sem.run_pure, Result.andThen_ok, run_loadVar_row W g 28 28 A (0, 0) _ (hS W hW) Tryd.underlying28 rfl (info28 h18)]⟩
theorem eq_str (d : Nat) (x : ByteArray) (w : World) : (Op.equalIn (d + 1) 9 (.string x) (.string x)).run Tryd.prog w = .ok true w := by
  rw [eqS]
  simp
set_option maxHeartbeats 2000000 in
theorem forms_n {w : World} {M : Nat → Prop} {E : Nat → Addr} {x : Cx} {A : Array Value} (hE : Hid (Sent w M E)) (hM0 : M 0) (hM1 : M 1) (hA : Hid (A = (encX x).toArray)) (hI : Hid (Irow w 0 x.pa x.pn x.cm.ps)) (hz : Hid (x.pa = none → x.pc = 0)) (hs : Hid (x.cm.bu.size ≤ 281474976710656 ∧ x.cm.ke.size ≤ 281474976710656 ∧ x.cm.et.size ≤ 281474976710656)) :
    Calls Tryd.prog 3 #[.agg A] w fun e w' => e = .returned (.bool true) ∧ Hid (Below w.heap.size w w') := by
  have a18 : A.size = 18 := encX_sz hA.out
  have A1 : Hid (A.all (·.oneCell') = true) := encX_all hA.out
  obtain ⟨g1, Hg1⟩ : ∃ g, Hid (w.heap.size = g) := ⟨_, rfl⟩
  obtain ⟨w1, Hw1⟩ : ∃ w1, Hid (w.alloc (.cells A 28) = w1) := ⟨_, rfl⟩
  have B1 : Hid (Below w.heap.size w w1) := by rw [← Hw1.out]; exact alloc1 w _
  have X1 : Hid (Bx w w1 g1 A x) := ⟨by rw [← Hw1.out, ← Hg1.out]; exact heap_alloc_new w _, hI.out.below B1.out⟩
  go_enter Tryd.func3, Tryd.ntmps3
  go_upto_region 1 with (fail)
  rw [Hw1.out, Hg1.out]
  go_upto_region 3 with (go_at_call 9; refine (alive_n _).mono ?_; rintro e w2 ⟨rfl, h2⟩)
  have B2 : Hid (Below w.heap.size w w2) := B1.out.trans (h2.out.mono B1.out.size)
  have X2 : Hid (Bx w w2 g1 A x) := X1.out.below h2.out
  clear X1 h2 B1
  obtain ⟨g2, Hg2⟩ : ∃ g, Hid (w2.heap.size = g) := ⟨_, rfl⟩
  obtain ⟨w3, Hw3⟩ : ∃ w3, Hid (w2.alloc (.cells A 28) = w3) := ⟨_, rfl⟩
  have b3 : Hid (Below w2.heap.size w2 w3) := by rw [← Hw3.out]; exact alloc1 w2 _
  have X3 : Hid (Bx w w3 g1 A x) := X2.out.below b3.out
  have C3 : Hid (Cms w3 0 (some ⟨g2, 0, none⟩) 1 [x]) := cms_one (by rw [← hA.out, ← Hw3.out, ← Hg2.out]; exact heap_alloc_new w2 _) (Nat.zero_le _) X3.out.row hz.out hs.out
  have N3 : Hid (some (⟨g2, 0, none⟩ : Addr) = none → 1 = 0) := fun h => by cases h
  have FD : Hid (Array.foldl (fun cs (x : Value × Nat) => cs.setIfInBounds x.snd x.fst) #[.int .i64 0, .int .i64 0, .int .i64 0, .int .i64 0, .string ⟨#[]⟩, .string ⟨#[]⟩, .int .i64 0, .int .i64 0, .int .i64 0, .int .i64 0, .int .i64 0, .int .i64 0, .int .i64 0, .string ⟨#[]⟩, .int .i64 0, .slice none 0 0, .int .i64 0, .int .i64 0] A.zipIdx 0 18 = A) := fold18 hA.out
  go_upto_region 4 with first
    | (refine wpList_load_row (by rfl) 28 (.tmp 1) (by rfl) g1 (by rfl) 28 A (0, 0) _ X2.out.k Tryd.underlying28 rfl (info28 a18) ?_)
    | (go_at_call 10; rw [FD.out, Hw3.out, Hg2.out]; refine (copy_n C3 N3).mono ?_; rintro e w4 ⟨a4, c4, rfl, H4⟩
       obtain ⟨Y, hY, O4, b4⟩ := H4.out
       obtain ⟨y, rfl, hy⟩ := led_one hY
       obtain ⟨g3, rfl, _, l3, _⟩ := rown_at O4.row (by omega)
       obtain ⟨A', HA'⟩ : ∃ A', Hid (A' = (encX y).toArray) := ⟨_, rfl⟩
       have a18' : A'.size = 18 := encX_sz HA'.out
       have R4 : w4.rangeAt g3 0 A'.toList := fun j v hv => by
         have hj := (List.getElem?_eq_some_iff.1 hv).1
         rw [HA'.out] at hv hj
         rw [Nat.zero_add, O4.row.cellAt j (by simpa [encX] using hj)]
         simpa [flat] using hv
       have HY := show Hid (y.cm = x.cm) from hy
       have X4 : Hid (Bx w w4 g1 A x) := X3.out.below b4
       have I4 : Hid (Irow w4 0 y.pa y.pn y.cm.ps) := ((O4.cms.ps y (List.mem_singleton.2 rfl)).1).mono (Nat.zero_le _)
       have B4 : Hid (Below w.heap.size w w4) := (B2.out.trans (b3.out.mono B2.out.size)).trans (b4.mono (Nat.le_trans B2.out.size b3.out.size))
       clear hY hy O4 b4 l3 H4)
    | (refine wpList_load_mid (by rfl) 28 (.tmp 14) (by rfl) g3 0 (by rfl) _ _ R4 Tryd.underlying28 rfl (by rw [Array.length_toList]; exact info28 a18') ?_)
    | (refine wpList_store_row (by rfl) 28 (.tmp 3) (.tmp 15) (by rfl) w4.heap.size A' (by rfl) (by rfl) 28 _ (heap_alloc_new w4 _) (info28 a18') a18'.symm (encX_all HA'.out) ?_)
  obtain ⟨g5, Hg5⟩ : ∃ g, Hid (w4.heap.size = g) := ⟨_, rfl⟩
  obtain ⟨w5, Hw5⟩ : ∃ w5, Hid ((w4.alloc (.cells #[.int .i64 0, .int .i64 0, .int .i64 0, .int .i64 0, .string ⟨#[]⟩, .string ⟨#[]⟩, .int .i64 0, .int .i64 0, .int .i64 0, .int .i64 0, .int .i64 0, .int .i64 0, .int .i64 0, .string ⟨#[]⟩, .int .i64 0, .slice none 0 0, .int .i64 0, .int .i64 0] 28)).setRow w4.heap.size A' = w5) := ⟨_, rfl⟩
  rw [Hw5.out, Hg5.out]
  have B45 : Hid (Below w4.heap.size w4 w5) := by rw [← Hw5.out]; exact below_setRow (alloc1 w4 _) (Nat.le_refl _) A'
  have X5 : Hid (Bx w w5 g1 A x) := X4.out.below B45.out
  have Y5 : Hid (Bx w w5 g5 A' y) := ⟨by rw [← Hw5.out, ← Hg5.out]; exact setRow_heap _ _ _ _ _ _ (heap_alloc_new w4 _), I4.out.below B45.out⟩
  have B5 : Hid (Below w.heap.size w w5) := B4.out.trans (B45.out.mono B4.out.size)
  have I5 : Hid (Irow w5 0 y.pa y.pn y.cm.ps) := Y5.out.row
  have E5 : Hid (Sent w5 M E) := hE.out.below B5.out
  clear B45 Hw5 X4 R4 I4 B4 X3 C3 N3 FD b3 X2 B2 Hw3 Hg2
  try simp only [Act.put]
  rcases Bool.eq_false_or_eq_true (frm x.cm) with hf | hf
  · obtain ⟨z, hzc, hzb⟩ := frm_nat hf
    have HZ : Hid (x.cm = z.cm) := hzc
    have HZ' : Hid (y.cm = z.cm) := HY.out.trans hzc
    have NBZ : Hid (Nb z) := hzb
    have HF : Hid (frm x.cm = true) := hf
    have HFy : Hid (frm y.cm = true) := by rw [HY.out]; exact hf
    have HFz : Hid (frm z.cm = true) := by rw [← HZ.out]; exact hf
    clear hf hzc hzb
    go_upto_region 5 with first
      | (refine wpList_load_row (by rfl) 28 (.tmp 3) (by rfl) g5 (by rfl) 28 A' (0, 0) _ Y5.out.k Tryd.underlying28 rfl (info28 a18') ?_)
      | (go_at_call 11; refine (chk_yes HA' I5 HFy).mono ?_; rintro e w6 ⟨rfl, h6⟩)
    have X6 : Hid (Bx w w6 g1 A x) := X5.out.below h6.out
    have Y6 : Hid (Bx w w6 g5 A' y) := Y5.out.below h6.out
    have I6 : Hid (Irow w6 0 y.pa y.pn y.cm.ps) := Y6.out.row
    have B6 : Hid (Below w.heap.size w w6) := B5.out.trans (h6.out.mono B5.out.size)
    clear h6 X5 Y5 I5 B5 E5
    go_upto_region 6 with first
      | (refine wpList_load_row (by rfl) 28 (.tmp 3) (by rfl) g5 (by rfl) 28 A' (0, 0) _ Y6.out.k Tryd.underlying28 rfl (info28 a18') ?_)
      | (go_at_call 12; refine (putx_yes HA' I6 HZ' NBZ HFz).mono ?_; rintro e w7 ⟨ab, nb, cb, rfl, h7⟩)
    have OB : Hid (Own w7 w6.heap.size ab nb cb z.by) := h7.out.1
    have NB : Hid (nb ≤ 2000) := h7.out.2.2
    have X7 : Hid (Bx w w7 g1 A x) := X6.out.below h7.out.2.1
    have Y7 : Hid (Bx w w7 g5 A' y) := Y6.out.below h7.out.2.1
    have I7 : Hid (Irow w7 0 y.pa y.pn y.cm.ps) := Y7.out.row
    have J7 : Hid (Irow w7 0 x.pa x.pn x.cm.ps) := X7.out.row
    have B7 : Hid (Below w.heap.size w w7) := B6.out.trans (h7.out.2.1.mono B6.out.size)
    have SM : Hid (decide (y.cm = x.cm) = true) := decide_eq_true HY.out
    clear h7 X6 Y6 I6 B6
    go_upto_region 8 with first
      | (refine wpList_load_row (by rfl) 28 (.tmp 3) (by rfl) g5 (by rfl) 28 A' (0, 0) _ Y7.out.k Tryd.underlying28 rfl (info28 a18') ?_)
      | (refine wpList_load_row (by rfl) 28 (.tmp 1) (by rfl) g1 (by rfl) 28 A (0, 0) _ X7.out.k Tryd.underlying28 rfl (info28 a18) ?_)
      | (go_at_call 13; refine (same_x HA' I7 hA J7).mono ?_; rintro e w8 ⟨rfl, h8⟩; rw [SM.out])
    have X8 : Hid (Bx w w8 g1 A x) := X7.out.below h8.out
    have J8 : Hid (Irow w8 0 x.pa x.pn x.cm.ps) := X8.out.row
    have B8 : Hid (Below w.heap.size w w8) := B7.out.trans (h8.out.mono B7.out.size)
    have O8 : Hid (Own w8 w6.heap.size ab nb cb z.by) := OB.out.below h8.out
    clear h8 X7 Y7 I7 J7 B7 SM OB
    go_upto_region 10 with first
      | (refine wpList_load_row (by rfl) 28 (.tmp 1) (by rfl) g1 (by rfl) 28 A (0, 0) _ X8.out.k Tryd.underlying28 rfl (info28 a18) ?_)
      | (go_at_call 14; refine (inf_x hA J8 hs).mono ?_; rintro e w9 ⟨rfl, h9⟩; rw [HF.out])
    have X9 : Hid (Bx w w9 g1 A x) := X8.out.below h9.out
    have B9 : Hid (Below w.heap.size w w9) := B8.out.trans (h9.out.mono B8.out.size)
    have O9 : Hid (Own w9 w6.heap.size ab nb cb z.by) := O8.out.below h9.out
    have S9 : Hid (Sln w9 ab nb z.by) := O9.out.sln (by have := NB.out; omega)
    have N9 : Hid (ab = none → cb = 0) := O9.out.cap0
    have E9 : Hid (Sent w9 M E) := hE.out.below B9.out
    have RG : Hid (rdG z.by = some z) := rdG_there NBZ.out HFz.out
    clear h9 X8 J8 B8 O8
    go_upto_region 11 with first
      | (go_at_call 15; refine (getx_yes S9 N9 E9 hM1 RG).mono ?_; rintro e w10 ⟨D, rfl, h10⟩
         obtain ⟨d, hD, hdc, hrow, hpn, b10⟩ := h10.out
         have HD : Hid (D = (encX d).toArray) := hD
         have d18 : D.size = 18 := encX_sz hD
         have DC : Hid (d.cm = z.cm) := hdc
         clear hD hdc)
      | (refine wpList_store_row (by rfl) 28 (.tmp 7) (.tmp 46) (by rfl) w10.heap.size D (by rfl) (by rfl) 28 _ (heap_alloc_new w10 _) (info28 d18) d18.symm (encX_all HD.out) ?_)
    obtain ⟨g7, Hg7⟩ : ∃ g, Hid (w10.heap.size = g) := ⟨_, rfl⟩
    obtain ⟨w11, Hw11⟩ : ∃ W, Hid (((w10.alloc (.cells #[.int .i64 0, .int .i64 0, .int .i64 0, .int .i64 0, .string ⟨#[]⟩, .string ⟨#[]⟩, .int .i64 0, .int .i64 0, .int .i64 0, .int .i64 0, .int .i64 0, .int .i64 0, .int .i64 0, .string ⟨#[]⟩, .int .i64 0, .slice none 0 0, .int .i64 0, .int .i64 0] 28)).setRow w10.heap.size D) = W) := ⟨_, rfl⟩
    rw [Hw11.out, Hg7.out]
    have b11 : Hid (Below w10.heap.size w10 w11) := by rw [← Hw11.out]; exact below_setRow (alloc1 w10 _) (Nat.le_refl _) D
    have X11 : Hid (Bx w w11.drew g1 A x) := ((X9.out.below b10).below b11.out).below (below_drewN (Below.refl _ _) 1)
    have D11 : Hid (Bx w w11.drew g7 D d) := by
      have h : Bx w w11 g7 D d := ⟨by rw [← Hw11.out, ← Hg7.out]; exact setRow_heap _ _ _ _ _ _ (heap_alloc_new w10 _), ((irow_own hrow (by omega)).mono (Nat.zero_le _)).below b11.out⟩
      exact h.below (below_drewN (Below.refl _ _) 1)
    have O11 : Hid (Own w11.drew w6.heap.size ab nb cb z.by) := ((O9.out.below b10).below b11.out).below (below_drewN (Below.refl _ _) 1)
    have B11 : Hid (Below w.heap.size w w11.drew) := ((B9.out.trans (b10.mono B9.out.size)).trans (b11.out.mono (Nat.le_trans B9.out.size b10.size))).drew
    obtain ⟨v, Hv⟩ : ∃ v, Hid (w11.drew = v) := ⟨_, rfl⟩
    rw [Hv.out] at X11 D11 O11 B11
    clear hrow hpn b10 h10 b11 Hw11 Hg7 X9 B9 O9 S9 E9 RG
    have NBB : Hid (∀ W : World, Own W w6.heap.size ab nb cb z.by → (convert 35 9 (.slice ab nb cb)).run Tryd.prog W = .ok (.string (spell z.by)) W) := fun W h => conv_n (h.sln (by have := NB.out; omega))
    refine wp_region_seq (ops := opr3) (C := fun W => W.heap[g1]? = some (.cells A 28 (0, 0)) ∧ W.heap[g7]? = some (.cells D 28 (0, 0)) ∧ Own W w6.heap.size ab nb cb z.by) [(0, false), (1, false), (2, false), (3, false), (4, false), (5, false), (6, false), (7, false), (8, false), (9, false), (10, true), (11, true), (12, false), (13, false), (14, false), (15, false), (16, false), (17, false), (18, false), (19, false), (20, false), (21, true), (22, false), (23, false)] (by kernel_rfl) (by kernel_rfl) (by rw [Hv.out]; exact ⟨X11.out.k, D11.out.k, O11.out⟩) ?_
    rw [Hv.out]
    clear Hv
    refine seq_take (o := { dst := some 48, op := Go.Op.move (Go.Operand.tmp 4), type := 33, pos := "law.go:34", after := #[], guard := none }) (v := .nilIface) (by kernel_rfl) (fun _ _ _ h => h) (Or.inl ⟨by kernel_rfl, fun W hW => by go_simp⟩) ?_
    simp only [List.getElem_toArray, List.getElem_cons_zero, List.getElem_cons_succ, Act.put, List.setIfInBounds_toArray, List.set_cons_zero, List.set_cons_succ]
    refine seq_take (o := { dst := some 49, op := Go.Op.binOp Go.BinOp.eql 33 (Go.Operand.tmp 48) (Go.Operand.const Go.Value.nilIface) 33, type := 4, pos := "law.go:34", after := #[{ on := 0, ground := Go.Ground.data }], guard := none }) (v := .bool true) (by kernel_rfl) (fun _ _ _ h => h) (Or.inl ⟨by kernel_rfl, fun W hW => by go_simp⟩) ?_
    simp only [List.getElem_toArray, List.getElem_cons_zero, List.getElem_cons_succ, Act.put, List.setIfInBounds_toArray, List.set_cons_zero, List.set_cons_succ]
    refine seq_take (o := { dst := some 50, op := Go.Op.move (Go.Operand.tmp 49), type := 4, pos := "law.go:34", after := #[{ on := 1, ground := Go.Ground.data }], guard := none }) (v := .bool true) (by kernel_rfl) (fun _ _ _ h => h) (Or.inl ⟨by kernel_rfl, fun W hW => by go_simp⟩) ?_
    simp only [List.getElem_toArray, List.getElem_cons_zero, List.getElem_cons_succ, Act.put, List.setIfInBounds_toArray, List.set_cons_zero, List.set_cons_succ]
    refine seq_take (o := { dst := some 51, op := Go.Op.move (Go.Operand.tmp 6), type := 33, pos := "law.go:34", after := #[{ on := 2, ground := Go.Ground.guard }], guard := some (2, true) }) (v := .nilIface) (by kernel_rfl) (fun _ _ _ h => h) (Or.inl ⟨by kernel_rfl, fun W hW => by go_simp⟩) ?_
    simp only [List.getElem_toArray, List.getElem_cons_zero, List.getElem_cons_succ, Act.put, List.setIfInBounds_toArray, List.set_cons_zero, List.set_cons_succ]
    refine seq_take (o := { dst := some 52, op := Go.Op.binOp Go.BinOp.eql 33 (Go.Operand.tmp 51) (Go.Operand.const Go.Value.nilIface) 33, type := 4, pos := "law.go:34", after := #[{ on := 3, ground := Go.Ground.data }, { on := 2, ground := Go.Ground.guard }], guard := some (2, true) }) (v := .bool true) (by kernel_rfl) (fun _ _ _ h => h) (Or.inl ⟨by kernel_rfl, fun W hW => by go_simp⟩) ?_
    simp only [List.getElem_toArray, List.getElem_cons_zero, List.getElem_cons_succ, Act.put, List.setIfInBounds_toArray, List.set_cons_zero, List.set_cons_succ]
    refine seq_take (o := { dst := some 53, op := Go.Op.pick (Go.Operand.tmp 50) (Go.Operand.tmp 52) (Go.Operand.const (Go.Value.bool false)), type := 4, pos := "law.go:34", after := #[{ on := 2, ground := Go.Ground.data }, { on := 4, ground := Go.Ground.data }], guard := none }) (v := .bool true) (by kernel_rfl) (fun _ _ _ h => h) (Or.inl ⟨by kernel_rfl, fun W hW => by go_simp⟩) ?_
    simp only [List.getElem_toArray, List.getElem_cons_zero, List.getElem_cons_succ, Act.put, List.setIfInBounds_toArray, List.set_cons_zero, List.set_cons_succ]
    refine seq_take (o := { dst := some 54, op := Go.Op.move (Go.Operand.tmp 53), type := 4, pos := "law.go:34", after := #[{ on := 5, ground := Go.Ground.data }, { on := 2, ground := Go.Ground.chain }], guard := none }) (v := .bool true) (by kernel_rfl) (fun _ _ _ h => h) (Or.inl ⟨by kernel_rfl, fun W hW => by go_simp⟩) ?_
    simp only [List.getElem_toArray, List.getElem_cons_zero, List.getElem_cons_succ, Act.put, List.setIfInBounds_toArray, List.set_cons_zero, List.set_cons_succ]
    refine seq_take (o := { dst := some 55, op := Go.Op.move (Go.Operand.tmp 5), type := 35, pos := "law.go:34", after := #[{ on := 6, ground := Go.Ground.guard }], guard := some (6, true) }) (v := .slice ab nb cb) (by kernel_rfl) (fun _ _ _ h => h) (Or.inl ⟨by kernel_rfl, fun W hW => by go_simp⟩) ?_
    simp only [List.getElem_toArray, List.getElem_cons_zero, List.getElem_cons_succ, Act.put, List.setIfInBounds_toArray, List.set_cons_zero, List.set_cons_succ]
    refine seq_take (o := { dst := some 56, op := Go.Op.convert 35 9 (Go.Operand.tmp 55), type := 9, pos := "law.go:34", after := #[{ on := 7, ground := Go.Ground.data }, { on := 6, ground := Go.Ground.guard }], guard := some (6, true) }) (v := .string (spell z.by)) (by kernel_rfl) (fun _ _ _ h => h) (Or.inl ⟨by kernel_rfl, fun W hW => by have q0 := NBB.out W hW.2.2; go_simp⟩) ?_
    simp only [List.getElem_toArray, List.getElem_cons_zero, List.getElem_cons_succ, Act.put, List.setIfInBounds_toArray, List.set_cons_zero, List.set_cons_succ]
    refine seq_take (o := { dst := some 57, op := Go.Op.load 28 (Go.Operand.tmp 1), type := 28, pos := "law.go:34", after := #[{ on := 6, ground := Go.Ground.guard }], guard := some (6, true) }) (v := .agg A) (by kernel_rfl) (fun _ _ _ h => h) (yl_row (by kernel_rfl) (by rfl) (by rfl) (fun W hW => hW.1) a18) ?_
    simp only [List.getElem_toArray, List.getElem_cons_zero, List.getElem_cons_succ, Act.put, List.setIfInBounds_toArray, List.set_cons_zero, List.set_cons_succ]
    refine seq_call (o := { dst := some 58, op := Go.Op.call { callee := Go.Callee.value (Go.Operand.func 16), args := #[Go.Operand.tmp 57], argTypes := #[28] }, type := 35, pos := "law.go:34", after := #[{ on := 9, ground := Go.Ground.data }, { on := 6, ground := Go.Ground.chain }, { on := 6, ground := Go.Ground.guard }], guard := some (6, true) }) (by kernel_rfl) (fun KK hK => ?_)
    rw [if_pos (by kernel_rfl)]
    go_simp
    have J11 : Hid (Irow v 0 x.pa x.pn x.cm.ps) := X11.out.row
    go_wp2_with (go_at_call 16; refine (refputx_yes hA J11 HZ NBZ).mono ?_; rintro e w12 ⟨ar, nr, cr, rfl, h12⟩)
    have X12 : Hid (Bx w w12 g1 A x) := X11.out.below h12.out.2.1
    have D12 : Hid (Bx w w12 g7 D d) := D11.out.below h12.out.2.1
    have O12 : Hid (Own w12 w6.heap.size ab nb cb z.by) := O11.out.below h12.out.2.1
    have B12 : Hid (Below w.heap.size w w12) := B11.out.trans (h12.out.2.1.mono B11.out.size)
    have cv2 : (convert 35 9 (.slice ar nr cr)).run Tryd.prog w12 = .ok (.string (spell z.by)) w12 := conv_n (h12.out.1.sln (by have := h12.out.2.2; omega))
    refine hK.out _ _ (⟨X12.out.k, D12.out.k, O12.out⟩) ?_
    clear hK KK
    try simp only [List.getElem_toArray, List.getElem_cons_zero, List.getElem_cons_succ, Act.put, List.setIfInBounds_toArray, List.set_cons_zero, List.set_cons_succ]
    refine seq_call (o := { dst := some 59, op := Go.Op.convert 35 9 (Go.Operand.tmp 58), type := 9, pos := "law.go:34", after := #[{ on := 10, ground := Go.Ground.data }, { on := 6, ground := Go.Ground.guard }], guard := some (6, true) }) (by kernel_rfl) (fun KK hK => ?_)
    rw [if_pos (by kernel_rfl)]
    go_simp
    refine hK.out _ _ (⟨X12.out.k, D12.out.k, O12.out⟩) ?_
    clear hK KK
    try simp only [List.getElem_toArray, List.getElem_cons_zero, List.getElem_cons_succ, Act.put, List.setIfInBounds_toArray, List.set_cons_zero, List.set_cons_succ]
    refine seq_take (o := { dst := some 60, op := Go.Op.binOp Go.BinOp.eql 9 (Go.Operand.tmp 56) (Go.Operand.tmp 59) 9, type := 4, pos := "law.go:34", after := #[{ on := 8, ground := Go.Ground.data }, { on := 11, ground := Go.Ground.data }, { on := 6, ground := Go.Ground.guard }], guard := some (6, true) }) (v := .bool true) (by kernel_rfl) (fun _ _ _ h => h) (Or.inl ⟨by kernel_rfl, fun W hW => by have q0 := fun d w => eq_str d (spell z.by) w; go_simp⟩) ?_
    simp only [List.getElem_toArray, List.getElem_cons_zero, List.getElem_cons_succ, Act.put, List.setIfInBounds_toArray, List.set_cons_zero, List.set_cons_succ]
    refine seq_take (o := { dst := some 61, op := Go.Op.pick (Go.Operand.tmp 54) (Go.Operand.tmp 60) (Go.Operand.const (Go.Value.bool false)), type := 4, pos := "law.go:34", after := #[{ on := 6, ground := Go.Ground.data }, { on := 12, ground := Go.Ground.data }], guard := none }) (v := .bool true) (by kernel_rfl) (fun _ _ _ h => h) (Or.inl ⟨by kernel_rfl, fun W hW => by go_simp⟩) ?_
    simp only [List.getElem_toArray, List.getElem_cons_zero, List.getElem_cons_succ, Act.put, List.setIfInBounds_toArray, List.set_cons_zero, List.set_cons_succ]
    refine seq_take (o := { dst := some 62, op := Go.Op.move (Go.Operand.tmp 61), type := 4, pos := "law.go:34", after := #[{ on := 13, ground := Go.Ground.data }, { on := 10, ground := Go.Ground.chain }], guard := none }) (v := .bool true) (by kernel_rfl) (fun _ _ _ h => h) (Or.inl ⟨by kernel_rfl, fun W hW => by go_simp⟩) ?_
    simp only [List.getElem_toArray, List.getElem_cons_zero, List.getElem_cons_succ, Act.put, List.setIfInBounds_toArray, List.set_cons_zero, List.set_cons_succ]
    refine seq_take (o := { dst := some 63, op := Go.Op.move (Go.Operand.tmp 8), type := 33, pos := "law.go:34", after := #[{ on := 14, ground := Go.Ground.guard }], guard := some (14, true) }) (v := .nilIface) (by kernel_rfl) (fun _ _ _ h => h) (Or.inl ⟨by kernel_rfl, fun W hW => by go_simp⟩) ?_
    simp only [List.getElem_toArray, List.getElem_cons_zero, List.getElem_cons_succ, Act.put, List.setIfInBounds_toArray, List.set_cons_zero, List.set_cons_succ]
    refine seq_take (o := { dst := some 64, op := Go.Op.binOp Go.BinOp.eql 33 (Go.Operand.tmp 63) (Go.Operand.const Go.Value.nilIface) 33, type := 4, pos := "law.go:34", after := #[{ on := 15, ground := Go.Ground.data }, { on := 14, ground := Go.Ground.guard }], guard := some (14, true) }) (v := .bool true) (by kernel_rfl) (fun _ _ _ h => h) (Or.inl ⟨by kernel_rfl, fun W hW => by go_simp⟩) ?_
    simp only [List.getElem_toArray, List.getElem_cons_zero, List.getElem_cons_succ, Act.put, List.setIfInBounds_toArray, List.set_cons_zero, List.set_cons_succ]
    refine seq_take (o := { dst := some 65, op := Go.Op.pick (Go.Operand.tmp 62) (Go.Operand.tmp 64) (Go.Operand.const (Go.Value.bool false)), type := 4, pos := "law.go:34", after := #[{ on := 14, ground := Go.Ground.data }, { on := 16, ground := Go.Ground.data }], guard := none }) (v := .bool true) (by kernel_rfl) (fun _ _ _ h => h) (Or.inl ⟨by kernel_rfl, fun W hW => by go_simp⟩) ?_
    simp only [List.getElem_toArray, List.getElem_cons_zero, List.getElem_cons_succ, Act.put, List.setIfInBounds_toArray, List.set_cons_zero, List.set_cons_succ]
    refine seq_take (o := { dst := some 66, op := Go.Op.move (Go.Operand.tmp 65), type := 4, pos := "law.go:34", after := #[{ on := 17, ground := Go.Ground.data }, { on := 14, ground := Go.Ground.chain }], guard := none }) (v := .bool true) (by kernel_rfl) (fun _ _ _ h => h) (Or.inl ⟨by kernel_rfl, fun W hW => by go_simp⟩) ?_
    simp only [List.getElem_toArray, List.getElem_cons_zero, List.getElem_cons_succ, Act.put, List.setIfInBounds_toArray, List.set_cons_zero, List.set_cons_succ]
    refine seq_take (o := { dst := some 67, op := Go.Op.load 28 (Go.Operand.tmp 1), type := 28, pos := "law.go:34", after := #[{ on := 18, ground := Go.Ground.guard }], guard := some (18, true) }) (v := .agg A) (by kernel_rfl) (fun _ _ _ h => h) (yl_row (by kernel_rfl) (by rfl) (by rfl) (fun W hW => hW.1) a18) ?_
    simp only [List.getElem_toArray, List.getElem_cons_zero, List.getElem_cons_succ, Act.put, List.setIfInBounds_toArray, List.set_cons_zero, List.set_cons_succ]
    refine seq_take (o := { dst := some 68, op := Go.Op.load 28 (Go.Operand.tmp 7), type := 28, pos := "law.go:34", after := #[{ on := 18, ground := Go.Ground.guard }], guard := some (18, true) }) (v := .agg D) (by kernel_rfl) (fun _ _ _ h => h) (yl_row (by kernel_rfl) (by rfl) (by rfl) (fun W hW => hW.2.1) d18) ?_
    simp only [List.getElem_toArray, List.getElem_cons_zero, List.getElem_cons_succ, Act.put, List.setIfInBounds_toArray, List.set_cons_zero, List.set_cons_succ]
    refine seq_call (o := { dst := some 69, op := Go.Op.call { callee := Go.Callee.value (Go.Operand.func 13), args := #[Go.Operand.tmp 67, Go.Operand.tmp 68], argTypes := #[28, 28] }, type := 4, pos := "law.go:34", after := #[{ on := 19, ground := Go.Ground.data }, { on := 20, ground := Go.Ground.data }, { on := 18, ground := Go.Ground.chain }, { on := 18, ground := Go.Ground.guard }], guard := some (18, true) }) (by kernel_rfl) (fun KK hK => ?_)
    rw [if_pos (by kernel_rfl)]
    go_simp
    have J12 : Hid (Irow w12 0 x.pa x.pn x.cm.ps) := X12.out.row
    have K12 : Hid (Irow w12 0 d.pa d.pn d.cm.ps) := D12.out.row
    have SM : Hid (decide (x.cm = d.cm) = true) := decide_eq_true (HZ.out.trans DC.out.symm)
    go_wp2_with (go_at_call 13; refine (same_x hA J12 HD K12).mono ?_; rintro e w13 ⟨rfl, h13⟩; rw [SM.out])
    have X13 : Hid (Bx w w13 g1 A x) := X12.out.below h13.out
    have D13 : Hid (Bx w w13 g7 D d) := D12.out.below h13.out
    have O13 : Hid (Own w13 w6.heap.size ab nb cb z.by) := O12.out.below h13.out
    have B13 : Hid (Below w.heap.size w w13) := B12.out.trans (h13.out.mono B12.out.size)
    refine hK.out _ _ (⟨X13.out.k, D13.out.k, O13.out⟩) ?_
    clear hK KK
    try simp only [List.getElem_toArray, List.getElem_cons_zero, List.getElem_cons_succ, Act.put, List.setIfInBounds_toArray, List.set_cons_zero, List.set_cons_succ]
    refine seq_take (o := { dst := some 70, op := Go.Op.pick (Go.Operand.tmp 66) (Go.Operand.tmp 69) (Go.Operand.const (Go.Value.bool false)), type := 4, pos := "law.go:34", after := #[{ on := 18, ground := Go.Ground.data }, { on := 21, ground := Go.Ground.data }], guard := none }) (v := .bool true) (by kernel_rfl) (fun _ _ _ h => h) (Or.inl ⟨by kernel_rfl, fun W hW => by go_simp⟩) ?_
    simp only [List.getElem_toArray, List.getElem_cons_zero, List.getElem_cons_succ, Act.put, List.setIfInBounds_toArray, List.set_cons_zero, List.set_cons_succ]
    refine seq_take (o := { dst := some 2, op := Go.Op.assign (Go.Operand.tmp 70), type := 4, pos := "law.go:34", after := #[{ on := 22, ground := Go.Ground.data }, { on := 21, ground := Go.Ground.chain }, { on := 0, ground := Go.Ground.phase }, { on := 1, ground := Go.Ground.phase }, { on := 2, ground := Go.Ground.phase }, { on := 3, ground := Go.Ground.phase }, { on := 4, ground := Go.Ground.phase }, { on := 5, ground := Go.Ground.phase }, { on := 6, ground := Go.Ground.phase }, { on := 7, ground := Go.Ground.phase }, { on := 8, ground := Go.Ground.phase }, { on := 9, ground := Go.Ground.phase }, { on := 10, ground := Go.Ground.phase }, { on := 11, ground := Go.Ground.phase }, { on := 12, ground := Go.Ground.phase }, { on := 13, ground := Go.Ground.phase }, { on := 14, ground := Go.Ground.phase }, { on := 15, ground := Go.Ground.phase }, { on := 16, ground := Go.Ground.phase }, { on := 17, ground := Go.Ground.phase }, { on := 18, ground := Go.Ground.phase }, { on := 19, ground := Go.Ground.phase }, { on := 20, ground := Go.Ground.phase }, { on := 21, ground := Go.Ground.phase }, { on := 22, ground := Go.Ground.phase }], guard := none }) (v := .bool true) (by kernel_rfl) (fun _ _ _ h => h) (Or.inl ⟨by kernel_rfl, fun W hW => by go_simp⟩) ?_
    simp only [List.getElem_toArray, List.getElem_cons_zero, List.getElem_cons_succ, Act.put, List.setIfInBounds_toArray, List.set_cons_zero, List.set_cons_succ]
    show (Exit.then _ _) .normal _ _
    go_wp2
    go_ret
    exact ⟨rfl, B13.out⟩
  · have HF : Hid (frm x.cm = false) := hf
    have HFy : Hid (frm y.cm = false) := by rw [HY.out]; exact hf
    clear hf
    go_upto_region 5 with first
      | (refine wpList_load_row (by rfl) 28 (.tmp 3) (by rfl) g5 (by rfl) 28 A' (0, 0) _ Y5.out.k Tryd.underlying28 rfl (info28 a18') ?_)
      | (go_at_call 11; refine (chk_no HA' I5 E5 hM0 HFy).mono ?_; rintro e w6 ⟨rfl, h6⟩)
    have X6 : Hid (Bx w w6 g1 A x) := X5.out.below h6.out
    have Y6 : Hid (Bx w w6 g5 A' y) := Y5.out.below h6.out
    have I6 : Hid (Irow w6 0 y.pa y.pn y.cm.ps) := Y6.out.row
    have B6 : Hid (Below w.heap.size w w6) := B5.out.trans (h6.out.mono B5.out.size)
    have E6 : Hid (Sent w6 M E) := hE.out.below B6.out
    clear h6 X5 Y5 I5 B5 E5
    go_upto_region 6 with first
      | (refine wpList_load_row (by rfl) 28 (.tmp 3) (by rfl) g5 (by rfl) 28 A' (0, 0) _ Y6.out.k Tryd.underlying28 rfl (info28 a18') ?_)
      | (go_at_call 12; refine (putx_no HA' I6 E6 hM0 HFy).mono ?_; rintro e w7 ⟨rfl, h7⟩)
    have X7 : Hid (Bx w w7 g1 A x) := X6.out.below h7.out
    have Y7 : Hid (Bx w w7 g5 A' y) := Y6.out.below h7.out
    have I7 : Hid (Irow w7 0 y.pa y.pn y.cm.ps) := Y7.out.row
    have J7 : Hid (Irow w7 0 x.pa x.pn x.cm.ps) := X7.out.row
    have B7 : Hid (Below w.heap.size w w7) := B6.out.trans (h7.out.mono B6.out.size)
    have SM : Hid (decide (y.cm = x.cm) = true) := decide_eq_true HY.out
    clear h7 X6 Y6 I6 B6 E6
    go_upto_region 8 with first
      | (refine wpList_load_row (by rfl) 28 (.tmp 3) (by rfl) g5 (by rfl) 28 A' (0, 0) _ Y7.out.k Tryd.underlying28 rfl (info28 a18') ?_)
      | (refine wpList_load_row (by rfl) 28 (.tmp 1) (by rfl) g1 (by rfl) 28 A (0, 0) _ X7.out.k Tryd.underlying28 rfl (info28 a18) ?_)
      | (go_at_call 13; refine (same_x HA' I7 hA J7).mono ?_; rintro e w8 ⟨rfl, h8⟩; rw [SM.out])
    have X8 : Hid (Bx w w8 g1 A x) := X7.out.below h8.out
    have J8 : Hid (Irow w8 0 x.pa x.pn x.cm.ps) := X8.out.row
    have B8 : Hid (Below w.heap.size w w8) := B7.out.trans (h8.out.mono B7.out.size)
    clear h8 X7 Y7 I7 J7 B7 SM
    go_upto_region 9 with first
      | (refine wpList_load_row (by rfl) 28 (.tmp 1) (by rfl) g1 (by rfl) 28 A (0, 0) _ X8.out.k Tryd.underlying28 rfl (info28 a18) ?_)
      | (go_at_call 14; refine (inf_x hA J8 hs).mono ?_; rintro e w9 ⟨rfl, h9⟩; rw [HF.out])
    have B9 : Hid (Below w.heap.size w w9) := B8.out.trans (h9.out.mono B8.out.size)
    have E9 : Hid (Sent w9 M E) := hE.out.below B9.out
    have ce := E9.out.c 0 hM0
    have eq := eql_same w9 (E 0)
    go_wp2
    go_ret
    exact ⟨rfl, B9.out⟩
end Go.Proofs.YtoegfckafnlknaaDoor
