import Derived.Test.YtoegfckafnlknaaDoorMHd
import Derived.Test.YtoegfckafnlknaaDoorMGd
/- He -/
/- CommandGets: the walk. -/
namespace Go.Proofs.YtoegfckafnlknaaDoor
open Go.ChangeShapes Go.WideShapes Go.ChangeAt Go.RowKit
set_option maxRecDepth 20000
set_option linter.unusedVariables false
set_option linter.unusedSimpArgs false
noncomputable def opr4 : Array Oper := match Tryd.f4.body with
  | some c => match regIn 6 c with
    | some o => o
    | none => #[]
  | none => #[]
def zx : Cx := ⟨⟨0, 0, 0, 0, ⟨#[]⟩, ⟨#[]⟩, 0, 0, 0, 0, 0, 0, 0, ⟨#[]⟩, 0, [], 0, 0⟩, none, 0, 0⟩
theorem zx_row (w : World) : Irow w 0 zx.pa zx.pn zx.cm.ps := ⟨rfl, by decide, .inl rfl⟩
theorem getDx_no {w : World} {a : Option Addr} {n c : Nat} {l : List Nat} (hS : Hid (Sln w a n l)) (hc : Hid (a = none → c = 0)) (hnc : Hid (n ≤ c)) (hr : Hid (rdG l = none)) :
    Calls Tryd.prog 18 #[.slice a n c] w fun e w' => ∃ A, e = .returned (.tuple #[.agg A, .bool false]) ∧ Hid (A = (encX zx).toArray ∧ Below w.heap.size w w') := by
  refine (getD_n hS hc hnc).mono ?_
  rintro e w' (⟨_, h1, h2⟩ | ⟨x, pa, pn, pc, h, _⟩)
  · exact ⟨_, h1, rfl, h2⟩
  · rw [refG_eq hS.out.lt, hr.out] at h; cases h
theorem getDx_yes {w : World} {a : Option Addr} {n c : Nat} {l : List Nat} {y : Nm} (hS : Hid (Sln w a n l)) (hc : Hid (a = none → c = 0)) (hnc : Hid (n ≤ c)) (hr : Hid (rdG l = some y)) :
    Calls Tryd.prog 18 #[.slice a n c] w fun e w' => ∃ A, e = .returned (.tuple #[.agg A, .bool true]) ∧ Hid (∃ x : Cx, A = (encX x).toArray ∧ x.cm = y.cm ∧ Irow w' w.heap.size x.pa x.pn x.cm.ps ∧ Below w.heap.size w w') := by
  refine (getD_n hS hc hnc).mono ?_
  rintro e w' (⟨h, _⟩ | ⟨x, pa, pn, pc, h, h1, h2, h3⟩)
  · rw [refG_eq hS.out.lt, hr.out] at h; cases h
  · rw [refG_eq hS.out.lt, hr.out] at h
    cases h
    exact ⟨_, h1, ⟨y.cm, pa, pn, pc⟩, rfl, rfl, h3, h2⟩
theorem blk_front {w : World} {g n : Nat} {l : List Nat} (hB : Blk w g (l ++ marks)) (hl : ∀ x ∈ l, x < 256) (hn : n = l.length) (hb : n ≤ 140737488351232) : Sln w (some ⟨g, 0, none⟩) n l := by
  have hm : ∀ x ∈ l ++ marks, x < 256 := fun x hx => by
    rcases List.mem_append.1 hx with h | h
    · exact hl x h
    · have e : ∀ x ∈ marks, x < 256 := by decide
      exact e x h
  have h6 : marks.length = 6 := rfl
  have h := (Blk.sln hB hm (by rw [List.length_append, h6]; omega)).take (k := n) (by rw [List.length_append]; omega)
  rwa [hn, List.take_left, ← hn] at h
set_option maxHeartbeats 2000000 in
theorem gets_no {w : World} {M : Nat → Prop} {E : Nat → Addr} {a : Option Addr} {n c : Nat} {l : List Nat} (hE : Hid (Sent w M E)) (hM1 : M 1) (hS : Hid (Sln w a n l)) (hz : Hid (a = none → c = 0)) (hnc : Hid (n ≤ c)) (hb : Hid (n ≤ 140737488351232)) (hr : Hid (rdG l = none)) :
    Calls Tryd.prog 4 #[.slice a n c] w fun e w' => e = .returned (.bool true) ∧ Hid (Below w.heap.size w w') := by
  go_enter Tryd.func4, Tryd.ntmps4
  go_upto_region 3 with (go_at_call 9; refine (alive_n _).mono ?_; rintro e w2 ⟨rfl, h2⟩)
  have S2 : Hid (Sln w2 a n l) := hS.out.below h2.out
  go_upto_region 4 with (go_at_call 17; refine (bytes_n S2 hz).mono ?_; rintro e w3 ⟨gi, ni, rfl, h3⟩)
  have K3 : Hid (Blk w3 gi (l ++ marks)) := h3.out.2.2.1
  have NI : Hid (ni = n + 6) := h3.out.1
  have B3 : Hid (Below w.heap.size w w3) := h2.out.trans (h3.out.2.2.2.mono h2.out.size)
  have I3 : Hid (Sln w3 (some ⟨gi, 0, none⟩) n l) := blk_front K3.out hS.out.lt hS.out.len hb.out
  have N3 : Hid (some (⟨gi, 0, none⟩ : Addr) = none → ni = 0) := fun h => by cases h
  have E3 : Hid (Sent w3 M E) := hE.out.below B3.out
  have G3 : Hid (gi < w3.heap.size) := K3.out.lt
  clear h3 S2 h2
  go_upto_region 5 with first
    | (go_at_call 15; refine (getx_no I3 N3 E3 hM1 hr).mono ?_; rintro e w4 ⟨A, rfl, h4⟩
       have a18 : A.size = 18 := encX_sz h4.out.1
       have AA : Hid (A.all (·.oneCell') = true) := encX_all h4.out.1)
    | (refine wpList_store_row (by rfl) 28 (.tmp 4) (.tmp 17) (by rfl) w4.heap.size A (by rfl) (by rfl) 28 _ (heap_alloc_new w4 _) (info28 a18) a18.symm AA.out ?_)
  have HA : Hid (A = (encX zx).toArray) := h4.out.1
  obtain ⟨g4, Hg4⟩ : ∃ g, Hid (w4.heap.size = g) := ⟨_, rfl⟩
  obtain ⟨w5, Hw5⟩ : ∃ W, Hid ((w4.alloc (.cells #[.int .i64 0, .int .i64 0, .int .i64 0, .int .i64 0, .string ⟨#[]⟩, .string ⟨#[]⟩, .int .i64 0, .int .i64 0, .int .i64 0, .int .i64 0, .int .i64 0, .int .i64 0, .int .i64 0, .string ⟨#[]⟩, .int .i64 0, .slice none 0 0, .int .i64 0, .int .i64 0] 28)).setRow w4.heap.size A = W) := ⟨_, rfl⟩
  rw [Hw5.out, Hg4.out]
  have b5 : Hid (Below w4.heap.size w4 w5) := by rw [← Hw5.out]; exact below_setRow (alloc1 w4 _) (Nat.le_refl _) A
  have k45 : Hid (w5.heap[g4]? = some (.cells A 28 (0, 0))) := by rw [← Hw5.out, ← Hg4.out]; exact setRow_heap _ _ _ _ _ _ (heap_alloc_new w4 _)
  have B34 : Hid (Below w3.heap.size w3 w4) := h4.out.2
  have B5 : Hid (Below w.heap.size w w5) := (B3.out.trans (B34.out.mono B3.out.size)).trans (b5.out.mono (Nat.le_trans B3.out.size B34.out.size))
  have K5 : Hid (Blk w5 gi (l ++ marks)) := (K3.out.below B34.out K3.out.lt).below b5.out (Nat.lt_of_lt_of_le K3.out.lt B34.out.size)
  have S5 : Hid (Sln w5 a n l) := hS.out.below B5.out
  try simp only [Act.put]
  clear Hw5 Hg4
  go_upto_region 6 with first
    | (go_at_call 18; refine (getDx_no S5 hz hnc hr).mono ?_; rintro e w6 ⟨D, rfl, h6⟩
       have HD : Hid (D = (encX zx).toArray) := h6.out.1
       have d18 : D.size = 18 := encX_sz h6.out.1
       have DD : Hid (D.all (·.oneCell') = true) := encX_all h6.out.1)
    | (refine wpList_store_row (by rfl) 28 (.tmp 6) (.tmp 22) (by rfl) w6.heap.size D (by rfl) (by rfl) 28 _ (heap_alloc_new w6 _) (info28 d18) d18.symm DD.out ?_)
  obtain ⟨g6, Hg6⟩ : ∃ g, Hid (w6.heap.size = g) := ⟨_, rfl⟩
  obtain ⟨w7, Hw7⟩ : ∃ W, Hid ((w6.alloc (.cells #[.int .i64 0, .int .i64 0, .int .i64 0, .int .i64 0, .string ⟨#[]⟩, .string ⟨#[]⟩, .int .i64 0, .int .i64 0, .int .i64 0, .int .i64 0, .int .i64 0, .int .i64 0, .int .i64 0, .string ⟨#[]⟩, .int .i64 0, .slice none 0 0, .int .i64 0, .int .i64 0] 28)).setRow w6.heap.size D = W) := ⟨_, rfl⟩
  rw [Hw7.out, Hg6.out]
  have b7 : Hid (Below w6.heap.size w6 w7) := by rw [← Hw7.out]; exact below_setRow (alloc1 w6 _) (Nat.le_refl _) D
  have k6 : Hid (w7.heap[g6]? = some (.cells D 28 (0, 0))) := by rw [← Hw7.out, ← Hg6.out]; exact setRow_heap _ _ _ _ _ _ (heap_alloc_new w6 _)
  have B56 : Hid (Below w5.heap.size w5 w6) := h6.out.2
  have k4 : Hid (w7.heap[g4]? = some (.cells A 28 (0, 0))) := (b7.out.block g4 (Nat.lt_of_lt_of_le (Array.getElem?_eq_some_iff.1 k45.out).1 B56.out.size)).trans ((B56.out.block g4 (Array.getElem?_eq_some_iff.1 k45.out).1).trans k45.out)
  have B57 : Hid (Below w5.heap.size w5 w7) := B56.out.trans (b7.out.mono B56.out.size)
  have B7 : Hid (Below w.heap.size w w7) := B5.out.trans (B57.out.mono B5.out.size)
  have K7 : Hid (Blk w7 gi (l ++ marks)) := K5.out.below B57.out K5.out.lt
  have S7 : Hid (Sln w7 a n l) := hS.out.below B7.out
  try simp only [Act.put]
  clear Hw7 Hg6
  have SM : Hid (decide (zx.cm = zx.cm) = true) := decide_eq_true rfl
  go_upto_region 6 with (fail)
  refine wp_region_flat (ops := opr4) (C := fun W => W.heap[g4]? = some (.cells A 28 (0, 0)) ∧ W.heap[g6]? = some (.cells D 28 (0, 0))) [(0, false), (1, false), (2, true), (3, false), (4, false), (5, false), (6, false), (7, true), (8, false), (9, false)] (by kernel_rfl) ⟨k4.out, k6.out⟩ ?_
  refine seq_take (o := { dst := some 24, op := Go.Op.move (Go.Operand.tmp 3), type := 35, pos := "law.go:45", after := #[], guard := none }) (v := .slice (some ⟨gi, 0, none⟩) n ni) (by kernel_rfl) (fun _ _ _ h => h) (Or.inl ⟨by kernel_rfl, fun W hW => by go_simp⟩) ?_
  simp only [List.getElem_toArray, List.getElem_cons_zero, List.getElem_cons_succ, Act.put, List.setIfInBounds_toArray, List.set_cons_zero, List.set_cons_succ]
  refine seq_take (o := { dst := some 25, op := Go.Op.move (Go.Operand.tmp 0), type := 35, pos := "law.go:45", after := #[], guard := none }) (v := .slice a n c) (by kernel_rfl) (fun _ _ _ h => h) (Or.inl ⟨by kernel_rfl, fun W hW => by go_simp⟩) ?_
  simp only [List.getElem_toArray, List.getElem_cons_zero, List.getElem_cons_succ, Act.put, List.setIfInBounds_toArray, List.set_cons_zero, List.set_cons_succ]
  refine seq_call (o := { dst := some 26, op := Go.Op.call { callee := Go.Callee.value (Go.Operand.func 19), args := #[Go.Operand.tmp 24, Go.Operand.tmp 25], argTypes := #[35, 35] }, type := 4, pos := "law.go:45", after := #[{ on := 0, ground := Go.Ground.data }, { on := 1, ground := Go.Ground.data }], guard := none }) (by kernel_rfl) (fun KK hK => ?_)
  rw [if_pos (by kernel_rfl)]
  go_simp
  go_wp2_with (go_at_call 19; refine (kept_n K7 NI S7).mono ?_; rintro e w8 ⟨rfl, h8⟩)
  have B78 : Hid (Below w7.heap.size w7 w8) := by obtain ⟨j, hj⟩ := h8.out; rw [hj]; exact below_drewN (Below.refl _ _) j
  have k48 : Hid (w8.heap[g4]? = some (.cells A 28 (0, 0))) := (B78.out.block g4 (Array.getElem?_eq_some_iff.1 k4.out).1).trans k4.out
  have k68 : Hid (w8.heap[g6]? = some (.cells D 28 (0, 0))) := (B78.out.block g6 (Array.getElem?_eq_some_iff.1 k6.out).1).trans k6.out
  refine hK.out _ _ (⟨k48.out, k68.out⟩) ?_
  clear hK KK
  try simp only [List.getElem_toArray, List.getElem_cons_zero, List.getElem_cons_succ, Act.put, List.setIfInBounds_toArray, List.set_cons_zero, List.set_cons_succ]
  refine seq_take (o := { dst := some 27, op := Go.Op.unOp Go.UnOp.not 4 (Go.Operand.tmp 26), type := 4, pos := "law.go:45", after := #[{ on := 2, ground := Go.Ground.data }], guard := none }) (v := .bool false) (by kernel_rfl) (fun _ _ _ h => h) (Or.inl ⟨by kernel_rfl, fun W hW => by go_simp⟩) ?_
  simp only [List.getElem_toArray, List.getElem_cons_zero, List.getElem_cons_succ, Act.put, List.setIfInBounds_toArray, List.set_cons_zero, List.set_cons_succ]
  refine seq_take (o := { dst := some 28, op := Go.Op.move (Go.Operand.tmp 27), type := 4, pos := "law.go:45", after := #[{ on := 3, ground := Go.Ground.data }, { on := 2, ground := Go.Ground.chain }], guard := none }) (v := .bool false) (by kernel_rfl) (fun _ _ _ h => h) (Or.inl ⟨by kernel_rfl, fun W hW => by go_simp⟩) ?_
  simp only [List.getElem_toArray, List.getElem_cons_zero, List.getElem_cons_succ, Act.put, List.setIfInBounds_toArray, List.set_cons_zero, List.set_cons_succ]
  refine seq_take (o := { dst := some 29, op := Go.Op.load 28 (Go.Operand.tmp 4), type := 28, pos := "law.go:45", after := #[{ on := 4, ground := Go.Ground.guard }], guard := some (4, false) }) (v := .agg A) (by kernel_rfl) (fun _ _ _ h => h) (yl_row (by kernel_rfl) (by rfl) (by rfl) (fun W hW => hW.1) a18) ?_
  simp only [List.getElem_toArray, List.getElem_cons_zero, List.getElem_cons_succ, Act.put, List.setIfInBounds_toArray, List.set_cons_zero, List.set_cons_succ]
  refine seq_take (o := { dst := some 30, op := Go.Op.load 28 (Go.Operand.tmp 6), type := 28, pos := "law.go:45", after := #[{ on := 4, ground := Go.Ground.guard }], guard := some (4, false) }) (v := .agg D) (by kernel_rfl) (fun _ _ _ h => h) (yl_row (by kernel_rfl) (by rfl) (by rfl) (fun W hW => hW.2) d18) ?_
  simp only [List.getElem_toArray, List.getElem_cons_zero, List.getElem_cons_succ, Act.put, List.setIfInBounds_toArray, List.set_cons_zero, List.set_cons_succ]
  refine seq_call (o := { dst := some 31, op := Go.Op.call { callee := Go.Callee.value (Go.Operand.func 13), args := #[Go.Operand.tmp 29, Go.Operand.tmp 30], argTypes := #[28, 28] }, type := 4, pos := "law.go:45", after := #[{ on := 5, ground := Go.Ground.data }, { on := 6, ground := Go.Ground.data }, { on := 4, ground := Go.Ground.chain }, { on := 4, ground := Go.Ground.guard }], guard := some (4, false) }) (by kernel_rfl) (fun KK hK => ?_)
  rw [if_pos (by kernel_rfl)]
  go_simp
  have JA : Hid (Irow w8 0 zx.pa zx.pn zx.cm.ps) := zx_row _
  have JB : Hid (Irow w8 0 zx.pa zx.pn zx.cm.ps) := zx_row _
  go_wp2_with (go_at_call 13; refine (same_x HA JA HD JB).mono ?_; rintro e w9 ⟨rfl, h9⟩; try rw [SM.out])
  have k49 : Hid (w9.heap[g4]? = some (.cells A 28 (0, 0))) := (h9.out.block g4 (Array.getElem?_eq_some_iff.1 k48.out).1).trans k48.out
  have k69 : Hid (w9.heap[g6]? = some (.cells D 28 (0, 0))) := (h9.out.block g6 (Array.getElem?_eq_some_iff.1 k68.out).1).trans k68.out
  refine hK.out _ _ (⟨k49.out, k69.out⟩) ?_
  clear hK KK
  try simp only [List.getElem_toArray, List.getElem_cons_zero, List.getElem_cons_succ, Act.put, List.setIfInBounds_toArray, List.set_cons_zero, List.set_cons_succ]
  refine seq_take (o := { dst := some 32, op := Go.Op.unOp Go.UnOp.not 4 (Go.Operand.tmp 31), type := 4, pos := "law.go:45", after := #[{ on := 7, ground := Go.Ground.data }, { on := 4, ground := Go.Ground.guard }], guard := some (4, false) }) (v := .bool false) (by kernel_rfl) (fun _ _ _ h => h) (Or.inl ⟨by kernel_rfl, fun W hW => by go_simp⟩) ?_
  simp only [List.getElem_toArray, List.getElem_cons_zero, List.getElem_cons_succ, Act.put, List.setIfInBounds_toArray, List.set_cons_zero, List.set_cons_succ]
  refine seq_take (o := { dst := some 33, op := Go.Op.pick (Go.Operand.tmp 28) (Go.Operand.const (Go.Value.bool true)) (Go.Operand.tmp 32), type := 4, pos := "law.go:45", after := #[{ on := 4, ground := Go.Ground.data }, { on := 8, ground := Go.Ground.data }], guard := none }) (v := .bool false) (by kernel_rfl) (fun _ _ _ h => h) (Or.inl ⟨by kernel_rfl, fun W hW => by go_simp⟩) ?_
  simp only [List.getElem_toArray, List.getElem_cons_zero, List.getElem_cons_succ, Act.put, List.setIfInBounds_toArray, List.set_cons_zero, List.set_cons_succ]
  show (Exit.then _ _) .normal _ _
  have B79 : Hid (Below w7.heap.size w7 w9) := B78.out.trans (h9.out.mono B78.out.size)
  have B9 : Hid (Below w.heap.size w w9) := B7.out.trans (B79.out.mono B7.out.size)
  have E9 : Hid (Sent w9 M E) := hE.out.below B9.out
  have ce := E9.out.c 1 hM1
  have eq := eql_same w9 (E 1)
  go_wp2
  go_ret
  exact ⟨rfl, B9.out⟩
set_option maxHeartbeats 2000000 in
theorem gets_yes {w : World} {M : Nat → Prop} {E : Nat → Addr} {a : Option Addr} {n c : Nat} {l : List Nat} {y : Nm} (hE : Hid (Sent w M E)) (hM1 : M 1) (hS : Hid (Sln w a n l)) (hz : Hid (a = none → c = 0)) (hnc : Hid (n ≤ c)) (hb : Hid (n ≤ 140737488351232)) (hr : Hid (rdG l = some y)) :
    Calls Tryd.prog 4 #[.slice a n c] w fun e w' => e = .returned (.bool true) ∧ Hid (Below w.heap.size w w') := by
  go_enter Tryd.func4, Tryd.ntmps4
  go_upto_region 3 with (go_at_call 9; refine (alive_n _).mono ?_; rintro e w2 ⟨rfl, h2⟩)
  have S2 : Hid (Sln w2 a n l) := hS.out.below h2.out
  go_upto_region 4 with (go_at_call 17; refine (bytes_n S2 hz).mono ?_; rintro e w3 ⟨gi, ni, rfl, h3⟩)
  have K3 : Hid (Blk w3 gi (l ++ marks)) := h3.out.2.2.1
  have NI : Hid (ni = n + 6) := h3.out.1
  have B3 : Hid (Below w.heap.size w w3) := h2.out.trans (h3.out.2.2.2.mono h2.out.size)
  have I3 : Hid (Sln w3 (some ⟨gi, 0, none⟩) n l) := blk_front K3.out hS.out.lt hS.out.len hb.out
  have N3 : Hid (some (⟨gi, 0, none⟩ : Addr) = none → ni = 0) := fun h => by cases h
  have E3 : Hid (Sent w3 M E) := hE.out.below B3.out
  have G3 : Hid (gi < w3.heap.size) := K3.out.lt
  clear h3 S2 h2
  have RB : Hid (y.by = l ∧ frm y.cm = true ∧ Nb y) := rdG_back hS.out.lt hr.out
  have HF : Hid (frm y.cm = true) := RB.out.2.1
  have NBY : Hid (Nb y) := RB.out.2.2
  go_upto_region 5 with first
    | (go_at_call 15; refine (getx_yes I3 N3 E3 hM1 hr).mono ?_; rintro e w4 ⟨A, rfl, h4⟩
       obtain ⟨x, hx1, hx2, hx3, hx4, hx5⟩ := h4.out
       have HA : Hid (A = (encX x).toArray) := hx1
       have HX : Hid (x.cm = y.cm) := hx2
       have RX : Hid (Irow w4 0 x.pa x.pn x.cm.ps) := (irow_own hx3 (by omega)).mono (Nat.zero_le _)
       have BX : Hid (Below w3.heap.size w3 w4) := hx5
       have a18 : A.size = 18 := encX_sz hx1
       have AA : Hid (A.all (·.oneCell') = true) := encX_all hx1
       clear hx1 hx2 hx3 hx4 hx5 h4)
    | (refine wpList_store_row (by rfl) 28 (.tmp 4) (.tmp 17) (by rfl) w4.heap.size A (by rfl) (by rfl) 28 _ (heap_alloc_new w4 _) (info28 a18) a18.symm AA.out ?_)
  obtain ⟨g4, Hg4⟩ : ∃ g, Hid (w4.heap.size = g) := ⟨_, rfl⟩
  obtain ⟨w5, Hw5⟩ : ∃ W, Hid ((w4.alloc (.cells #[.int .i64 0, .int .i64 0, .int .i64 0, .int .i64 0, .string ⟨#[]⟩, .string ⟨#[]⟩, .int .i64 0, .int .i64 0, .int .i64 0, .int .i64 0, .int .i64 0, .int .i64 0, .int .i64 0, .string ⟨#[]⟩, .int .i64 0, .slice none 0 0, .int .i64 0, .int .i64 0] 28)).setRow w4.heap.size A = W) := ⟨_, rfl⟩
  rw [Hw5.out, Hg4.out]
  have b5 : Hid (Below w4.heap.size w4 w5) := by rw [← Hw5.out]; exact below_setRow (alloc1 w4 _) (Nat.le_refl _) A
  have k45 : Hid (w5.heap[g4]? = some (.cells A 28 (0, 0))) := by rw [← Hw5.out, ← Hg4.out]; exact setRow_heap _ _ _ _ _ _ (heap_alloc_new w4 _)
  have B34 : Hid (Below w3.heap.size w3 w4) := BX.out
  have B5 : Hid (Below w.heap.size w w5) := (B3.out.trans (B34.out.mono B3.out.size)).trans (b5.out.mono (Nat.le_trans B3.out.size B34.out.size))
  have K5 : Hid (Blk w5 gi (l ++ marks)) := (K3.out.below B34.out K3.out.lt).below b5.out (Nat.lt_of_lt_of_le K3.out.lt B34.out.size)
  have S5 : Hid (Sln w5 a n l) := hS.out.below B5.out
  try simp only [Act.put]
  clear Hw5 Hg4
  go_upto_region 6 with first
    | (go_at_call 18; refine (getDx_yes S5 hz hnc hr).mono ?_; rintro e w6 ⟨D, rfl, h6⟩
       obtain ⟨z, hz1, hz2, hz3, hz4⟩ := h6.out
       have HD : Hid (D = (encX z).toArray) := hz1
       have HZC : Hid (z.cm = y.cm) := hz2
       have RZ : Hid (Irow w6 0 z.pa z.pn z.cm.ps) := hz3.mono (Nat.zero_le _)
       have BZ : Hid (Below w5.heap.size w5 w6) := hz4
       have d18 : D.size = 18 := encX_sz hz1
       have DD : Hid (D.all (·.oneCell') = true) := encX_all hz1
       clear hz1 hz2 hz3 hz4 h6)
    | (refine wpList_store_row (by rfl) 28 (.tmp 6) (.tmp 22) (by rfl) w6.heap.size D (by rfl) (by rfl) 28 _ (heap_alloc_new w6 _) (info28 d18) d18.symm DD.out ?_)
  obtain ⟨g6, Hg6⟩ : ∃ g, Hid (w6.heap.size = g) := ⟨_, rfl⟩
  obtain ⟨w7, Hw7⟩ : ∃ W, Hid ((w6.alloc (.cells #[.int .i64 0, .int .i64 0, .int .i64 0, .int .i64 0, .string ⟨#[]⟩, .string ⟨#[]⟩, .int .i64 0, .int .i64 0, .int .i64 0, .int .i64 0, .int .i64 0, .int .i64 0, .int .i64 0, .string ⟨#[]⟩, .int .i64 0, .slice none 0 0, .int .i64 0, .int .i64 0] 28)).setRow w6.heap.size D = W) := ⟨_, rfl⟩
  rw [Hw7.out, Hg6.out]
  have b7 : Hid (Below w6.heap.size w6 w7) := by rw [← Hw7.out]; exact below_setRow (alloc1 w6 _) (Nat.le_refl _) D
  have k6 : Hid (w7.heap[g6]? = some (.cells D 28 (0, 0))) := by rw [← Hw7.out, ← Hg6.out]; exact setRow_heap _ _ _ _ _ _ (heap_alloc_new w6 _)
  have B56 : Hid (Below w5.heap.size w5 w6) := BZ.out
  have k4 : Hid (w7.heap[g4]? = some (.cells A 28 (0, 0))) := (b7.out.block g4 (Nat.lt_of_lt_of_le (Array.getElem?_eq_some_iff.1 k45.out).1 B56.out.size)).trans ((B56.out.block g4 (Array.getElem?_eq_some_iff.1 k45.out).1).trans k45.out)
  have B57 : Hid (Below w5.heap.size w5 w7) := B56.out.trans (b7.out.mono B56.out.size)
  have B7 : Hid (Below w.heap.size w w7) := B5.out.trans (B57.out.mono B5.out.size)
  have K7 : Hid (Blk w7 gi (l ++ marks)) := K5.out.below B57.out K5.out.lt
  have S7 : Hid (Sln w7 a n l) := hS.out.below B7.out
  try simp only [Act.put]
  clear Hw7 Hg6
  have SM : Hid (decide (x.cm = z.cm) = true) := decide_eq_true (HX.out.trans HZC.out.symm)
  have X7 : Hid (Irow w7 0 x.pa x.pn x.cm.ps) := (RX.out.below b5.out).below B57.out
  have Z7 : Hid (Irow w7 0 z.pa z.pn z.cm.ps) := RZ.out.below b7.out
  go_upto_region 6 with (fail)
  refine wp_region_flat (ops := opr4) (C := fun W => W.heap[g4]? = some (.cells A 28 (0, 0)) ∧ W.heap[g6]? = some (.cells D 28 (0, 0))) [(0, false), (1, false), (2, true), (3, false), (4, false), (5, false), (6, false), (7, true), (8, false), (9, false)] (by kernel_rfl) ⟨k4.out, k6.out⟩ ?_
  refine seq_take (o := { dst := some 24, op := Go.Op.move (Go.Operand.tmp 3), type := 35, pos := "law.go:45", after := #[], guard := none }) (v := .slice (some ⟨gi, 0, none⟩) n ni) (by kernel_rfl) (fun _ _ _ h => h) (Or.inl ⟨by kernel_rfl, fun W hW => by go_simp⟩) ?_
  simp only [List.getElem_toArray, List.getElem_cons_zero, List.getElem_cons_succ, Act.put, List.setIfInBounds_toArray, List.set_cons_zero, List.set_cons_succ]
  refine seq_take (o := { dst := some 25, op := Go.Op.move (Go.Operand.tmp 0), type := 35, pos := "law.go:45", after := #[], guard := none }) (v := .slice a n c) (by kernel_rfl) (fun _ _ _ h => h) (Or.inl ⟨by kernel_rfl, fun W hW => by go_simp⟩) ?_
  simp only [List.getElem_toArray, List.getElem_cons_zero, List.getElem_cons_succ, Act.put, List.setIfInBounds_toArray, List.set_cons_zero, List.set_cons_succ]
  refine seq_call (o := { dst := some 26, op := Go.Op.call { callee := Go.Callee.value (Go.Operand.func 19), args := #[Go.Operand.tmp 24, Go.Operand.tmp 25], argTypes := #[35, 35] }, type := 4, pos := "law.go:45", after := #[{ on := 0, ground := Go.Ground.data }, { on := 1, ground := Go.Ground.data }], guard := none }) (by kernel_rfl) (fun KK hK => ?_)
  rw [if_pos (by kernel_rfl)]
  go_simp
  go_wp2_with (go_at_call 19; refine (kept_n K7 NI S7).mono ?_; rintro e w8 ⟨rfl, h8⟩)
  have B78 : Hid (Below w7.heap.size w7 w8) := by obtain ⟨j, hj⟩ := h8.out; rw [hj]; exact below_drewN (Below.refl _ _) j
  have k48 : Hid (w8.heap[g4]? = some (.cells A 28 (0, 0))) := (B78.out.block g4 (Array.getElem?_eq_some_iff.1 k4.out).1).trans k4.out
  have k68 : Hid (w8.heap[g6]? = some (.cells D 28 (0, 0))) := (B78.out.block g6 (Array.getElem?_eq_some_iff.1 k6.out).1).trans k6.out
  refine hK.out _ _ (⟨k48.out, k68.out⟩) ?_
  clear hK KK
  try simp only [List.getElem_toArray, List.getElem_cons_zero, List.getElem_cons_succ, Act.put, List.setIfInBounds_toArray, List.set_cons_zero, List.set_cons_succ]
  refine seq_take (o := { dst := some 27, op := Go.Op.unOp Go.UnOp.not 4 (Go.Operand.tmp 26), type := 4, pos := "law.go:45", after := #[{ on := 2, ground := Go.Ground.data }], guard := none }) (v := .bool false) (by kernel_rfl) (fun _ _ _ h => h) (Or.inl ⟨by kernel_rfl, fun W hW => by go_simp⟩) ?_
  simp only [List.getElem_toArray, List.getElem_cons_zero, List.getElem_cons_succ, Act.put, List.setIfInBounds_toArray, List.set_cons_zero, List.set_cons_succ]
  refine seq_take (o := { dst := some 28, op := Go.Op.move (Go.Operand.tmp 27), type := 4, pos := "law.go:45", after := #[{ on := 3, ground := Go.Ground.data }, { on := 2, ground := Go.Ground.chain }], guard := none }) (v := .bool false) (by kernel_rfl) (fun _ _ _ h => h) (Or.inl ⟨by kernel_rfl, fun W hW => by go_simp⟩) ?_
  simp only [List.getElem_toArray, List.getElem_cons_zero, List.getElem_cons_succ, Act.put, List.setIfInBounds_toArray, List.set_cons_zero, List.set_cons_succ]
  refine seq_take (o := { dst := some 29, op := Go.Op.load 28 (Go.Operand.tmp 4), type := 28, pos := "law.go:45", after := #[{ on := 4, ground := Go.Ground.guard }], guard := some (4, false) }) (v := .agg A) (by kernel_rfl) (fun _ _ _ h => h) (yl_row (by kernel_rfl) (by rfl) (by rfl) (fun W hW => hW.1) a18) ?_
  simp only [List.getElem_toArray, List.getElem_cons_zero, List.getElem_cons_succ, Act.put, List.setIfInBounds_toArray, List.set_cons_zero, List.set_cons_succ]
  refine seq_take (o := { dst := some 30, op := Go.Op.load 28 (Go.Operand.tmp 6), type := 28, pos := "law.go:45", after := #[{ on := 4, ground := Go.Ground.guard }], guard := some (4, false) }) (v := .agg D) (by kernel_rfl) (fun _ _ _ h => h) (yl_row (by kernel_rfl) (by rfl) (by rfl) (fun W hW => hW.2) d18) ?_
  simp only [List.getElem_toArray, List.getElem_cons_zero, List.getElem_cons_succ, Act.put, List.setIfInBounds_toArray, List.set_cons_zero, List.set_cons_succ]
  refine seq_call (o := { dst := some 31, op := Go.Op.call { callee := Go.Callee.value (Go.Operand.func 13), args := #[Go.Operand.tmp 29, Go.Operand.tmp 30], argTypes := #[28, 28] }, type := 4, pos := "law.go:45", after := #[{ on := 5, ground := Go.Ground.data }, { on := 6, ground := Go.Ground.data }, { on := 4, ground := Go.Ground.chain }, { on := 4, ground := Go.Ground.guard }], guard := some (4, false) }) (by kernel_rfl) (fun KK hK => ?_)
  rw [if_pos (by kernel_rfl)]
  go_simp
  have JA : Hid (Irow w8 0 x.pa x.pn x.cm.ps) := X7.out.below B78.out
  have JB : Hid (Irow w8 0 z.pa z.pn z.cm.ps) := Z7.out.below B78.out
  go_wp2_with (go_at_call 13; refine (same_x HA JA HD JB).mono ?_; rintro e w9 ⟨rfl, h9⟩; try rw [SM.out])
  have k49 : Hid (w9.heap[g4]? = some (.cells A 28 (0, 0))) := (h9.out.block g4 (Array.getElem?_eq_some_iff.1 k48.out).1).trans k48.out
  have k69 : Hid (w9.heap[g6]? = some (.cells D 28 (0, 0))) := (h9.out.block g6 (Array.getElem?_eq_some_iff.1 k68.out).1).trans k68.out
  refine hK.out _ _ (⟨k49.out, k69.out⟩) ?_
  clear hK KK
  try simp only [List.getElem_toArray, List.getElem_cons_zero, List.getElem_cons_succ, Act.put, List.setIfInBounds_toArray, List.set_cons_zero, List.set_cons_succ]
  refine seq_take (o := { dst := some 32, op := Go.Op.unOp Go.UnOp.not 4 (Go.Operand.tmp 31), type := 4, pos := "law.go:45", after := #[{ on := 7, ground := Go.Ground.data }, { on := 4, ground := Go.Ground.guard }], guard := some (4, false) }) (v := .bool false) (by kernel_rfl) (fun _ _ _ h => h) (Or.inl ⟨by kernel_rfl, fun W hW => by go_simp⟩) ?_
  simp only [List.getElem_toArray, List.getElem_cons_zero, List.getElem_cons_succ, Act.put, List.setIfInBounds_toArray, List.set_cons_zero, List.set_cons_succ]
  refine seq_take (o := { dst := some 33, op := Go.Op.pick (Go.Operand.tmp 28) (Go.Operand.const (Go.Value.bool true)) (Go.Operand.tmp 32), type := 4, pos := "law.go:45", after := #[{ on := 4, ground := Go.Ground.data }, { on := 8, ground := Go.Ground.data }], guard := none }) (v := .bool false) (by kernel_rfl) (fun _ _ _ h => h) (Or.inl ⟨by kernel_rfl, fun W hW => by go_simp⟩) ?_
  simp only [List.getElem_toArray, List.getElem_cons_zero, List.getElem_cons_succ, Act.put, List.setIfInBounds_toArray, List.set_cons_zero, List.set_cons_succ]
  show (Exit.then _ _) .normal _ _
  have B79 : Hid (Below w7.heap.size w7 w9) := B78.out.trans (h9.out.mono B78.out.size)
  have B9 : Hid (Below w.heap.size w w9) := B7.out.trans (B79.out.mono B7.out.size)
  have X9 : Hid (Irow w9 0 x.pa x.pn x.cm.ps) := X7.out.below B79.out
  clear h8 h9
  go_upto_region 11 with first
    | (refine wpList_load_row (by rfl) 28 (.tmp 4) (by rfl) g4 (by rfl) 28 A (0, 0) _ k49.out Tryd.underlying28 rfl (info28 a18) ?_)
    | (go_at_call 12; refine (putx_yes HA X9 HX NBY HF).mono ?_; rintro e w10 ⟨ab, nb, cb, rfl, h10⟩)
  have B10 : Hid (Below w.heap.size w w10) := B9.out.trans (h10.out.2.1.mono B9.out.size)
  have cv1 : (convert 35 9 (.slice ab nb cb)).run Tryd.prog w10 = .ok (.string (spell l)) w10 := by
    have h := conv_n (w := w10) (k := cb) (show Hid (Sln w10 ab nb y.by) from h10.out.1.sln (by have := h10.out.2.2; omega))
    rwa [RB.out.1] at h
  have cv2 : (convert 35 9 (.slice a n c)).run Tryd.prog w10 = .ok (.string (spell l)) w10 := conv_n (show Hid (Sln w10 a n l) from hS.out.below B10.out)
  have es := fun d w => eq_str d (spell l) w
  go_wp2
  go_ret
  exact ⟨rfl, B10.out⟩
theorem gets_n {w : World} {M : Nat → Prop} {E : Nat → Addr} {a : Option Addr} {n c : Nat} {l : List Nat} (hE : Hid (Sent w M E)) (hM1 : M 1) (hS : Hid (Sln w a n l)) (hz : Hid (a = none → c = 0)) (hnc : Hid (n ≤ c)) (hb : Hid (n ≤ 140737488351232)) :
    Calls Tryd.prog 4 #[.slice a n c] w fun e w' => e = .returned (.bool true) ∧ Hid (Below w.heap.size w w') := by
  rcases opt_cases (rdG l) with h | ⟨y, h⟩
  · exact gets_no hE hM1 hS hz hnc hb h
  · exact gets_yes hE hM1 hS hz hnc hb h
end Go.Proofs.YtoegfckafnlknaaDoor
