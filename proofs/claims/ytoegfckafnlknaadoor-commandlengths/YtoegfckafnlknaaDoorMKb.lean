import Derived.Test.YtoegfckafnlknaaDoorMKa
import Derived.Test.YtoegfckafnlknaaDoorMJc
import Derived.Test.YtoegfckafnlknaaDoorMCn
/- Kb -/
/- CommandLedgers: the walk. -/
namespace Go.Proofs.YtoegfckafnlknaaDoor
open Go.ChangeShapes Go.WideShapes Go.ChangeAt Go.RowKit
set_option maxRecDepth 20000
set_option linter.unusedVariables false
set_option linter.unusedSimpArgs false
noncomputable def opr5a : Array Oper := match Tryd.f5.body with
  | some c => match regIn 6 c with
    | some o => o
    | none => #[]
  | none => #[]
noncomputable def opr5b : Array Oper := match Tryd.f5.body with
  | some c => match regIn 11 c with
    | some o => o
    | none => #[]
  | none => #[]
theorem mapcm_inj : ∀ {a b : List Nm}, a.map Nm.cm = b.map Nm.cm → a = b
  | [], [], _ => rfl
  | [], _ :: _, h => by simp at h
  | _ :: _, [], h => by simp at h
  | x :: a, y :: b, h => by
    simp only [List.map_cons, List.cons.injEq] at h
    rw [mapcm_inj h.2, cm_inj h.1]
theorem num11 {w : World} {E : Nat → Addr} (hS : Hid (Sent w (fun g => g < 18) E)) : Calls Tryd.prog 22 #[er (E 2)] w fun e w' => e = .returned (.int .i64 11) ∧ Hid (Below w.heap.size w w') := bnum_err 2 10 E w (by omega) (by rfl) (by decide) hS
theorem num18 {w : World} {E : Nat → Addr} (hS : Hid (Sent w (fun g => g < 18) E)) : Calls Tryd.prog 22 #[er (E 0)] w fun e w' => e = .returned (.int .i64 18) ∧ Hid (Below w.heap.size w w') := bnum_err 0 17 E w (by omega) (by rfl) (by decide) hS
theorem num0 {w : World} : Calls Tryd.prog 22 #[.nilIface] w fun e w' => e = .returned (.int .i64 0) ∧ Hid (Below w.heap.size w w') := by
  refine (bnum_nil w).mono ?_
  rintro e w' ⟨h1, h2⟩
  exact ⟨h1, by rw [h2]; exact Below.refl _ _⟩
theorem write_no {w : World} {M : Nat → Prop} {E : Nat → Addr} {a : Option Addr} {n c : Nat} {X : List Cx} (hE : Hid (Sent w M E)) (hM0 : M 0) (hC : Hid (Cms w 0 a n X)) (hn : n ≤ 4096) (hb : Hid (∃ x ∈ X, frm x.cm = false)) :
    Calls Tryd.prog 20 #[.slice a n c] w fun e w' => e = .returned (.tuple #[.slice none 0 0, er (E 0)]) ∧ Hid (Below w.heap.size w w') := by
  refine (write_n hE hM0 hC hn).mono ?_
  rintro e w' (⟨_, h1, h2⟩ | ⟨ys, g, N, h1, h2, _⟩)
  · exact ⟨h1, h2⟩
  · obtain ⟨x, hx, hf⟩ := hb.out
    have hm : x.cm ∈ X.map Cx.cm := List.mem_map.2 ⟨x, hx, rfl⟩
    rw [h1] at hm
    obtain ⟨y, hy, e⟩ := List.mem_map.1 hm
    rw [← e, (h2 y hy).2] at hf
    cases hf
theorem write_yes {w : World} {M : Nat → Prop} {E : Nat → Addr} {a : Option Addr} {n c : Nat} {X : List Cx} {ys : List Nm} (hE : Hid (Sent w M E)) (hM0 : M 0) (hC : Hid (Cms w 0 a n X)) (hn : n ≤ 4096) (hy : Hid (X.map Cx.cm = ys.map Nm.cm)) (ha : Hid (∀ y ∈ ys, Nb y ∧ frm y.cm = true)) :
    Calls Tryd.prog 20 #[.slice a n c] w fun e w' => ∃ g N, e = .returned (.tuple #[.slice (some ⟨g, 0, none⟩) N N, .nilIface]) ∧ Hid (Blk w' g (sealL (wrL ys)) ∧ N = (wrL ys).length + 4 ∧ Below w.heap.size w w') := by
  refine (write_n hE hM0 hC hn).mono ?_
  rintro e w' (⟨⟨x, hx, hf⟩, _⟩ | ⟨zs, g, N, h1, h2, h3, h4, h5, h6⟩)
  · have hm : x.cm ∈ X.map Cx.cm := List.mem_map.2 ⟨x, hx, rfl⟩
    rw [hy.out] at hm
    obtain ⟨y, hy, e⟩ := List.mem_map.1 hm
    rw [← e, (ha.out y hy).2] at hf
    cases hf
  · obtain rfl := mapcm_inj (h1.symm.trans hy.out)
    exact ⟨g, N, h3, h4, h5, h6⟩
theorem refwrite_no {w : World} {a : Option Addr} {n c : Nat} {X : List Cx} (hC : Hid (Cms w 0 a n X)) (hn : n ≤ 4096) (hb : Hid (∃ x ∈ X, frm x.cm = false)) :
    Calls Tryd.prog 21 #[.slice a n c] w fun e w' => e = .returned (.tuple #[.slice none 0 0, .int .i64 18]) ∧ Hid (Below w.heap.size w w') := by
  refine (refwrite_n hC hn).mono ?_
  rintro e w' (⟨_, h1, h2⟩ | ⟨ys, b, N, d, h1, h2, _⟩)
  · exact ⟨h1, h2⟩
  · obtain ⟨x, hx, hf⟩ := hb.out
    have hm : x.cm ∈ X.map Cx.cm := List.mem_map.2 ⟨x, hx, rfl⟩
    rw [h1] at hm
    obtain ⟨y, hy, e⟩ := List.mem_map.1 hm
    rw [← e, (h2 y hy).2] at hf
    cases hf
theorem refwrite_yes {w : World} {a : Option Addr} {n c : Nat} {X : List Cx} {ys : List Nm} (hC : Hid (Cms w 0 a n X)) (hn : n ≤ 4096) (hy : Hid (X.map Cx.cm = ys.map Nm.cm)) (ha : Hid (∀ y ∈ ys, Nb y ∧ frm y.cm = true)) :
    Calls Tryd.prog 21 #[.slice a n c] w fun e w' => ∃ b N d, e = .returned (.tuple #[.slice b N d, .int .i64 0]) ∧ Hid (Own w' w.heap.size b N d (sealL (wrL ys)) ∧ N ≤ 10000100 ∧ Below w.heap.size w w') := by
  refine (refwrite_n hC hn).mono ?_
  rintro e w' (⟨⟨x, hx, hf⟩, _⟩ | ⟨zs, b, N, d, h1, h2, h3, h4, h5, h6⟩)
  · have hm : x.cm ∈ X.map Cx.cm := List.mem_map.2 ⟨x, hx, rfl⟩
    rw [hy.out] at hm
    obtain ⟨y, hy, e⟩ := List.mem_map.1 hm
    rw [← e, (ha.out y hy).2] at hf
    cases hf
  · obtain rfl := mapcm_inj (h1.symm.trans hy.out)
    exact ⟨b, N, d, h3, h4, h5, h6⟩
theorem bad_led {X Y : List Cx} (h : led Y = led X) (hb : ∃ x ∈ X, frm x.cm = false) : ∃ x ∈ Y, frm x.cm = false := by
  obtain ⟨x, hx, hf⟩ := hb
  have hm : x.cm ∈ led X := by rw [led_cm]; exact List.mem_map.2 ⟨x, hx, rfl⟩
  rw [← h, led_cm] at hm
  obtain ⟨y, hy, e⟩ := List.mem_map.1 hm
  exact ⟨y, hy, by rw [e]; exact hf⟩
theorem nil_conv (w : World) : (convert 35 9 (.slice none 0 0)).run Tryd.prog w = .ok (.string (spell [])) w := conv_n (show Hid (Sln w none 0 []) from ⟨rfl, by simp, by simp, .inl rfl⟩)
theorem opn_seal (l : List Nat) : opn (sealL l) = (l, 0) := by
  have h4 : (sealL l).length = l.length + 4 := by unfold sealL; simp [be4]
  have ht : (sealL l).take ((sealL l).length - 4) = l := by rw [h4, Nat.add_sub_cancel]; unfold sealL; exact List.take_left
  rw [opn_ok (by omega) (by rw [ht]), ht]
theorem frm_all {X : List Cx} (h : ∀ x ∈ X, frm x.cm = true) : ∃ ys : List Nm, X.map Cx.cm = ys.map Nm.cm ∧ ∀ y ∈ ys, Nb y ∧ frm y.cm = true := by
  induction X with
  | nil => exact ⟨[], rfl, fun y hy => by cases hy⟩
  | cons x X ih =>
    obtain ⟨ys, h1, h2⟩ := ih (fun z hz => h z (List.mem_cons_of_mem _ hz))
    have hx := h x (List.mem_cons_self ..)
    obtain ⟨y, hy, hb⟩ := frm_nat hx
    refine ⟨y :: ys, by simp [h1, hy], fun z hz => ?_⟩
    rcases List.mem_cons.1 hz with rfl | hz
    · exact ⟨hb, by rw [← hy]; exact hx⟩
    · exact h2 z hz
set_option maxHeartbeats 2000000 in
theorem ledgers_large {w : World} {E : Nat → Addr} {a : Option Addr} {n c : Nat} {X : List Cx} (hE : Hid (Sent w (fun g => g < 18) E)) (hC : Hid (Cms w 0 a n X)) (hz : Hid (a = none → c = 0)) (hn : 4096 < n) :
    Calls Tryd.prog 5 #[.slice a n c] w fun e w' => e = .returned (.bool true) ∧ Hid (Below w.heap.size w w') := by
  go_enter Tryd.func5, Tryd.ntmps5
  go_upto_region 3 with (go_at_call 9; refine (alive_n _).mono ?_; rintro e w2 ⟨rfl, h2⟩)
  have C2 : Hid (Cms w2 0 a n X) := hC.out.below h2.out
  go_upto_region 4 with (go_at_call 10; refine (copy_n C2 hz).mono ?_; rintro e w3 ⟨a3, c3, rfl, h3⟩)
  obtain ⟨Y, hY, OY, b3⟩ := h3.out
  have HY : Hid (led Y = led X) := hY
  have O3 : Hid (Cms w3 0 a3 n Y) := OY.cms.mono (Nat.zero_le _)
  have B3 : Hid (Below w.heap.size w w3) := h2.out.trans (b3.mono h2.out.size)
  have E3 : Hid (Sent w3 (fun g => g < 18) E) := hE.out.below B3.out
  clear h3 hY OY b3 C2 h2
  go_upto_region 5 with (go_at_call 20; refine (write_large E3 (by decide) hn).mono ?_; rintro e w4 ⟨rfl, h4⟩; have BW4 := h4.out)
  have B4 : Hid (Below w.heap.size w w4) := B3.out.trans (BW4.mono B3.out.size)
  have O4 : Hid (Cms w4 0 a3 n Y) := O3.out.below BW4
  have C4 : Hid (Cms w4 0 a n X) := hC.out.below B4.out
  go_upto_region 6 with (go_at_call 21; refine (refwrite_large hn).mono ?_; rintro e w5 ⟨rfl, h5⟩; have BW5 := h5.out)
  have B5 : Hid (Below w.heap.size w w5) := B4.out.trans (BW5.mono B4.out.size)
  have O5 : Hid (Cms w5 0 a3 n Y) := O4.out.below BW5
  have C5 : Hid (Cms w5 0 a n X) := hC.out.below B5.out
  have E5 : Hid (Sent w5 (fun g => g < 18) E) := hE.out.below B5.out
  have SM : Hid (decide (led Y = led X) = true) := decide_eq_true HY.out
  have Q1 : Hid (∀ W : World, Below w5.heap.size w5 W → (convert 35 9 (.slice none 0 0)).run Tryd.prog W = .ok (.string (spell [])) W) := fun W _ => nil_conv W
  have Q2 : Hid (∀ W : World, Below w5.heap.size w5 W → (convert 35 9 (.slice none 0 0)).run Tryd.prog W = .ok (.string (spell [])) W) := fun W _ => nil_conv W
  refine wp_region_flat (ops := opr5a) (C := fun W => Below w5.heap.size w5 W) [(0, false), (1, true), (2, false), (3, false), (4, false), (5, false), (6, false), (7, false), (8, false), (9, false), (10, false), (11, false), (12, false), (13, false), (14, true), (15, false), (16, false)] (by kernel_rfl) (Below.refl _ _) ?_
  refine seq_take (o := { dst := some 23, op := Go.Op.move (Go.Operand.tmp 5), type := 33, pos := "law.go:63", after := #[], guard := none }) (v := er (E 2)) (by kernel_rfl) (fun _ _ _ h => h) (Or.inl ⟨by kernel_rfl, fun W hW => by go_simp⟩) ?_
  simp only [List.getElem_toArray, List.getElem_cons_zero, List.getElem_cons_succ, Act.put, List.setIfInBounds_toArray, List.set_cons_zero, List.set_cons_succ]
  refine seq_call (o := { dst := some 24, op := Go.Op.call { callee := Go.Callee.value (Go.Operand.func 22), args := #[Go.Operand.tmp 23], argTypes := #[33] }, type := 3, pos := "law.go:63", after := #[{ on := 0, ground := Go.Ground.data }], guard := none }) (by kernel_rfl) (fun KK hK => ?_)
  rw [if_pos (by kernel_rfl)]
  go_simp
  go_wp2_with (go_at_call 22; refine (num11 E5).mono ?_; rintro e w6 ⟨rfl, h6⟩)
  refine hK.out _ _ (h6.out) ?_
  clear hK KK
  try simp only [List.getElem_toArray, List.getElem_cons_zero, List.getElem_cons_succ, Act.put, List.setIfInBounds_toArray, List.set_cons_zero, List.set_cons_succ]
  refine seq_take (o := { dst := some 25, op := Go.Op.move (Go.Operand.tmp 7), type := 3, pos := "law.go:63", after := #[], guard := none }) (v := .int .i64 11) (by kernel_rfl) (fun _ _ _ h => h) (Or.inl ⟨by kernel_rfl, fun W hW => by go_simp⟩) ?_
  simp only [List.getElem_toArray, List.getElem_cons_zero, List.getElem_cons_succ, Act.put, List.setIfInBounds_toArray, List.set_cons_zero, List.set_cons_succ]
  refine seq_take (o := { dst := some 26, op := Go.Op.binOp Go.BinOp.neq 3 (Go.Operand.tmp 24) (Go.Operand.tmp 25) 3, type := 4, pos := "law.go:63", after := #[{ on := 1, ground := Go.Ground.data }, { on := 2, ground := Go.Ground.data }], guard := none }) (v := .bool false) (by kernel_rfl) (fun _ _ _ h => h) (Or.inl ⟨by kernel_rfl, fun W hW => by go_simp⟩) ?_
  simp only [List.getElem_toArray, List.getElem_cons_zero, List.getElem_cons_succ, Act.put, List.setIfInBounds_toArray, List.set_cons_zero, List.set_cons_succ]
  refine seq_take (o := { dst := some 27, op := Go.Op.move (Go.Operand.tmp 26), type := 4, pos := "law.go:63", after := #[{ on := 3, ground := Go.Ground.data }, { on := 1, ground := Go.Ground.chain }], guard := none }) (v := .bool false) (by kernel_rfl) (fun _ _ _ h => h) (Or.inl ⟨by kernel_rfl, fun W hW => by go_simp⟩) ?_
  simp only [List.getElem_toArray, List.getElem_cons_zero, List.getElem_cons_succ, Act.put, List.setIfInBounds_toArray, List.set_cons_zero, List.set_cons_succ]
  refine seq_take (o := { dst := some 28, op := Go.Op.move (Go.Operand.tmp 4), type := 35, pos := "law.go:63", after := #[{ on := 4, ground := Go.Ground.guard }], guard := some (4, false) }) (v := .slice none 0 0) (by kernel_rfl) (fun _ _ _ h => h) (Or.inl ⟨by kernel_rfl, fun W hW => by go_simp⟩) ?_
  simp only [List.getElem_toArray, List.getElem_cons_zero, List.getElem_cons_succ, Act.put, List.setIfInBounds_toArray, List.set_cons_zero, List.set_cons_succ]
  refine seq_take (o := { dst := some 29, op := Go.Op.convert 35 9 (Go.Operand.tmp 28), type := 9, pos := "law.go:63", after := #[{ on := 5, ground := Go.Ground.data }, { on := 4, ground := Go.Ground.guard }], guard := some (4, false) }) (v := .string (spell [])) (by kernel_rfl) (fun _ _ _ h => h) (Or.inl ⟨by kernel_rfl, fun W hW => by have q0 := Q1.out W hW; go_simp⟩) ?_
  simp only [List.getElem_toArray, List.getElem_cons_zero, List.getElem_cons_succ, Act.put, List.setIfInBounds_toArray, List.set_cons_zero, List.set_cons_succ]
  refine seq_take (o := { dst := some 30, op := Go.Op.move (Go.Operand.tmp 6), type := 35, pos := "law.go:63", after := #[{ on := 4, ground := Go.Ground.guard }], guard := some (4, false) }) (v := .slice none 0 0) (by kernel_rfl) (fun _ _ _ h => h) (Or.inl ⟨by kernel_rfl, fun W hW => by go_simp⟩) ?_
  simp only [List.getElem_toArray, List.getElem_cons_zero, List.getElem_cons_succ, Act.put, List.setIfInBounds_toArray, List.set_cons_zero, List.set_cons_succ]
  refine seq_take (o := { dst := some 31, op := Go.Op.convert 35 9 (Go.Operand.tmp 30), type := 9, pos := "law.go:63", after := #[{ on := 7, ground := Go.Ground.data }, { on := 4, ground := Go.Ground.guard }], guard := some (4, false) }) (v := .string (spell [])) (by kernel_rfl) (fun _ _ _ h => h) (Or.inl ⟨by kernel_rfl, fun W hW => by have q0 := Q2.out W hW; go_simp⟩) ?_
  simp only [List.getElem_toArray, List.getElem_cons_zero, List.getElem_cons_succ, Act.put, List.setIfInBounds_toArray, List.set_cons_zero, List.set_cons_succ]
  refine seq_take (o := { dst := some 32, op := Go.Op.binOp Go.BinOp.neq 9 (Go.Operand.tmp 29) (Go.Operand.tmp 31) 9, type := 4, pos := "law.go:63", after := #[{ on := 6, ground := Go.Ground.data }, { on := 8, ground := Go.Ground.data }, { on := 4, ground := Go.Ground.guard }], guard := some (4, false) }) (v := .bool false) (by kernel_rfl) (fun _ _ _ h => h) (Or.inl ⟨by kernel_rfl, fun W hW => by have q0 := fun d w => eq_str d (spell []) w; go_simp⟩) ?_
  simp only [List.getElem_toArray, List.getElem_cons_zero, List.getElem_cons_succ, Act.put, List.setIfInBounds_toArray, List.set_cons_zero, List.set_cons_succ]
  refine seq_take (o := { dst := some 33, op := Go.Op.pick (Go.Operand.tmp 27) (Go.Operand.const (Go.Value.bool true)) (Go.Operand.tmp 32), type := 4, pos := "law.go:63", after := #[{ on := 4, ground := Go.Ground.data }, { on := 9, ground := Go.Ground.data }], guard := none }) (v := .bool false) (by kernel_rfl) (fun _ _ _ h => h) (Or.inl ⟨by kernel_rfl, fun W hW => by go_simp⟩) ?_
  simp only [List.getElem_toArray, List.getElem_cons_zero, List.getElem_cons_succ, Act.put, List.setIfInBounds_toArray, List.set_cons_zero, List.set_cons_succ]
  refine seq_take (o := { dst := some 34, op := Go.Op.move (Go.Operand.tmp 33), type := 4, pos := "law.go:63", after := #[{ on := 10, ground := Go.Ground.data }, { on := 4, ground := Go.Ground.chain }], guard := none }) (v := .bool false) (by kernel_rfl) (fun _ _ _ h => h) (Or.inl ⟨by kernel_rfl, fun W hW => by go_simp⟩) ?_
  simp only [List.getElem_toArray, List.getElem_cons_zero, List.getElem_cons_succ, Act.put, List.setIfInBounds_toArray, List.set_cons_zero, List.set_cons_succ]
  refine seq_take (o := { dst := some 35, op := Go.Op.move (Go.Operand.tmp 3), type := 30, pos := "law.go:63", after := #[{ on := 11, ground := Go.Ground.guard }], guard := some (11, false) }) (v := .slice a3 n c3) (by kernel_rfl) (fun _ _ _ h => h) (Or.inl ⟨by kernel_rfl, fun W hW => by go_simp⟩) ?_
  simp only [List.getElem_toArray, List.getElem_cons_zero, List.getElem_cons_succ, Act.put, List.setIfInBounds_toArray, List.set_cons_zero, List.set_cons_succ]
  refine seq_take (o := { dst := some 36, op := Go.Op.move (Go.Operand.tmp 0), type := 30, pos := "law.go:63", after := #[{ on := 11, ground := Go.Ground.guard }], guard := some (11, false) }) (v := .slice a n c) (by kernel_rfl) (fun _ _ _ h => h) (Or.inl ⟨by kernel_rfl, fun W hW => by go_simp⟩) ?_
  simp only [List.getElem_toArray, List.getElem_cons_zero, List.getElem_cons_succ, Act.put, List.setIfInBounds_toArray, List.set_cons_zero, List.set_cons_succ]
  refine seq_call (o := { dst := some 37, op := Go.Op.call { callee := Go.Callee.value (Go.Operand.func 23), args := #[Go.Operand.tmp 35, Go.Operand.tmp 36], argTypes := #[30, 30] }, type := 4, pos := "law.go:63", after := #[{ on := 12, ground := Go.Ground.data }, { on := 13, ground := Go.Ground.data }, { on := 11, ground := Go.Ground.chain }, { on := 11, ground := Go.Ground.guard }], guard := some (11, false) }) (by kernel_rfl) (fun KK hK => ?_)
  rw [if_pos (by kernel_rfl)]
  go_simp
  have O6 : Hid (Cms w6 0 a3 n Y) := O5.out.below h6.out
  have C6 : Hid (Cms w6 0 a n X) := C5.out.below h6.out
  go_wp2_with (go_at_call 23; refine (same_n O6 C6).mono ?_; rintro e w7 ⟨rfl, h7⟩; rw [SM.out])
  have B57 : Hid (Below w5.heap.size w5 w7) := h6.out.trans (h7.out.mono h6.out.size)
  refine hK.out _ _ (B57.out) ?_
  clear hK KK
  try simp only [List.getElem_toArray, List.getElem_cons_zero, List.getElem_cons_succ, Act.put, List.setIfInBounds_toArray, List.set_cons_zero, List.set_cons_succ]
  refine seq_take (o := { dst := some 38, op := Go.Op.unOp Go.UnOp.not 4 (Go.Operand.tmp 37), type := 4, pos := "law.go:63", after := #[{ on := 14, ground := Go.Ground.data }, { on := 11, ground := Go.Ground.guard }], guard := some (11, false) }) (v := .bool false) (by kernel_rfl) (fun _ _ _ h => h) (Or.inl ⟨by kernel_rfl, fun W hW => by go_simp⟩) ?_
  simp only [List.getElem_toArray, List.getElem_cons_zero, List.getElem_cons_succ, Act.put, List.setIfInBounds_toArray, List.set_cons_zero, List.set_cons_succ]
  refine seq_take (o := { dst := some 39, op := Go.Op.pick (Go.Operand.tmp 34) (Go.Operand.const (Go.Value.bool true)) (Go.Operand.tmp 38), type := 4, pos := "law.go:63", after := #[{ on := 11, ground := Go.Ground.data }, { on := 15, ground := Go.Ground.data }], guard := none }) (v := .bool false) (by kernel_rfl) (fun _ _ _ h => h) (Or.inl ⟨by kernel_rfl, fun W hW => by go_simp⟩) ?_
  simp only [List.getElem_toArray, List.getElem_cons_zero, List.getElem_cons_succ, Act.put, List.setIfInBounds_toArray, List.set_cons_zero, List.set_cons_succ]
  show (Exit.then _ _) .normal _ _
  go_wp2
  go_ret
  exact ⟨rfl, B5.out.trans (B57.out.mono B5.out.size)⟩
set_option maxHeartbeats 2000000 in
theorem ledgers_state {w : World} {E : Nat → Addr} {a : Option Addr} {n c : Nat} {X : List Cx} (hE : Hid (Sent w (fun g => g < 18) E)) (hC : Hid (Cms w 0 a n X)) (hz : Hid (a = none → c = 0)) (hn : n ≤ 4096) (hb : Hid (∃ x ∈ X, frm x.cm = false)) :
    Calls Tryd.prog 5 #[.slice a n c] w fun e w' => e = .returned (.bool true) ∧ Hid (Below w.heap.size w w') := by
  go_enter Tryd.func5, Tryd.ntmps5
  go_upto_region 3 with (go_at_call 9; refine (alive_n _).mono ?_; rintro e w2 ⟨rfl, h2⟩)
  have C2 : Hid (Cms w2 0 a n X) := hC.out.below h2.out
  go_upto_region 4 with (go_at_call 10; refine (copy_n C2 hz).mono ?_; rintro e w3 ⟨a3, c3, rfl, h3⟩)
  obtain ⟨Y, hY, OY, b3⟩ := h3.out
  have HY : Hid (led Y = led X) := hY
  have O3 : Hid (Cms w3 0 a3 n Y) := OY.cms.mono (Nat.zero_le _)
  have B3 : Hid (Below w.heap.size w w3) := h2.out.trans (b3.mono h2.out.size)
  have E3 : Hid (Sent w3 (fun g => g < 18) E) := hE.out.below B3.out
  clear h3 hY OY b3 C2 h2
  go_upto_region 5 with (go_at_call 20; refine (write_no E3 (by decide) O3 hn (show Hid _ from bad_led HY.out hb.out)).mono ?_; rintro e w4 ⟨rfl, h4⟩; have BW4 := h4.out)
  have B4 : Hid (Below w.heap.size w w4) := B3.out.trans (BW4.mono B3.out.size)
  have O4 : Hid (Cms w4 0 a3 n Y) := O3.out.below BW4
  have C4 : Hid (Cms w4 0 a n X) := hC.out.below B4.out
  go_upto_region 6 with (go_at_call 21; refine (refwrite_no C4 hn hb).mono ?_; rintro e w5 ⟨rfl, h5⟩; have BW5 := h5.out)
  have B5 : Hid (Below w.heap.size w w5) := B4.out.trans (BW5.mono B4.out.size)
  have O5 : Hid (Cms w5 0 a3 n Y) := O4.out.below BW5
  have C5 : Hid (Cms w5 0 a n X) := hC.out.below B5.out
  have E5 : Hid (Sent w5 (fun g => g < 18) E) := hE.out.below B5.out
  have SM : Hid (decide (led Y = led X) = true) := decide_eq_true HY.out
  have Q1 : Hid (∀ W : World, Below w5.heap.size w5 W → (convert 35 9 (.slice none 0 0)).run Tryd.prog W = .ok (.string (spell [])) W) := fun W _ => nil_conv W
  have Q2 : Hid (∀ W : World, Below w5.heap.size w5 W → (convert 35 9 (.slice none 0 0)).run Tryd.prog W = .ok (.string (spell [])) W) := fun W _ => nil_conv W
  refine wp_region_flat (ops := opr5a) (C := fun W => Below w5.heap.size w5 W) [(0, false), (1, true), (2, false), (3, false), (4, false), (5, false), (6, false), (7, false), (8, false), (9, false), (10, false), (11, false), (12, false), (13, false), (14, true), (15, false), (16, false)] (by kernel_rfl) (Below.refl _ _) ?_
  refine seq_take (o := { dst := some 23, op := Go.Op.move (Go.Operand.tmp 5), type := 33, pos := "law.go:63", after := #[], guard := none }) (v := er (E 0)) (by kernel_rfl) (fun _ _ _ h => h) (Or.inl ⟨by kernel_rfl, fun W hW => by go_simp⟩) ?_
  simp only [List.getElem_toArray, List.getElem_cons_zero, List.getElem_cons_succ, Act.put, List.setIfInBounds_toArray, List.set_cons_zero, List.set_cons_succ]
  refine seq_call (o := { dst := some 24, op := Go.Op.call { callee := Go.Callee.value (Go.Operand.func 22), args := #[Go.Operand.tmp 23], argTypes := #[33] }, type := 3, pos := "law.go:63", after := #[{ on := 0, ground := Go.Ground.data }], guard := none }) (by kernel_rfl) (fun KK hK => ?_)
  rw [if_pos (by kernel_rfl)]
  go_simp
  go_wp2_with (go_at_call 22; refine (num18 E5).mono ?_; rintro e w6 ⟨rfl, h6⟩)
  refine hK.out _ _ (h6.out) ?_
  clear hK KK
  try simp only [List.getElem_toArray, List.getElem_cons_zero, List.getElem_cons_succ, Act.put, List.setIfInBounds_toArray, List.set_cons_zero, List.set_cons_succ]
  refine seq_take (o := { dst := some 25, op := Go.Op.move (Go.Operand.tmp 7), type := 3, pos := "law.go:63", after := #[], guard := none }) (v := .int .i64 18) (by kernel_rfl) (fun _ _ _ h => h) (Or.inl ⟨by kernel_rfl, fun W hW => by go_simp⟩) ?_
  simp only [List.getElem_toArray, List.getElem_cons_zero, List.getElem_cons_succ, Act.put, List.setIfInBounds_toArray, List.set_cons_zero, List.set_cons_succ]
  refine seq_take (o := { dst := some 26, op := Go.Op.binOp Go.BinOp.neq 3 (Go.Operand.tmp 24) (Go.Operand.tmp 25) 3, type := 4, pos := "law.go:63", after := #[{ on := 1, ground := Go.Ground.data }, { on := 2, ground := Go.Ground.data }], guard := none }) (v := .bool false) (by kernel_rfl) (fun _ _ _ h => h) (Or.inl ⟨by kernel_rfl, fun W hW => by go_simp⟩) ?_
  simp only [List.getElem_toArray, List.getElem_cons_zero, List.getElem_cons_succ, Act.put, List.setIfInBounds_toArray, List.set_cons_zero, List.set_cons_succ]
  refine seq_take (o := { dst := some 27, op := Go.Op.move (Go.Operand.tmp 26), type := 4, pos := "law.go:63", after := #[{ on := 3, ground := Go.Ground.data }, { on := 1, ground := Go.Ground.chain }], guard := none }) (v := .bool false) (by kernel_rfl) (fun _ _ _ h => h) (Or.inl ⟨by kernel_rfl, fun W hW => by go_simp⟩) ?_
  simp only [List.getElem_toArray, List.getElem_cons_zero, List.getElem_cons_succ, Act.put, List.setIfInBounds_toArray, List.set_cons_zero, List.set_cons_succ]
  refine seq_take (o := { dst := some 28, op := Go.Op.move (Go.Operand.tmp 4), type := 35, pos := "law.go:63", after := #[{ on := 4, ground := Go.Ground.guard }], guard := some (4, false) }) (v := .slice none 0 0) (by kernel_rfl) (fun _ _ _ h => h) (Or.inl ⟨by kernel_rfl, fun W hW => by go_simp⟩) ?_
  simp only [List.getElem_toArray, List.getElem_cons_zero, List.getElem_cons_succ, Act.put, List.setIfInBounds_toArray, List.set_cons_zero, List.set_cons_succ]
  refine seq_take (o := { dst := some 29, op := Go.Op.convert 35 9 (Go.Operand.tmp 28), type := 9, pos := "law.go:63", after := #[{ on := 5, ground := Go.Ground.data }, { on := 4, ground := Go.Ground.guard }], guard := some (4, false) }) (v := .string (spell [])) (by kernel_rfl) (fun _ _ _ h => h) (Or.inl ⟨by kernel_rfl, fun W hW => by have q0 := Q1.out W hW; go_simp⟩) ?_
  simp only [List.getElem_toArray, List.getElem_cons_zero, List.getElem_cons_succ, Act.put, List.setIfInBounds_toArray, List.set_cons_zero, List.set_cons_succ]
  refine seq_take (o := { dst := some 30, op := Go.Op.move (Go.Operand.tmp 6), type := 35, pos := "law.go:63", after := #[{ on := 4, ground := Go.Ground.guard }], guard := some (4, false) }) (v := .slice none 0 0) (by kernel_rfl) (fun _ _ _ h => h) (Or.inl ⟨by kernel_rfl, fun W hW => by go_simp⟩) ?_
  simp only [List.getElem_toArray, List.getElem_cons_zero, List.getElem_cons_succ, Act.put, List.setIfInBounds_toArray, List.set_cons_zero, List.set_cons_succ]
  refine seq_take (o := { dst := some 31, op := Go.Op.convert 35 9 (Go.Operand.tmp 30), type := 9, pos := "law.go:63", after := #[{ on := 7, ground := Go.Ground.data }, { on := 4, ground := Go.Ground.guard }], guard := some (4, false) }) (v := .string (spell [])) (by kernel_rfl) (fun _ _ _ h => h) (Or.inl ⟨by kernel_rfl, fun W hW => by have q0 := Q2.out W hW; go_simp⟩) ?_
  simp only [List.getElem_toArray, List.getElem_cons_zero, List.getElem_cons_succ, Act.put, List.setIfInBounds_toArray, List.set_cons_zero, List.set_cons_succ]
  refine seq_take (o := { dst := some 32, op := Go.Op.binOp Go.BinOp.neq 9 (Go.Operand.tmp 29) (Go.Operand.tmp 31) 9, type := 4, pos := "law.go:63", after := #[{ on := 6, ground := Go.Ground.data }, { on := 8, ground := Go.Ground.data }, { on := 4, ground := Go.Ground.guard }], guard := some (4, false) }) (v := .bool false) (by kernel_rfl) (fun _ _ _ h => h) (Or.inl ⟨by kernel_rfl, fun W hW => by have q0 := fun d w => eq_str d (spell []) w; go_simp⟩) ?_
  simp only [List.getElem_toArray, List.getElem_cons_zero, List.getElem_cons_succ, Act.put, List.setIfInBounds_toArray, List.set_cons_zero, List.set_cons_succ]
  refine seq_take (o := { dst := some 33, op := Go.Op.pick (Go.Operand.tmp 27) (Go.Operand.const (Go.Value.bool true)) (Go.Operand.tmp 32), type := 4, pos := "law.go:63", after := #[{ on := 4, ground := Go.Ground.data }, { on := 9, ground := Go.Ground.data }], guard := none }) (v := .bool false) (by kernel_rfl) (fun _ _ _ h => h) (Or.inl ⟨by kernel_rfl, fun W hW => by go_simp⟩) ?_
  simp only [List.getElem_toArray, List.getElem_cons_zero, List.getElem_cons_succ, Act.put, List.setIfInBounds_toArray, List.set_cons_zero, List.set_cons_succ]
  refine seq_take (o := { dst := some 34, op := Go.Op.move (Go.Operand.tmp 33), type := 4, pos := "law.go:63", after := #[{ on := 10, ground := Go.Ground.data }, { on := 4, ground := Go.Ground.chain }], guard := none }) (v := .bool false) (by kernel_rfl) (fun _ _ _ h => h) (Or.inl ⟨by kernel_rfl, fun W hW => by go_simp⟩) ?_
  simp only [List.getElem_toArray, List.getElem_cons_zero, List.getElem_cons_succ, Act.put, List.setIfInBounds_toArray, List.set_cons_zero, List.set_cons_succ]
  refine seq_take (o := { dst := some 35, op := Go.Op.move (Go.Operand.tmp 3), type := 30, pos := "law.go:63", after := #[{ on := 11, ground := Go.Ground.guard }], guard := some (11, false) }) (v := .slice a3 n c3) (by kernel_rfl) (fun _ _ _ h => h) (Or.inl ⟨by kernel_rfl, fun W hW => by go_simp⟩) ?_
  simp only [List.getElem_toArray, List.getElem_cons_zero, List.getElem_cons_succ, Act.put, List.setIfInBounds_toArray, List.set_cons_zero, List.set_cons_succ]
  refine seq_take (o := { dst := some 36, op := Go.Op.move (Go.Operand.tmp 0), type := 30, pos := "law.go:63", after := #[{ on := 11, ground := Go.Ground.guard }], guard := some (11, false) }) (v := .slice a n c) (by kernel_rfl) (fun _ _ _ h => h) (Or.inl ⟨by kernel_rfl, fun W hW => by go_simp⟩) ?_
  simp only [List.getElem_toArray, List.getElem_cons_zero, List.getElem_cons_succ, Act.put, List.setIfInBounds_toArray, List.set_cons_zero, List.set_cons_succ]
  refine seq_call (o := { dst := some 37, op := Go.Op.call { callee := Go.Callee.value (Go.Operand.func 23), args := #[Go.Operand.tmp 35, Go.Operand.tmp 36], argTypes := #[30, 30] }, type := 4, pos := "law.go:63", after := #[{ on := 12, ground := Go.Ground.data }, { on := 13, ground := Go.Ground.data }, { on := 11, ground := Go.Ground.chain }, { on := 11, ground := Go.Ground.guard }], guard := some (11, false) }) (by kernel_rfl) (fun KK hK => ?_)
  rw [if_pos (by kernel_rfl)]
  go_simp
  have O6 : Hid (Cms w6 0 a3 n Y) := O5.out.below h6.out
  have C6 : Hid (Cms w6 0 a n X) := C5.out.below h6.out
  go_wp2_with (go_at_call 23; refine (same_n O6 C6).mono ?_; rintro e w7 ⟨rfl, h7⟩; rw [SM.out])
  have B57 : Hid (Below w5.heap.size w5 w7) := h6.out.trans (h7.out.mono h6.out.size)
  refine hK.out _ _ (B57.out) ?_
  clear hK KK
  try simp only [List.getElem_toArray, List.getElem_cons_zero, List.getElem_cons_succ, Act.put, List.setIfInBounds_toArray, List.set_cons_zero, List.set_cons_succ]
  refine seq_take (o := { dst := some 38, op := Go.Op.unOp Go.UnOp.not 4 (Go.Operand.tmp 37), type := 4, pos := "law.go:63", after := #[{ on := 14, ground := Go.Ground.data }, { on := 11, ground := Go.Ground.guard }], guard := some (11, false) }) (v := .bool false) (by kernel_rfl) (fun _ _ _ h => h) (Or.inl ⟨by kernel_rfl, fun W hW => by go_simp⟩) ?_
  simp only [List.getElem_toArray, List.getElem_cons_zero, List.getElem_cons_succ, Act.put, List.setIfInBounds_toArray, List.set_cons_zero, List.set_cons_succ]
  refine seq_take (o := { dst := some 39, op := Go.Op.pick (Go.Operand.tmp 34) (Go.Operand.const (Go.Value.bool true)) (Go.Operand.tmp 38), type := 4, pos := "law.go:63", after := #[{ on := 11, ground := Go.Ground.data }, { on := 15, ground := Go.Ground.data }], guard := none }) (v := .bool false) (by kernel_rfl) (fun _ _ _ h => h) (Or.inl ⟨by kernel_rfl, fun W hW => by go_simp⟩) ?_
  simp only [List.getElem_toArray, List.getElem_cons_zero, List.getElem_cons_succ, Act.put, List.setIfInBounds_toArray, List.set_cons_zero, List.set_cons_succ]
  show (Exit.then _ _) .normal _ _
  go_wp2
  go_ret
  exact ⟨rfl, B5.out.trans (B57.out.mono B5.out.size)⟩
set_option maxHeartbeats 2000000 in
theorem ledgers_yes {w : World} {E : Nat → Addr} {a : Option Addr} {n c : Nat} {X : List Cx} {ys : List Nm} (hE : Hid (Sent w (fun g => g < 18) E)) (hC : Hid (Cms w 0 a n X)) (hz : Hid (a = none → c = 0)) (hn : n ≤ 4096) (hy : Hid (X.map Cx.cm = ys.map Nm.cm)) (ha : Hid (∀ y ∈ ys, Nb y ∧ frm y.cm = true)) :
    Calls Tryd.prog 5 #[.slice a n c] w fun e w' => e = .returned (.bool true) ∧ Hid (Below w.heap.size w w') := by
  go_enter Tryd.func5, Tryd.ntmps5
  go_upto_region 3 with (go_at_call 9; refine (alive_n _).mono ?_; rintro e w2 ⟨rfl, h2⟩)
  have C2 : Hid (Cms w2 0 a n X) := hC.out.below h2.out
  go_upto_region 4 with (go_at_call 10; refine (copy_n C2 hz).mono ?_; rintro e w3 ⟨a3, c3, rfl, h3⟩)
  obtain ⟨Y, hY, OY, b3⟩ := h3.out
  have HY : Hid (led Y = led X) := hY
  have O3 : Hid (Cms w3 0 a3 n Y) := OY.cms.mono (Nat.zero_le _)
  have B3 : Hid (Below w.heap.size w w3) := h2.out.trans (b3.mono h2.out.size)
  have E3 : Hid (Sent w3 (fun g => g < 18) E) := hE.out.below B3.out
  clear h3 hY OY b3 C2 h2
  go_upto_region 5 with (go_at_call 20; refine (write_yes E3 (by decide) O3 hn (show Hid (Y.map Cx.cm = ys.map Nm.cm) from HY.out.trans hy.out) ha).mono ?_; rintro e w4 ⟨gb, nb, rfl, h4⟩; have BW4 := h4.out.2.2; have K4 : Hid (Blk w4 gb (sealL (wrL ys))) := h4.out.1; have NB4 : Hid (nb = (wrL ys).length + 4) := h4.out.2.1)
  have B4 : Hid (Below w.heap.size w w4) := B3.out.trans (BW4.mono B3.out.size)
  have O4 : Hid (Cms w4 0 a3 n Y) := O3.out.below BW4
  have C4 : Hid (Cms w4 0 a n X) := hC.out.below B4.out
  go_upto_region 6 with (go_at_call 21; refine (refwrite_yes C4 hn hy ha).mono ?_; rintro e w5 ⟨bw, nw, dw, rfl, h5⟩; have BW5 := h5.out.2.2; have OW : Hid (Own w5 w4.heap.size bw nw dw (sealL (wrL ys))) := h5.out.1; have NW : Hid (nw ≤ 10000100) := h5.out.2.1)
  have B5 : Hid (Below w.heap.size w w5) := B4.out.trans (BW5.mono B4.out.size)
  have O5 : Hid (Cms w5 0 a3 n Y) := O4.out.below BW5
  have C5 : Hid (Cms w5 0 a n X) := hC.out.below B5.out
  have E5 : Hid (Sent w5 (fun g => g < 18) E) := hE.out.below B5.out
  have SM : Hid (decide (led Y = led X) = true) := decide_eq_true HY.out
  have LYS : Hid (ys.length ≤ 4096) := by
    have h1 := congrArg List.length hy.out
    simp at h1
    have := hC.out.len
    show _ ≤ _
    omega
  have SL : Hid ((∀ x ∈ sealL (wrL ys), x < 256) ∧ (sealL (wrL ys)).length ≤ 10000100) := ⟨OW.out.lt, by have h1 := OW.out.len; have := NW.out; omega⟩
  have NBL : Hid (nb = (sealL (wrL ys)).length) := by
    have h4 : (sealL (wrL ys)).length = (wrL ys).length + 4 := by unfold sealL; simp [be4]
    rw [h4]
    exact NB4.out
  have Q1 : Hid (∀ W : World, Below w5.heap.size w5 W → (convert 35 9 (.slice (some ⟨gb, 0, none⟩) nb nb)).run Tryd.prog W = .ok (.string (spell (sealL (wrL ys)))) W) := fun W hW => by
    have h := Blk.sln ((K4.out.below BW5 K4.out.lt).below hW (Nat.lt_of_lt_of_le K4.out.lt BW5.size)) SL.out.1 (by have := SL.out.2; have := NBL.out; omega)
    rw [← NBL.out] at h
    exact conv_n h
  have Q2 : Hid (∀ W : World, Below w5.heap.size w5 W → (convert 35 9 (.slice bw nw dw)).run Tryd.prog W = .ok (.string (spell (sealL (wrL ys)))) W) := fun W hW => conv_n ((OW.out.below hW).sln (by have := NW.out; omega))
  refine wp_region_flat (ops := opr5a) (C := fun W => Below w5.heap.size w5 W) [(0, false), (1, true), (2, false), (3, false), (4, false), (5, false), (6, false), (7, false), (8, false), (9, false), (10, false), (11, false), (12, false), (13, false), (14, true), (15, false), (16, false)] (by kernel_rfl) (Below.refl _ _) ?_
  refine seq_take (o := { dst := some 23, op := Go.Op.move (Go.Operand.tmp 5), type := 33, pos := "law.go:63", after := #[], guard := none }) (v := .nilIface) (by kernel_rfl) (fun _ _ _ h => h) (Or.inl ⟨by kernel_rfl, fun W hW => by go_simp⟩) ?_
  simp only [List.getElem_toArray, List.getElem_cons_zero, List.getElem_cons_succ, Act.put, List.setIfInBounds_toArray, List.set_cons_zero, List.set_cons_succ]
  refine seq_call (o := { dst := some 24, op := Go.Op.call { callee := Go.Callee.value (Go.Operand.func 22), args := #[Go.Operand.tmp 23], argTypes := #[33] }, type := 3, pos := "law.go:63", after := #[{ on := 0, ground := Go.Ground.data }], guard := none }) (by kernel_rfl) (fun KK hK => ?_)
  rw [if_pos (by kernel_rfl)]
  go_simp
  go_wp2_with (go_at_call 22; refine (num0).mono ?_; rintro e w6 ⟨rfl, h6⟩)
  refine hK.out _ _ (h6.out) ?_
  clear hK KK
  try simp only [List.getElem_toArray, List.getElem_cons_zero, List.getElem_cons_succ, Act.put, List.setIfInBounds_toArray, List.set_cons_zero, List.set_cons_succ]
  refine seq_take (o := { dst := some 25, op := Go.Op.move (Go.Operand.tmp 7), type := 3, pos := "law.go:63", after := #[], guard := none }) (v := .int .i64 0) (by kernel_rfl) (fun _ _ _ h => h) (Or.inl ⟨by kernel_rfl, fun W hW => by go_simp⟩) ?_
  simp only [List.getElem_toArray, List.getElem_cons_zero, List.getElem_cons_succ, Act.put, List.setIfInBounds_toArray, List.set_cons_zero, List.set_cons_succ]
  refine seq_take (o := { dst := some 26, op := Go.Op.binOp Go.BinOp.neq 3 (Go.Operand.tmp 24) (Go.Operand.tmp 25) 3, type := 4, pos := "law.go:63", after := #[{ on := 1, ground := Go.Ground.data }, { on := 2, ground := Go.Ground.data }], guard := none }) (v := .bool false) (by kernel_rfl) (fun _ _ _ h => h) (Or.inl ⟨by kernel_rfl, fun W hW => by go_simp⟩) ?_
  simp only [List.getElem_toArray, List.getElem_cons_zero, List.getElem_cons_succ, Act.put, List.setIfInBounds_toArray, List.set_cons_zero, List.set_cons_succ]
  refine seq_take (o := { dst := some 27, op := Go.Op.move (Go.Operand.tmp 26), type := 4, pos := "law.go:63", after := #[{ on := 3, ground := Go.Ground.data }, { on := 1, ground := Go.Ground.chain }], guard := none }) (v := .bool false) (by kernel_rfl) (fun _ _ _ h => h) (Or.inl ⟨by kernel_rfl, fun W hW => by go_simp⟩) ?_
  simp only [List.getElem_toArray, List.getElem_cons_zero, List.getElem_cons_succ, Act.put, List.setIfInBounds_toArray, List.set_cons_zero, List.set_cons_succ]
  refine seq_take (o := { dst := some 28, op := Go.Op.move (Go.Operand.tmp 4), type := 35, pos := "law.go:63", after := #[{ on := 4, ground := Go.Ground.guard }], guard := some (4, false) }) (v := .slice (some ⟨gb, 0, none⟩) nb nb) (by kernel_rfl) (fun _ _ _ h => h) (Or.inl ⟨by kernel_rfl, fun W hW => by go_simp⟩) ?_
  simp only [List.getElem_toArray, List.getElem_cons_zero, List.getElem_cons_succ, Act.put, List.setIfInBounds_toArray, List.set_cons_zero, List.set_cons_succ]
  refine seq_take (o := { dst := some 29, op := Go.Op.convert 35 9 (Go.Operand.tmp 28), type := 9, pos := "law.go:63", after := #[{ on := 5, ground := Go.Ground.data }, { on := 4, ground := Go.Ground.guard }], guard := some (4, false) }) (v := .string (spell (sealL (wrL ys)))) (by kernel_rfl) (fun _ _ _ h => h) (Or.inl ⟨by kernel_rfl, fun W hW => by have q0 := Q1.out W hW; go_simp⟩) ?_
  simp only [List.getElem_toArray, List.getElem_cons_zero, List.getElem_cons_succ, Act.put, List.setIfInBounds_toArray, List.set_cons_zero, List.set_cons_succ]
  refine seq_take (o := { dst := some 30, op := Go.Op.move (Go.Operand.tmp 6), type := 35, pos := "law.go:63", after := #[{ on := 4, ground := Go.Ground.guard }], guard := some (4, false) }) (v := .slice bw nw dw) (by kernel_rfl) (fun _ _ _ h => h) (Or.inl ⟨by kernel_rfl, fun W hW => by go_simp⟩) ?_
  simp only [List.getElem_toArray, List.getElem_cons_zero, List.getElem_cons_succ, Act.put, List.setIfInBounds_toArray, List.set_cons_zero, List.set_cons_succ]
  refine seq_take (o := { dst := some 31, op := Go.Op.convert 35 9 (Go.Operand.tmp 30), type := 9, pos := "law.go:63", after := #[{ on := 7, ground := Go.Ground.data }, { on := 4, ground := Go.Ground.guard }], guard := some (4, false) }) (v := .string (spell (sealL (wrL ys)))) (by kernel_rfl) (fun _ _ _ h => h) (Or.inl ⟨by kernel_rfl, fun W hW => by have q0 := Q2.out W hW; go_simp⟩) ?_
  simp only [List.getElem_toArray, List.getElem_cons_zero, List.getElem_cons_succ, Act.put, List.setIfInBounds_toArray, List.set_cons_zero, List.set_cons_succ]
  refine seq_take (o := { dst := some 32, op := Go.Op.binOp Go.BinOp.neq 9 (Go.Operand.tmp 29) (Go.Operand.tmp 31) 9, type := 4, pos := "law.go:63", after := #[{ on := 6, ground := Go.Ground.data }, { on := 8, ground := Go.Ground.data }, { on := 4, ground := Go.Ground.guard }], guard := some (4, false) }) (v := .bool false) (by kernel_rfl) (fun _ _ _ h => h) (Or.inl ⟨by kernel_rfl, fun W hW => by have q0 := fun d w => eq_str d (spell (sealL (wrL ys))) w; go_simp⟩) ?_
  simp only [List.getElem_toArray, List.getElem_cons_zero, List.getElem_cons_succ, Act.put, List.setIfInBounds_toArray, List.set_cons_zero, List.set_cons_succ]
  refine seq_take (o := { dst := some 33, op := Go.Op.pick (Go.Operand.tmp 27) (Go.Operand.const (Go.Value.bool true)) (Go.Operand.tmp 32), type := 4, pos := "law.go:63", after := #[{ on := 4, ground := Go.Ground.data }, { on := 9, ground := Go.Ground.data }], guard := none }) (v := .bool false) (by kernel_rfl) (fun _ _ _ h => h) (Or.inl ⟨by kernel_rfl, fun W hW => by go_simp⟩) ?_
  simp only [List.getElem_toArray, List.getElem_cons_zero, List.getElem_cons_succ, Act.put, List.setIfInBounds_toArray, List.set_cons_zero, List.set_cons_succ]
  refine seq_take (o := { dst := some 34, op := Go.Op.move (Go.Operand.tmp 33), type := 4, pos := "law.go:63", after := #[{ on := 10, ground := Go.Ground.data }, { on := 4, ground := Go.Ground.chain }], guard := none }) (v := .bool false) (by kernel_rfl) (fun _ _ _ h => h) (Or.inl ⟨by kernel_rfl, fun W hW => by go_simp⟩) ?_
  simp only [List.getElem_toArray, List.getElem_cons_zero, List.getElem_cons_succ, Act.put, List.setIfInBounds_toArray, List.set_cons_zero, List.set_cons_succ]
  refine seq_take (o := { dst := some 35, op := Go.Op.move (Go.Operand.tmp 3), type := 30, pos := "law.go:63", after := #[{ on := 11, ground := Go.Ground.guard }], guard := some (11, false) }) (v := .slice a3 n c3) (by kernel_rfl) (fun _ _ _ h => h) (Or.inl ⟨by kernel_rfl, fun W hW => by go_simp⟩) ?_
  simp only [List.getElem_toArray, List.getElem_cons_zero, List.getElem_cons_succ, Act.put, List.setIfInBounds_toArray, List.set_cons_zero, List.set_cons_succ]
  refine seq_take (o := { dst := some 36, op := Go.Op.move (Go.Operand.tmp 0), type := 30, pos := "law.go:63", after := #[{ on := 11, ground := Go.Ground.guard }], guard := some (11, false) }) (v := .slice a n c) (by kernel_rfl) (fun _ _ _ h => h) (Or.inl ⟨by kernel_rfl, fun W hW => by go_simp⟩) ?_
  simp only [List.getElem_toArray, List.getElem_cons_zero, List.getElem_cons_succ, Act.put, List.setIfInBounds_toArray, List.set_cons_zero, List.set_cons_succ]
  refine seq_call (o := { dst := some 37, op := Go.Op.call { callee := Go.Callee.value (Go.Operand.func 23), args := #[Go.Operand.tmp 35, Go.Operand.tmp 36], argTypes := #[30, 30] }, type := 4, pos := "law.go:63", after := #[{ on := 12, ground := Go.Ground.data }, { on := 13, ground := Go.Ground.data }, { on := 11, ground := Go.Ground.chain }, { on := 11, ground := Go.Ground.guard }], guard := some (11, false) }) (by kernel_rfl) (fun KK hK => ?_)
  rw [if_pos (by kernel_rfl)]
  go_simp
  have O6 : Hid (Cms w6 0 a3 n Y) := O5.out.below h6.out
  have C6 : Hid (Cms w6 0 a n X) := C5.out.below h6.out
  go_wp2_with (go_at_call 23; refine (same_n O6 C6).mono ?_; rintro e w7 ⟨rfl, h7⟩; rw [SM.out])
  have B57 : Hid (Below w5.heap.size w5 w7) := h6.out.trans (h7.out.mono h6.out.size)
  refine hK.out _ _ (B57.out) ?_
  clear hK KK
  try simp only [List.getElem_toArray, List.getElem_cons_zero, List.getElem_cons_succ, Act.put, List.setIfInBounds_toArray, List.set_cons_zero, List.set_cons_succ]
  refine seq_take (o := { dst := some 38, op := Go.Op.unOp Go.UnOp.not 4 (Go.Operand.tmp 37), type := 4, pos := "law.go:63", after := #[{ on := 14, ground := Go.Ground.data }, { on := 11, ground := Go.Ground.guard }], guard := some (11, false) }) (v := .bool false) (by kernel_rfl) (fun _ _ _ h => h) (Or.inl ⟨by kernel_rfl, fun W hW => by go_simp⟩) ?_
  simp only [List.getElem_toArray, List.getElem_cons_zero, List.getElem_cons_succ, Act.put, List.setIfInBounds_toArray, List.set_cons_zero, List.set_cons_succ]
  refine seq_take (o := { dst := some 39, op := Go.Op.pick (Go.Operand.tmp 34) (Go.Operand.const (Go.Value.bool true)) (Go.Operand.tmp 38), type := 4, pos := "law.go:63", after := #[{ on := 11, ground := Go.Ground.data }, { on := 15, ground := Go.Ground.data }], guard := none }) (v := .bool false) (by kernel_rfl) (fun _ _ _ h => h) (Or.inl ⟨by kernel_rfl, fun W hW => by go_simp⟩) ?_
  simp only [List.getElem_toArray, List.getElem_cons_zero, List.getElem_cons_succ, Act.put, List.setIfInBounds_toArray, List.set_cons_zero, List.set_cons_succ]
  show (Exit.then _ _) .normal _ _
  have B7 : Hid (Below w.heap.size w w7) := B5.out.trans (B57.out.mono B5.out.size)
  have K7 : Hid (Blk w7 gb (sealL (wrL ys))) := ((K4.out.below BW5 K4.out.lt).below B57.out (Nat.lt_of_lt_of_le K4.out.lt BW5.size))
  have S7 : Hid (Sln w7 (some ⟨gb, 0, none⟩) nb (sealL (wrL ys))) := by
    have h := Blk.sln K7.out SL.out.1 (by have := SL.out.2; have := NBL.out; omega)
    rwa [← NBL.out] at h
  have Z7 : Hid (some (⟨gb, 0, none⟩ : Addr) = none → nb = 0) := fun h => by cases h
  have E7 : Hid (Sent w7 (fun g => g < 18) E) := hE.out.below B7.out
  have OP : Hid (opn (sealL (wrL ys)) = (wrL ys, 0)) := opn_seal _
  have OP2 : Hid ((opn (sealL (wrL ys))).2 = 0) := by rw [OP.out]; rfl
  have OR : Hid (rdW (opn (sealL (wrL ys))).1 = some ys) := by rw [OP.out]; exact rdW_there LYS.out ha.out
  go_upto_region 11 with (go_at_call 24; refine (readA_yes S7 Z7 (Nat.le_refl _) E7 (by decide) (by decide) OP2 OR).mono ?_; rintro e w9 ⟨la, ln, lc, rfl, h9⟩)
  obtain ⟨b9, Z, hZ, OZ⟩ := h9.out
  have OB : Hid (Cms w9 0 la ln Z) := OZ.cms.mono (Nat.zero_le _)
  have B9 : Hid (Below w.heap.size w w9) := B7.out.trans (b9.mono B7.out.size)
  have C9 : Hid (Cms w9 0 a n X) := hC.out.below B9.out
  have SB : Hid (decide (led Z = led X) = true) := decide_eq_true (by rw [hZ, led_cm]; exact hy.out.symm)
  clear h9 b9 hZ OZ
  refine wp_region_flat (ops := opr5b) (C := fun W => Below w9.heap.size w9 W) [(0, false), (1, false), (2, false), (3, false), (4, false), (5, true), (6, false), (7, false)] (by kernel_rfl) (Below.refl _ _) ?_
  refine seq_take (o := { dst := some 47, op := Go.Op.move (Go.Operand.tmp 5), type := 33, pos := "law.go:70", after := #[], guard := none }) (v := .nilIface) (by kernel_rfl) (fun _ _ _ h => h) (Or.inl ⟨by kernel_rfl, fun W hW => by go_simp⟩) ?_
  simp only [List.getElem_toArray, List.getElem_cons_zero, List.getElem_cons_succ, Act.put, List.setIfInBounds_toArray, List.set_cons_zero, List.set_cons_succ]
  refine seq_take (o := { dst := some 48, op := Go.Op.binOp Go.BinOp.eql 33 (Go.Operand.tmp 47) (Go.Operand.const Go.Value.nilIface) 33, type := 4, pos := "law.go:70", after := #[{ on := 0, ground := Go.Ground.data }], guard := none }) (v := .bool true) (by kernel_rfl) (fun _ _ _ h => h) (Or.inl ⟨by kernel_rfl, fun W hW => by go_simp⟩) ?_
  simp only [List.getElem_toArray, List.getElem_cons_zero, List.getElem_cons_succ, Act.put, List.setIfInBounds_toArray, List.set_cons_zero, List.set_cons_succ]
  refine seq_take (o := { dst := some 49, op := Go.Op.move (Go.Operand.tmp 48), type := 4, pos := "law.go:70", after := #[{ on := 1, ground := Go.Ground.data }], guard := none }) (v := .bool true) (by kernel_rfl) (fun _ _ _ h => h) (Or.inl ⟨by kernel_rfl, fun W hW => by go_simp⟩) ?_
  simp only [List.getElem_toArray, List.getElem_cons_zero, List.getElem_cons_succ, Act.put, List.setIfInBounds_toArray, List.set_cons_zero, List.set_cons_succ]
  refine seq_take (o := { dst := some 50, op := Go.Op.move (Go.Operand.tmp 8), type := 30, pos := "law.go:70", after := #[{ on := 2, ground := Go.Ground.guard }], guard := some (2, true) }) (v := .slice la ln lc) (by kernel_rfl) (fun _ _ _ h => h) (Or.inl ⟨by kernel_rfl, fun W hW => by go_simp⟩) ?_
  simp only [List.getElem_toArray, List.getElem_cons_zero, List.getElem_cons_succ, Act.put, List.setIfInBounds_toArray, List.set_cons_zero, List.set_cons_succ]
  refine seq_take (o := { dst := some 51, op := Go.Op.move (Go.Operand.tmp 0), type := 30, pos := "law.go:70", after := #[{ on := 2, ground := Go.Ground.guard }], guard := some (2, true) }) (v := .slice a n c) (by kernel_rfl) (fun _ _ _ h => h) (Or.inl ⟨by kernel_rfl, fun W hW => by go_simp⟩) ?_
  simp only [List.getElem_toArray, List.getElem_cons_zero, List.getElem_cons_succ, Act.put, List.setIfInBounds_toArray, List.set_cons_zero, List.set_cons_succ]
  refine seq_call (o := { dst := some 52, op := Go.Op.call { callee := Go.Callee.value (Go.Operand.func 23), args := #[Go.Operand.tmp 50, Go.Operand.tmp 51], argTypes := #[30, 30] }, type := 4, pos := "law.go:70", after := #[{ on := 3, ground := Go.Ground.data }, { on := 4, ground := Go.Ground.data }, { on := 2, ground := Go.Ground.chain }, { on := 2, ground := Go.Ground.guard }], guard := some (2, true) }) (by kernel_rfl) (fun KK hK => ?_)
  rw [if_pos (by kernel_rfl)]
  go_simp
  go_wp2_with (go_at_call 23; refine (same_n OB C9).mono ?_; rintro e w10 ⟨rfl, h10⟩; rw [SB.out])
  refine hK.out _ _ (h10.out) ?_
  clear hK KK
  try simp only [List.getElem_toArray, List.getElem_cons_zero, List.getElem_cons_succ, Act.put, List.setIfInBounds_toArray, List.set_cons_zero, List.set_cons_succ]
  refine seq_take (o := { dst := some 53, op := Go.Op.pick (Go.Operand.tmp 49) (Go.Operand.tmp 52) (Go.Operand.const (Go.Value.bool false)), type := 4, pos := "law.go:70", after := #[{ on := 2, ground := Go.Ground.data }, { on := 5, ground := Go.Ground.data }], guard := none }) (v := .bool true) (by kernel_rfl) (fun _ _ _ h => h) (Or.inl ⟨by kernel_rfl, fun W hW => by go_simp⟩) ?_
  simp only [List.getElem_toArray, List.getElem_cons_zero, List.getElem_cons_succ, Act.put, List.setIfInBounds_toArray, List.set_cons_zero, List.set_cons_succ]
  refine seq_take (o := { dst := some 2, op := Go.Op.assign (Go.Operand.tmp 53), type := 4, pos := "law.go:70", after := #[{ on := 6, ground := Go.Ground.data }, { on := 5, ground := Go.Ground.chain }, { on := 0, ground := Go.Ground.phase }, { on := 1, ground := Go.Ground.phase }, { on := 2, ground := Go.Ground.phase }, { on := 3, ground := Go.Ground.phase }, { on := 4, ground := Go.Ground.phase }, { on := 5, ground := Go.Ground.phase }, { on := 6, ground := Go.Ground.phase }], guard := none }) (v := .bool true) (by kernel_rfl) (fun _ _ _ h => h) (Or.inl ⟨by kernel_rfl, fun W hW => by go_simp⟩) ?_
  simp only [List.getElem_toArray, List.getElem_cons_zero, List.getElem_cons_succ, Act.put, List.setIfInBounds_toArray, List.set_cons_zero, List.set_cons_succ]
  show (Exit.then _ _) .normal _ _
  go_wp2
  go_ret
  exact ⟨rfl, B9.out.trans (h10.out.mono B9.out.size)⟩
theorem ledgers_n {w : World} {E : Nat → Addr} {a : Option Addr} {n c : Nat} {X : List Cx} (hE : Hid (Sent w (fun g => g < 18) E)) (hC : Hid (Cms w 0 a n X)) (hz : Hid (a = none → c = 0)) :
    Calls Tryd.prog 5 #[.slice a n c] w fun e w' => e = .returned (.bool true) ∧ Hid (Below w.heap.size w w') := by
  by_cases hn : n ≤ 4096
  · by_cases hb : ∃ x ∈ X, frm x.cm = false
    · exact ledgers_state hE hC hz hn hb
    · obtain ⟨ys, h1, h2⟩ := frm_all (X := X) (fun x hx => by
        rcases Bool.eq_false_or_eq_true (frm x.cm) with h | h
        · exact h
        · exact absurd ⟨x, hx, h⟩ hb)
      exact ledgers_yes hE hC hz hn h1 h2
  · exact ledgers_large hE hC hz (by omega)
end Go.Proofs.YtoegfckafnlknaaDoor
