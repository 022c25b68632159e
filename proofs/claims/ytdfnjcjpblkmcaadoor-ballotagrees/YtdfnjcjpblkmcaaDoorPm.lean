/- ask: the proposal: Copy and a command's memory, in whatever order, and the append. -/
import Derived.Test.YtdfnjcjpblkmcaaDoorPl
namespace Go.Proofs.YtdfnjcjpblkmcaaDoor
open Go.ChangeShapes Go.WideShapes Go.ChangeAt Go.RowKit
set_option maxRecDepth 20000
set_option linter.unusedVariables false
set_option linter.unusedSimpArgs false
def ops17 : Array Oper := #[{ dst := some 69, op := Go.Op.move (Go.Operand.tmp 12), type := 35, pos := "law.go:274", after := #[], guard := none }, { dst := some 70, op := Go.Op.call { callee := Go.Callee.value (Go.Operand.func 27), args := #[Go.Operand.tmp 69], argTypes := #[35] }, type := 35, pos := "law.go:274", after := #[{ on := 0, ground := Go.Ground.data }], guard := none }, { dst := some 71, op := Go.Op.fieldAddr 66 (Go.Operand.tmp 4) 3, type := 0, pos := "law.go:274", after := #[], guard := none }, { dst := some 72, op := Go.Op.load 3 (Go.Operand.tmp 71), type := 3, pos := "law.go:274", after := #[{ on := 2, ground := Go.Ground.data }], guard := none }, { dst := some 73, op := Go.Op.fieldAddr 66 (Go.Operand.tmp 4) 0, type := 0, pos := "law.go:274", after := #[], guard := none }, { dst := some 74, op := Go.Op.fieldAddr 34 (Go.Operand.tmp 73) 0, type := 0, pos := "law.go:274", after := #[{ on := 4, ground := Go.Ground.data }], guard := none }, { dst := some 75, op := Go.Op.load 3 (Go.Operand.tmp 74), type := 3, pos := "law.go:274", after := #[{ on := 5, ground := Go.Ground.data }], guard := none }, { dst := some 76, op := Go.Op.fieldAddr 66 (Go.Operand.tmp 4) 0, type := 0, pos := "law.go:274", after := #[], guard := none }, { dst := some 77, op := Go.Op.fieldAddr 34 (Go.Operand.tmp 76) 1, type := 0, pos := "law.go:274", after := #[{ on := 7, ground := Go.Ground.data }], guard := none }, { dst := some 78, op := Go.Op.load 3 (Go.Operand.tmp 77), type := 3, pos := "law.go:274", after := #[{ on := 8, ground := Go.Ground.data }], guard := none }, { dst := some 79, op := Go.Op.build 77 #[(2, Go.Operand.tmp 75), (0, Go.Operand.tmp 78)], type := 77, pos := "law.go:274", after := #[{ on := 6, ground := Go.Ground.data }, { on := 9, ground := Go.Ground.data }], guard := none }, { dst := some 80, op := Go.Op.build 81 #[(0, Go.Operand.const (Go.Value.int Go.IntKind.i64 10)), (8, Go.Operand.tmp 72), (1, Go.Operand.tmp 79)], type := 81, pos := "law.go:274", after := #[{ on := 3, ground := Go.Ground.data }, { on := 10, ground := Go.Ground.data }], guard := none }, { dst := some 81, op := Go.Op.buildSlice 35 1 #[(0, Go.Operand.tmp 80)], type := 35, pos := "law.go:274", after := #[{ on := 11, ground := Go.Ground.data }], guard := none }, { dst := some 82, op := Go.Op.call { callee := Go.Callee.builtin Go.Builtin.append, args := #[Go.Operand.tmp 70, Go.Operand.tmp 81], argTypes := #[35, 35] }, type := 35, pos := "law.go:274", after := #[{ on := 1, ground := Go.Ground.data }, { on := 12, ground := Go.Ground.data }, { on := 1, ground := Go.Ground.chain }], guard := none }, { dst := some 12, op := Go.Op.assign (Go.Operand.tmp 82), type := 35, pos := "law.go:274", after := #[{ on := 13, ground := Go.Ground.data }, { on := 13, ground := Go.Ground.chain }, { on := 0, ground := Go.Ground.phase }, { on := 1, ground := Go.Ground.phase }, { on := 2, ground := Go.Ground.phase }, { on := 3, ground := Go.Ground.phase }, { on := 4, ground := Go.Ground.phase }, { on := 5, ground := Go.Ground.phase }, { on := 6, ground := Go.Ground.phase }, { on := 7, ground := Go.Ground.phase }, { on := 8, ground := Go.Ground.phase }, { on := 9, ground := Go.Ground.phase }, { on := 10, ground := Go.Ground.phase }, { on := 11, ground := Go.Ground.phase }, { on := 12, ground := Go.Ground.phase }, { on := 13, ground := Go.Ground.phase }], guard := none }]
def cxT (rr qq tag : Int) : Cx := ⟨⟨10, qq, 0, rr, ⟨#[]⟩, ⟨#[]⟩, 0, 0, 0, 0, 0, 0, 0, ⟨#[]⟩, 0, [], tag, 0⟩, none, 0, 0⟩
structure Bz (W : World) (g4 : Nat) (rr qq tag : Int) : Prop where
  b0 : W.cell? ⟨g4, 0, none⟩ = some (.int .i64 rr)
  b1 : W.cell? ⟨g4, 1, none⟩ = some (.int .i64 qq)
  b4 : W.cell? ⟨g4, 4, none⟩ = some (.int .i64 tag)
theorem Bz.below {W W' : World} {g4 : Nat} {rr qq tag : Int} (h : Bz W g4 rr qq tag) (hb : Below W.heap.size W W') : Bz W' g4 rr qq tag :=
  ⟨(hb.cell (p := ⟨g4, 0, none⟩) (cell_lt h.b0)).trans h.b0, (hb.cell (p := ⟨g4, 1, none⟩) (cell_lt h.b1)).trans h.b1, (hb.cell (p := ⟨g4, 4, none⟩) (cell_lt h.b4)).trans h.b4⟩
def E17 (wd V : World) (rr qq tag : Int) (lv : List Cm) (a : Option Addr) (m c : Nat) : Prop := ∃ X, led X = lv ++ [(cxT rr qq tag).cm] ∧ Lg V a m c X ∧ Below wd.heap.size wd V
theorem e17 {wd W V : World} {rr qq tag : Int} {lv : List Cm} {lo : Nat} {ya : Option Addr} {m yc : Nat} {Y : List Cx} {a : Option Addr} {c : Nat} (y1 : led Y = lv) (y2 : Oc W lo ya m yc Y) (on : V.ownsRow lo 81 18 (.slice a (m + 1) c) (m + 1) (flat Y ++ encX (cxT rr qq tag))) (gr : W.grownBy V (blkOf ya)) (wb : Below wd.heap.size wd W) (hlo : wd.heap.size ≤ lo) (hnp : ∀ x ∈ lv, x.ps = []) (hm : m ≤ 1000) : E17 wd V rr qq tag lv a (m + 1) c := by
  have ef : flat Y ++ encX (cxT rr qq tag) = flat (Y ++ [cxT rr qq tag]) := by rw [flat_app]; simp [flat]
  rw [ef] at on
  have oc : Oc V lo a (m + 1) c (Y ++ [cxT rr qq tag]) := by
    refine ⟨on, by omega, fun x hx => ?_, fun x hx => ?_⟩
    · rcases List.mem_append.1 hx with h | h
      · obtain ⟨h1, h2⟩ := y2.ps x h
        exact ⟨rown_bel h1 (fun q e => gr.block q (h1.lt q e).2 (fun e2 => rown_ne h1 y2.row (by decide) e (by rw [ownBlock_slice]; exact e2.symm))), h2⟩
      · obtain rfl := List.mem_singleton.1 h
        exact ⟨World.ownsRow_nil V lo 3 1, Nat.zero_le _⟩
    · rcases List.mem_append.1 hx with h | h
      · exact y2.st x h
      · obtain rfl := List.mem_singleton.1 h
        exact ⟨Nat.zero_le _, Nat.zero_le _, Nat.zero_le _⟩
  have el : led (Y ++ [cxT rr qq tag]) = lv ++ [(cxT rr qq tag).cm] := by rw [← y1]; simp [led]
  refine ⟨_, el, oc.lg (fun x hx => ?_), wb.trans (grown_below gr wb.size (fun q hq => Nat.le_trans hlo (y2.row.lt q (by rw [ownBlock_slice]; exact hq)).1))⟩
  rw [el] at hx
  rcases List.mem_append.1 hx with h | h
  · exact hnp x h
  · obtain rfl := List.mem_singleton.1 h
    rfl
set_option maxHeartbeats 4000000 in
theorem reg17 {Q : Exit → Act → World → Prop} {w : World} {g4 : Nat} {la : Option Addr} {lm lc : Nat} {X : List Cx} {rr qq tag : Int} {u0 u1 u2 u3 u5 u6 u7 u8 u9 u10 u11 u13 u14 u15 u16 u17 u18 u19 u20 u21 u22 u23 u24 u25 u26 u27 u28 u29 u30 u31 u32 u33 u34 u35 u36 u37 u38 u39 u40 u41 u42 u43 u44 u45 u46 u47 u48 u49 u50 u51 u52 u53 u54 u55 u56 u57 u58 u59 u60 u61 u62 u63 u64 u65 u66 u67 u68 u69 u70 u71 u72 u73 u74 u75 u76 u77 u78 u79 u80 u81 u82 u83 u84 u85 u86 u87 u88 u89 u90 u91 : Value}
    (hC : Hid (Cms w 0 la lm X)) (HZ : Hid (la = none → lc = 0)) (BZ0 : Bz w g4 rr qq tag) (HNP : Hid (∀ x ∈ led X, x.ps = [])) (hlm : lm ≤ 1000) (hQp : ∀ x a (d : Nat) v W, Q (.panic x) (a.put (some d) v) W → Q (.panic x) a W)
    (hQ : ∀ (V : World) (p : Nat) (ya : Option Addr) (yc : Nat) (a' : Option Addr) (c' : Nat), E17 w.drew V rr qq tag (led X) a' (lm + 1) c' → Q .normal { tmps := #[u0, u1, u2, u3, .pointer (some ⟨g4, 0, none⟩), u5, u6, u7, u8, u9, u10, u11, (.slice a' (lm + 1) c'), u13, u14, u15, u16, u17, u18, u19, u20, u21, u22, u23, u24, u25, u26, u27, u28, u29, u30, u31, u32, u33, u34, u35, u36, u37, u38, u39, u40, u41, u42, u43, u44, u45, u46, u47, u48, u49, u50, u51, u52, u53, u54, u55, u56, u57, u58, u59, u60, u61, u62, u63, u64, u65, u66, u67, u68, .slice la lm lc, .slice ya lm yc, .pointer (some ⟨g4, 4, none⟩), .int .i64 tag, .pointer (some ⟨g4, 0, none⟩), .pointer (some ⟨g4, 0, none⟩), .int .i64 rr, .pointer (some ⟨g4, 0, none⟩), .pointer (some ⟨g4, 1, none⟩), .int .i64 qq, .agg #[.int .i64 qq, .int .i64 0, .int .i64 rr], .agg #[.int .i64 10, .int .i64 qq, .int .i64 0, .int .i64 rr, .string ⟨#[]⟩, .string ⟨#[]⟩, .int .i64 0, .int .i64 0, .int .i64 0, .int .i64 0, .int .i64 0, .int .i64 0, .int .i64 0, .string ⟨#[]⟩, .int .i64 0, .slice none 0 0, .int .i64 tag, .int .i64 0], .slice (some ⟨p, 0, none⟩) 1 1, (.slice a' (lm + 1) c'), u83, u84, u85, u86, u87, u88, u89, u90, u91], defers := [] } V) :
    (Code.region 17 ops17 true).wp Tryd.prog Q { tmps := #[u0, u1, u2, u3, .pointer (some ⟨g4, 0, none⟩), u5, u6, u7, u8, u9, u10, u11, .slice la lm lc, u13, u14, u15, u16, u17, u18, u19, u20, u21, u22, u23, u24, u25, u26, u27, u28, u29, u30, u31, u32, u33, u34, u35, u36, u37, u38, u39, u40, u41, u42, u43, u44, u45, u46, u47, u48, u49, u50, u51, u52, u53, u54, u55, u56, u57, u58, u59, u60, u61, u62, u63, u64, u65, u66, u67, u68, u69, u70, u71, u72, u73, u74, u75, u76, u77, u78, u79, u80, u81, u82, u83, u84, u85, u86, u87, u88, u89, u90, u91], defers := [] } w := by
  unfold ops17
  obtain ⟨wd, Hwd⟩ : ∃ wd, Hid (w.drew = wd) := ⟨_, rfl⟩
  rw [Hwd.out] at hQ
  have BZ : Bz wd g4 rr qq tag := by rw [← Hwd.out]; exact ⟨BZ0.b0, BZ0.b1, BZ0.b4⟩
  have HC : Hid (Cms wd 0 la lm X) := by rw [← Hwd.out]; exact hC.out.below (Below.refl _ _).drew
  clear BZ0
  refine wp_region_till (S := tillP 13 (fun W => Bz W g4 rr qq tag)) (by kernel_rfl) (.inr (by rw [Hwd.out]; exact BZ)) (fun hS => ?_)
  rw [Hwd.out] at hS ⊢
  refine till_take (i := 0) (v := .slice la lm lc) rfl (by kernel_rfl) (by kernel_rfl) (by kernel_rfl) (fun _ _ _ h => hQp _ _ _ _ _ h) (fun L w => tillP_set (by decide)) (Or.inl ⟨by rfl, fun w => by go_simp⟩) hS (fun hSb => ?_)
  simp only [List.getElem_toArray, List.getElem_cons_zero, List.getElem_cons_succ, Act.put, List.setIfInBounds_toArray, List.set_cons_zero, List.set_cons_succ]
  clear hS
  refine till_take (i := 2) (v := .pointer (some ⟨g4, 4, none⟩)) rfl (by kernel_rfl) (by kernel_rfl) (by kernel_rfl) (fun _ _ _ h => hQp _ _ _ _ _ h) (fun L w => tillP_set (by decide)) (Or.inl ⟨by rfl, fun w => by go_simp⟩) hSb (fun hS => ?_)
  simp only [List.getElem_toArray, List.getElem_cons_zero, List.getElem_cons_succ, Act.put, List.setIfInBounds_toArray, List.set_cons_zero, List.set_cons_succ]
  clear hSb
  refine till_readc (i := 3) (cs := [11, 12, 13]) (v := .int .i64 tag) (T := fun W => Bz W g4 rr qq tag) rfl (by kernel_rfl) (by kernel_rfl) (by kernel_rfl) (by kernel_rfl) (by kernel_rfl) (fun _ _ _ h => hQp _ _ _ _ _ h) (fun L w => tillP_set (by decide)) (fun L w h1 h2 => tillP_out (h1 13 (by simp)) h2) (Or.inl ⟨by rfl, fun w h => by have q0 := h.b4; go_simp⟩) hS (fun hSb => ?_)
  simp only [List.getElem_toArray, List.getElem_cons_zero, List.getElem_cons_succ, Act.put, List.setIfInBounds_toArray, List.set_cons_zero, List.set_cons_succ]
  clear hS
  refine till_take (i := 4) (v := .pointer (some ⟨g4, 0, none⟩)) rfl (by kernel_rfl) (by kernel_rfl) (by kernel_rfl) (fun _ _ _ h => hQp _ _ _ _ _ h) (fun L w => tillP_set (by decide)) (Or.inl ⟨by rfl, fun w => by go_simp⟩) hSb (fun hS => ?_)
  simp only [List.getElem_toArray, List.getElem_cons_zero, List.getElem_cons_succ, Act.put, List.setIfInBounds_toArray, List.set_cons_zero, List.set_cons_succ]
  clear hSb
  refine till_take (i := 5) (v := .pointer (some ⟨g4, 0, none⟩)) rfl (by kernel_rfl) (by kernel_rfl) (by kernel_rfl) (fun _ _ _ h => hQp _ _ _ _ _ h) (fun L w => tillP_set (by decide)) (Or.inl ⟨by rfl, fun w => by go_simp⟩) hS (fun hSb => ?_)
  simp only [List.getElem_toArray, List.getElem_cons_zero, List.getElem_cons_succ, Act.put, List.setIfInBounds_toArray, List.set_cons_zero, List.set_cons_succ]
  clear hS
  refine till_readc (i := 6) (cs := [10, 11, 12, 13]) (v := .int .i64 rr) (T := fun W => Bz W g4 rr qq tag) rfl (by kernel_rfl) (by kernel_rfl) (by kernel_rfl) (by kernel_rfl) (by kernel_rfl) (fun _ _ _ h => hQp _ _ _ _ _ h) (fun L w => tillP_set (by decide)) (fun L w h1 h2 => tillP_out (h1 13 (by simp)) h2) (Or.inl ⟨by rfl, fun w h => by have q0 := h.b0; go_simp⟩) hSb (fun hS => ?_)
  simp only [List.getElem_toArray, List.getElem_cons_zero, List.getElem_cons_succ, Act.put, List.setIfInBounds_toArray, List.set_cons_zero, List.set_cons_succ]
  clear hSb
  refine till_take (i := 7) (v := .pointer (some ⟨g4, 0, none⟩)) rfl (by kernel_rfl) (by kernel_rfl) (by kernel_rfl) (fun _ _ _ h => hQp _ _ _ _ _ h) (fun L w => tillP_set (by decide)) (Or.inl ⟨by rfl, fun w => by go_simp⟩) hS (fun hSb => ?_)
  simp only [List.getElem_toArray, List.getElem_cons_zero, List.getElem_cons_succ, Act.put, List.setIfInBounds_toArray, List.set_cons_zero, List.set_cons_succ]
  clear hS
  refine till_take (i := 8) (v := .pointer (some ⟨g4, 1, none⟩)) rfl (by kernel_rfl) (by kernel_rfl) (by kernel_rfl) (fun _ _ _ h => hQp _ _ _ _ _ h) (fun L w => tillP_set (by decide)) (Or.inl ⟨by rfl, fun w => by go_simp⟩) hSb (fun hS => ?_)
  simp only [List.getElem_toArray, List.getElem_cons_zero, List.getElem_cons_succ, Act.put, List.setIfInBounds_toArray, List.set_cons_zero, List.set_cons_succ]
  clear hSb
  refine till_readc (i := 9) (cs := [10, 11, 12, 13]) (v := .int .i64 qq) (T := fun W => Bz W g4 rr qq tag) rfl (by kernel_rfl) (by kernel_rfl) (by kernel_rfl) (by kernel_rfl) (by kernel_rfl) (fun _ _ _ h => hQp _ _ _ _ _ h) (fun L w => tillP_set (by decide)) (fun L w h1 h2 => tillP_out (h1 13 (by simp)) h2) (Or.inl ⟨by rfl, fun w h => by have q0 := h.b1; go_simp⟩) hS (fun hSb => ?_)
  simp only [List.getElem_toArray, List.getElem_cons_zero, List.getElem_cons_succ, Act.put, List.setIfInBounds_toArray, List.set_cons_zero, List.set_cons_succ]
  clear hS
  refine till_take (i := 10) (v := .agg #[.int .i64 qq, .int .i64 0, .int .i64 rr]) rfl (by kernel_rfl) (by kernel_rfl) (by kernel_rfl) (fun _ _ _ h => hQp _ _ _ _ _ h) (fun L w => tillP_set (by decide)) (Or.inl ⟨by rfl, fun w => by go_simp⟩) hSb (fun hS => ?_)
  simp only [List.getElem_toArray, List.getElem_cons_zero, List.getElem_cons_succ, Act.put, List.setIfInBounds_toArray, List.set_cons_zero, List.set_cons_succ]
  clear hSb
  refine till_take (i := 11) (v := .agg #[.int .i64 10, .int .i64 qq, .int .i64 0, .int .i64 rr, .string ⟨#[]⟩, .string ⟨#[]⟩, .int .i64 0, .int .i64 0, .int .i64 0, .int .i64 0, .int .i64 0, .int .i64 0, .int .i64 0, .string ⟨#[]⟩, .int .i64 0, .slice none 0 0, .int .i64 tag, .int .i64 0]) rfl (by kernel_rfl) (by kernel_rfl) (by kernel_rfl) (fun _ _ _ h => hQp _ _ _ _ _ h) (fun L w => tillP_set (by decide)) (Or.inl ⟨by rfl, fun w => by go_simp⟩) hS (fun hSb => ?_)
  simp only [List.getElem_toArray, List.getElem_cons_zero, List.getElem_cons_succ, Act.put, List.setIfInBounds_toArray, List.set_cons_zero, List.set_cons_succ]
  clear hS
  refine till_two (i := 1) (j := 12) (by kernel_rfl) ?_ ?_
  · refine ⟨_, rfl, fun K hK => ?_⟩
    simp only [List.getElem_toArray, List.getElem_cons_zero, List.getElem_cons_succ]
    rw [if_pos (by rfl)]
    go_simp
    go_wp2_with (go_at_call 27; refine (copy_n HC HZ).mono ?_; rintro e w5 ⟨ya, yc, rfl, H5⟩)
    have B5 : Hid (Below wd.heap.size wd w5) := by obtain ⟨Y, y1, y2, y3⟩ := H5.out; exact y3
    refine hK.out _ _ (.inr (BZ.below B5.out)) (fun hS => ?_)
    clear hK K
    try simp only [List.getElem_toArray, List.getElem_cons_zero, List.getElem_cons_succ, Act.put, List.setIfInBounds_toArray, List.set_cons_zero, List.set_cons_succ]
    clear hSb
    refine till_one (i := 12) (by kernel_rfl) rfl (fun K hK => ?_)
    simp only [List.getElem_toArray, List.getElem_cons_zero, List.getElem_cons_succ]
    rw [if_pos (by rfl)]
    go_simp
    obtain ⟨p, Hp⟩ : ∃ p, Hid (w5.heap.size = p) := ⟨_, rfl⟩
    obtain ⟨w6, Hw6⟩ : ∃ w6, Hid (w5.alloc (.cells #[.int .i64 10, .int .i64 qq, .int .i64 0, .int .i64 rr, .string ⟨#[]⟩, .string ⟨#[]⟩, .int .i64 0, .int .i64 0, .int .i64 0, .int .i64 0, .int .i64 0, .int .i64 0, .int .i64 0, .string ⟨#[]⟩, .int .i64 0, .slice none 0 0, .int .i64 tag, .int .i64 0] 81) = w6) := ⟨_, rfl⟩
    have kp : w6.heap[p]? = some (.cells (encX (cxT rr qq tag)).toArray 81 (0, 0)) := by rw [← Hw6.out, ← Hp.out]; exact heap_alloc_new w5 _
    have B6 : Hid (Below w5.heap.size w5 w6) := by rw [← Hw6.out]; exact alloc1 w5 _
    obtain ⟨Y, Y1, Y2, YB, WB, YW⟩ : ∃ Y, Hid (led Y = led X) ∧ Hid (Oc w6 wd.heap.size ya lm yc Y) ∧ Hid (wd.heap.size ≤ w6.heap.size) ∧ Hid (Below wd.heap.size wd w6) ∧ Hid (wd.heap.size ≤ wd.heap.size) := by
      obtain ⟨Y, y1, y2, y3⟩ := H5.out
      exact ⟨Y, y1, y2.below B6.out, Nat.le_trans y3.size B6.out.size, y3.trans (B6.out.mono y3.size), Nat.le_refl _⟩
    rw [Hw6.out, Hp.out]
    refine hK.out _ _ (.inr ((BZ.below B5.out).below B6.out)) (fun hSb => ?_)
    clear hK K
    try simp only [List.getElem_toArray, List.getElem_cons_zero, List.getElem_cons_succ, Act.put, List.setIfInBounds_toArray, List.set_cons_zero, List.set_cons_succ]
    clear hS
    refine till_one (i := 13) (by kernel_rfl) rfl (fun K hK => ?_)
    simp only [List.getElem_toArray, List.getElem_cons_zero, List.getElem_cons_succ]
    rw [if_pos (by rfl)]
    obtain ⟨a9, c9, V, ap_, on_, gr_, nw_⟩ := app_one Tryd.underlying35 info81 rfl (by decide) Y2.out.row (cs := encX (cxT rr qq tag)) kp (encX_len _) (encX_one _) (by omega) (by unfold maxLen; omega) YB.out
    have AP_ : Hid ((Builtin.append_ #[35, 35] 35 #[.slice ya lm yc, .slice (some ⟨p, 0, none⟩) 1 1]).run Tryd.prog w6 = .ok (.slice a9 (lm + 1) c9) V) := ap_
    have FIN : Hid (E17 wd V rr qq tag (led X) a9 (lm + 1) c9) := e17 Y1.out Y2.out on_ gr_ WB.out YW.out HNP.out (by omega)
    refine wp_app (.tmp 70) (.tmp 81) (by rfl) (by rfl) (by rfl) (by rfl) AP_ ?_
    refine hK.out _ _ (.inl (by rfl)) (fun hS => ?_)
    clear hK K
    try simp only [List.getElem_toArray, List.getElem_cons_zero, List.getElem_cons_succ, Act.put, List.setIfInBounds_toArray, List.set_cons_zero, List.set_cons_succ]
    clear hSb
    refine till_take (i := 14) (v := .slice a9 (lm + 1) c9) rfl (by kernel_rfl) (by kernel_rfl) (by kernel_rfl) (fun _ _ _ h => hQp _ _ _ _ _ h) (fun L w => tillP_set (by decide)) (Or.inl ⟨by rfl, fun w => by go_simp⟩) hS (fun hSb => ?_)
    simp only [List.getElem_toArray, List.getElem_cons_zero, List.getElem_cons_succ, Act.put, List.setIfInBounds_toArray, List.set_cons_zero, List.set_cons_succ]
    clear hS
    refine till_done (by kernel_rfl) ?_ _
    exact hQ V p ya yc a9 c9 FIN.out
  · refine ⟨_, rfl, fun K hK => ?_⟩
    simp only [List.getElem_toArray, List.getElem_cons_zero, List.getElem_cons_succ]
    rw [if_pos (by rfl)]
    go_simp
    obtain ⟨p, Hp⟩ : ∃ p, Hid (wd.heap.size = p) := ⟨_, rfl⟩
    obtain ⟨w4, Hw4⟩ : ∃ w4, Hid (wd.alloc (.cells #[.int .i64 10, .int .i64 qq, .int .i64 0, .int .i64 rr, .string ⟨#[]⟩, .string ⟨#[]⟩, .int .i64 0, .int .i64 0, .int .i64 0, .int .i64 0, .int .i64 0, .int .i64 0, .int .i64 0, .string ⟨#[]⟩, .int .i64 0, .slice none 0 0, .int .i64 tag, .int .i64 0] 81) = w4) := ⟨_, rfl⟩
    have k4 : w4.heap[p]? = some (.cells (encX (cxT rr qq tag)).toArray 81 (0, 0)) := by rw [← Hw4.out, ← Hp.out]; exact heap_alloc_new wd _
    have B4 : Hid (Below wd.heap.size wd w4) := by rw [← Hw4.out]; exact alloc1 wd _
    have HC4 : Hid (Cms w4 0 la lm X) := HC.out.below B4.out
    rw [Hw4.out, Hp.out]
    refine hK.out _ _ (.inr (BZ.below B4.out)) (fun hS => ?_)
    clear hK K
    try simp only [List.getElem_toArray, List.getElem_cons_zero, List.getElem_cons_succ, Act.put, List.setIfInBounds_toArray, List.set_cons_zero, List.set_cons_succ]
    clear hSb
    refine till_one (i := 1) (by kernel_rfl) rfl (fun K hK => ?_)
    simp only [List.getElem_toArray, List.getElem_cons_zero, List.getElem_cons_succ]
    rw [if_pos (by rfl)]
    go_simp
    go_wp2_with (go_at_call 27; refine (copy_n HC4 HZ).mono ?_; rintro e w5 ⟨ya, yc, rfl, H5⟩)
    have B5 : Hid (Below w4.heap.size w4 w5) := by obtain ⟨Y, y1, y2, y3⟩ := H5.out; exact y3
    have kp : w5.heap[p]? = some (.cells (encX (cxT rr qq tag)).toArray 81 (0, 0)) := (B5.out.block p (Array.getElem?_eq_some_iff.1 k4).1).trans k4
    obtain ⟨Y, Y1, Y2, YB, WB, YW⟩ : ∃ Y, Hid (led Y = led X) ∧ Hid (Oc w5 w4.heap.size ya lm yc Y) ∧ Hid (w4.heap.size ≤ w5.heap.size) ∧ Hid (Below wd.heap.size wd w5) ∧ Hid (wd.heap.size ≤ w4.heap.size) := by
      obtain ⟨Y, y1, y2, y3⟩ := H5.out
      exact ⟨Y, y1, y2, y3.size, B4.out.trans (y3.mono B4.out.size), B4.out.size⟩
    refine hK.out _ _ (.inr ((BZ.below B4.out).below B5.out)) (fun hSb => ?_)
    clear hK K
    try simp only [List.getElem_toArray, List.getElem_cons_zero, List.getElem_cons_succ, Act.put, List.setIfInBounds_toArray, List.set_cons_zero, List.set_cons_succ]
    clear hS
    refine till_one (i := 13) (by kernel_rfl) rfl (fun K hK => ?_)
    simp only [List.getElem_toArray, List.getElem_cons_zero, List.getElem_cons_succ]
    rw [if_pos (by rfl)]
    obtain ⟨a9, c9, V, ap_, on_, gr_, nw_⟩ := app_one Tryd.underlying35 info81 rfl (by decide) Y2.out.row (cs := encX (cxT rr qq tag)) kp (encX_len _) (encX_one _) (by omega) (by unfold maxLen; omega) YB.out
    have AP_ : Hid ((Builtin.append_ #[35, 35] 35 #[.slice ya lm yc, .slice (some ⟨p, 0, none⟩) 1 1]).run Tryd.prog w5 = .ok (.slice a9 (lm + 1) c9) V) := ap_
    have FIN : Hid (E17 wd V rr qq tag (led X) a9 (lm + 1) c9) := e17 Y1.out Y2.out on_ gr_ WB.out YW.out HNP.out (by omega)
    refine wp_app (.tmp 70) (.tmp 81) (by rfl) (by rfl) (by rfl) (by rfl) AP_ ?_
    refine hK.out _ _ (.inl (by rfl)) (fun hS => ?_)
    clear hK K
    try simp only [List.getElem_toArray, List.getElem_cons_zero, List.getElem_cons_succ, Act.put, List.setIfInBounds_toArray, List.set_cons_zero, List.set_cons_succ]
    clear hSb
    refine till_take (i := 14) (v := .slice a9 (lm + 1) c9) rfl (by kernel_rfl) (by kernel_rfl) (by kernel_rfl) (fun _ _ _ h => hQp _ _ _ _ _ h) (fun L w => tillP_set (by decide)) (Or.inl ⟨by rfl, fun w => by go_simp⟩) hS (fun hSb => ?_)
    simp only [List.getElem_toArray, List.getElem_cons_zero, List.getElem_cons_succ, Act.put, List.setIfInBounds_toArray, List.set_cons_zero, List.set_cons_succ]
    clear hS
    refine till_done (by kernel_rfl) ?_ _
    exact hQ V p ya yc a9 c9 FIN.out
end Go.Proofs.YtdfnjcjpblkmcaaDoor
